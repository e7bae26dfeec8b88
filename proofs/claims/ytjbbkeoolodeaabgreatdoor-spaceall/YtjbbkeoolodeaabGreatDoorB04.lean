import Derived.Test.YtjbbkeoolodeaabGreatDoorB01
import Derived.ProofKit
import Derived.OpenShut
import Derived.Test.YtjbbkeoolodeaabGreatDoorB00
namespace Go.Proofs.YtjbbkeoolodeaabGreatDoor
open Go.ChangeShapes Go.WideShapes Go.ChangeAt Go.RowKit
set_option linter.unusedVariables false
set_option maxRecDepth 100000
set_option maxHeartbeats 16000000
set_option linter.unusedSimpArgs false
theorem z9c (w:World):Calls Tryz.prog 138 #[] w fun e w'=>e=.returned (.agg #[.int .i64 2,.int .i64 4,.int .i64 6,.int .i64 8,.int .i64 12,.int .i64 16,.int .i64 20,.int .i64 32])/\Below w.heap.size w w':=by
 have h0:=Below.refl w.heap.size w;go_enter Tryz.func138,Tryz.ntmps138
 go_wp2;refine ret8 (g:=w.heap.size) rfl rfl rfl (heap_alloc_new _ _) ⟨rfl,?_⟩;exact h0.alloc (Nat.le_refl _) _
def J6 (c:Int):Int:=if c=0 then 32 else if c=1 then 16 else if c=2 then 10 else if c=3 then 8 else if c=4 then 5 else if c=5 then 4 else if c=6 then 3 else if c=7 then 2 else 0
def ofV (s:Int):Int:=if s<1 then -1 else if s<=2 then 0 else if s<=4 then 1 else if s<=6 then 2 else if s<=8 then 3 else if s<=12 then 4 else if s<=16 then 5 else if s<=20 then 6 else if s<=32 then 7 else if s<=1024 then 8 else -1
def J4 (s:Int):Int:=if 32<s/\s<=1024 then (s+63) / 64 else 0
theorem q4t (c:Int):(c=0\/c=1\/c=2\/c=3\/c=4\/c=5\/c=6\/c=7)\/(c<0\/8<=c):=by omega
theorem z5h {c:Int} (h:c<0\/8<=c):J2 c=0:=by unfold J2;split <;> (try omega);repeat (split <;> (try omega))
theorem q4p {c:Int} (h:c<0\/8<=c):J6 c=0:=by unfold J6;split <;> (try omega);repeat (split <;> (try omega))
theorem z9b (c:Int) (w:World):Calls Tryz.prog 130 #[.int .i64 c] w fun e w'=>e=.returned (.int .i64 (J2 c))/\Below w.heap.size w w':=by
 have h0:=Below.refl w.heap.size w;by_cases hc:0<=c/\c<8
 ·obtain⟨h1,h2⟩:=hc;obtain⟨k,rfl⟩:∃ k:Nat,c=k:=⟨c.toNat,by omega⟩
  have hi:=q5n k (by omega);go_enter Tryz.func130,Tryz.ntmps130
  go_wp2_with (go_at_call 138;refine(G5 (z9c _) (by assumption)).mono ?_;rintro e w1 ⟨rfl,hg⟩);go_ret;exact⟨rfl,by assumption⟩
 ·have hc:c<0\/8<=c:=by omega
  rw[z5h hc];rcases hc with h | h
  all_goals
   go_enter Tryz.func130,Tryz.ntmps130
   go_wp2;go_ret;exact⟨rfl,h0⟩
theorem q0o (c v:Int) (h:J2 c=v) (w:World):Calls Tryz.prog 130 #[.int .i64 c] w fun e w'=>e=.returned (.int .i64 v)/\Below w.heap.size w w':=by
 rw[<-h];exact z9b c w
theorem z0d (c:Int):(∃ x y:Int,J2 c=x/\J6 c=y/\0<=c/\c<=7/\((c=0/\x=2/\y=32)\/(c=1/\x=4/\y=16)\/(c=2/\x=6/\y=10)\/(c=3/\x=8/\y=8)\/(c=4/\x=12/\y=5)\/(c=5/\x=16/\y=4)\/(c=6/\x=20/\y=3)\/(c=7/\x=32/\y=2)))
  ∨ (J2 c=0/\J6 c=0/\(c<0\/8<=c)):=by
 rcases q4t c with hc | hc
 ·left
  refine⟨_,_,rfl,rfl,by omega,by omega,?_⟩;rcases hc with rfl | rfl | rfl | rfl | rfl | rfl | rfl | rfl <;> decide
 ·right;exact⟨z5h hc,q4p hc,hc⟩
theorem z5e (c:Int) (w:World):Calls Tryz.prog 155 #[.int .i64 c] w fun e w'=>e=.returned (.int .i64 (J6 c))/\Below w.heap.size w w':=by
 have h0:=Below.refl w.heap.size w;rcases z0d c with ⟨x,y,hx,hy,c0,c7,h⟩ | ⟨hx,hy,hc⟩
 ·rw[hy];have H:=Z0 (q0o c x hx);clear hx hy c0 c7;rcases h with ⟨rfl,rfl,rfl⟩ | ⟨rfl,rfl,rfl⟩ | ⟨rfl,rfl,rfl⟩ | ⟨rfl,rfl,rfl⟩ | ⟨rfl,rfl,rfl⟩ | ⟨rfl,rfl,rfl⟩ | ⟨rfl,rfl,rfl⟩ | ⟨rfl,rfl,rfl⟩
  all_goals
   go_enter Tryz.func155,Tryz.ntmps155
   go_wp2_with (go_at_call 130;refine(G5 (H.out _) (by assumption)).mono ?_;rintro e w1 ⟨rfl,hg⟩);go_ret;exact⟨rfl,by assumption⟩
 ·rw[hy];have H:=Z0 (q0o c 0 hx);clear hx hy hc;go_enter Tryz.func155,Tryz.ntmps155
  go_wp2_with (go_at_call 130;refine(G5 (H.out _) (by assumption)).mono ?_;rintro e w1 ⟨rfl,hg⟩);go_ret;exact⟨rfl,by assumption⟩
theorem q3g (c v:Int) (h:J6 c=v) (w:World):Calls Tryz.prog 155 #[.int .i64 c] w fun e w'=>e=.returned (.int .i64 v)/\Below w.heap.size w w':=by
 rw[<-h];exact z5e c w
def z0o (c i:Int):Int:=if 0<=i/\i<J6 c then i*J2 c else -1
theorem j0i (c i:Int) (w:World):Calls Tryz.prog 163 #[.int .i64 c,.int .i64 i] w fun e w'=>e=.returned (.int .i64 (z0o c i))/\Below w.heap.size w w':=by
 have h0:=Below.refl w.heap.size w;have hb:J6 c<=32/\0<=J6 c:=by rcases z0d c with ⟨x,y,hx,hy,c0,c7,h⟩ | ⟨hx,hy,hc⟩ <;> omega
 have hw:0<=J2 c/\J2 c<=32:=by rcases z0d c with ⟨x,y,hx,hy,c0,c7,h⟩ | ⟨hx,hy,hc⟩ <;> omega
 obtain⟨b1,b2⟩:=hb;by_cases hi:0<=i/\i<J6 c
 ·obtain⟨i1,i2⟩:=hi;have hp1:0<=i*J2 c:=Int.mul_nonneg i1 hw.1;have hp2:i*J2 c<=32*32:=Int.mul_le_mul (by omega) hw.2 hw.1 (by omega);have hs:z0o c i=i*J2 c:=by unfold z0o;rw[if_pos ⟨i1,i2⟩]
  rw[hs];have HB:=Z0 (q3g c _ rfl);have HW:=Z0 (q0o c _ rfl);clear hs hw;generalize J6 c=y at *
  generalize J2 c=x at *
  have hwr:wrap64 (i*x)=i*x:=by unfold wrap64;omega
  clear hp1 hp2;go_enter Tryz.func163,Tryz.ntmps163
  go_wp2_with (first
   | (go_at_call 155;refine(G5 (HB.out _) (by assumption)).mono ?_;rintro e w1 ⟨rfl,hg⟩)
   | (go_at_call 130;refine(G5 (HW.out _) (by assumption)).mono ?_;rintro e w1 ⟨rfl,hg⟩))
  go_ret;refine⟨U3 ?_,by assumption⟩;first | rfl | exact hwr
 ·have hs:z0o c i = -1:=by unfold z0o;rw[if_neg hi]
  rw[hs];have HB:=Z0 (q3g c _ rfl);clear hs hw b1 b2;generalize J6 c=y at *
  have hi:i<0\/(0<=i/\y<=i):=by omega
  rcases hi with h | ⟨h1,h2⟩
  all_goals
   go_enter Tryz.func163,Tryz.ntmps163
   go_wp2_with (go_at_call 155;refine(G5 (HB.out _) (by assumption)).mono ?_;rintro e w1 ⟨rfl,hg⟩);go_ret;exact⟨rfl,by assumption⟩
theorem q5w {s:Int} (h1:1<=s) (h2:s<=1024) (k:Nat) (hk:k<8):(J2 k<s) ↔ (k:Int)<ofV s:=by
 have hi:k=0\/k=1\/k=2\/k=3\/k=4\/k=5\/k=6\/k=7:=by omega
 rcases hi with rfl | rfl | rfl | rfl | rfl | rfl | rfl | rfl <;> simp[J2,ofV] <;> omega
theorem j6o {s:Int} (h1:1<=s) (h2:s<=1024):0<=ofV s/\ofV s<=8:=by unfold ofV;omega
theorem q9z {s:Int} (h:s<1\/1024<s):ofV s = -1:=by unfold ofV;omega
theorem q1c (s:Int) (w:World):Calls Tryz.prog 98 #[.int .i64 s] w fun e w'=>e=.returned (.int .i64 (ofV s))/\Below w.heap.size w w':=by
 have h0:=Below.refl w.heap.size w;by_cases hs:1<=s/\s<=1024
 ·obtain⟨s1,s2⟩:=hs;have HF:=Z0 (q5w s1 s2);obtain⟨q1,q2⟩:=j6o s1 s2;generalize ofV s=q at *
  go_enter Tryz.func98,Tryz.ntmps98
  go_wp2_with (go_at_call 138;refine(G5 (z9c _) (by assumption)).mono ?_;rintro e w1 ⟨rfl,hg⟩);go_loopw [12] (fun i wr=>∃ k:Nat,(k:Int)<=q/\i=.int .i64 k/\Below w.heap.size w wr) (fun i _=>8-(intOf i).toNat)
  case atStart=>exact⟨0,by omega,by simp,hg⟩
  case round=>
   clear hg h0;obtain⟨k,hk,rfl,hB⟩:=hrel;by_cases hk8:k<8
   ·have hi:=q5n k hk8;have hf:=HF.out k hk8;have hk8':(k:Int)<8:=by omega
    generalize J2 k=x at hi hf
    by_cases hx:x<s
    ·have hx':¬ s<=x:=by omega
     have hkq:=hf.1 hx;go_wp2;go_roundw
     case rel=>exact⟨k+1,by omega,by simp,hB⟩
     case measure=>simp[intOf];omega
    ·have hx':s<=x:=by omega
     have hkq:q=k:=by have:=fun h=>hx (hf.2 h);omega
     subst hkq;go_wp2;go_ret;exact⟨rfl,hB⟩
   ·have hkq:k=8:=by omega
    have:q=8:=by omega
    subst hkq this;go_wp2;go_ret;exact⟨rfl,hB⟩
 ·have hs:s<1\/1024<s:=by omega
  rw[q9z hs];rcases hs with h | h
  all_goals
   go_enter Tryz.func98,Tryz.ntmps98
   go_wp2;go_ret;exact⟨rfl,h0⟩
theorem x1u (s v:Int) (h:ofV s=v) (w:World):Calls Tryz.prog 98 #[.int .i64 s] w fun e w'=>e=.returned (.int .i64 v)/\Below w.heap.size w w':=by
 rw[<-h];exact q1c s w
theorem ofV_eight {s:Int}:ofV s=8 ↔ 32<s/\s<=1024:=by unfold ofV;omega
theorem z3x (s:Int) (w:World):Calls Tryz.prog 95 #[.int .i64 s] w fun e w'=>e=.returned (.int .i64 (J4 s))/\Below w.heap.size w w':=by
 have h0:=Below.refl w.heap.size w;by_cases hs:32<s/\s<=1024
 ·have HO:=Z0 (x1u s 8 (ofV_eight.2 hs));have hp:J4 s=(s+63) / 64:=by unfold J4;rw[if_pos hs]
  rw[hp];obtain⟨s1,s2⟩:=hs;clear hp;go_enter Tryz.func95,Tryz.ntmps95
  go_wp2_with (go_at_call 98;refine(G5 (HO.out _) (by assumption)).mono ?_;rintro e w1 ⟨rfl,hg⟩);go_ret;exact⟨U3 (by omega),by assumption⟩
 ·have hq:(ofV s != 8)=true:=by simpa using fun h=>hs (ofV_eight.1 h)
  have hp:J4 s=0:=by unfold J4;rw[if_neg hs]
  have HO:=Z0 (x1u s _ rfl);rw[hp];generalize ofV s=q at *
  clear hp;go_enter Tryz.func95,Tryz.ntmps95
  go_wp2_with (go_at_call 98;refine(G5 (HO.out _) (by assumption)).mono ?_;rintro e w1 ⟨rfl,hg⟩);go_ret;exact⟨rfl,by assumption⟩
end Go.Proofs.YtjbbkeoolodeaabGreatDoor
namespace Go.Proofs.YtjbbkeoolodeaabGreatDoor
open Go.RowKit
set_option linter.unusedVariables false
set_option maxRecDepth 100000
set_option maxHeartbeats 16000000
set_option linter.unusedSimpArgs false
def q7n (n:Int):Bool:=decide (-1<=n/\n<=262143)
theorem z8u (v:Int) (w:World) :
  Calls Tryz.prog 158 #[.int .i64 v] w fun e w'=>e=.returned (.bool (q7n v))/\w'=w:=by
 go_enter Tryz.func158,Tryz.ntmps158
 go_wp2
 all_goals go_ret
 all_goals refine⟨K8 ?_,rfl⟩
 all_goals (unfold q7n;rw[Bool.eq_iff_iff];simp;try omega)
theorem z2u (b:Int):(BitVec.ofInt 64 b).toNat=(b % 18446744073709551616).toNat:=by
 rw[BitVec.toNat_ofInt];rfl
theorem x0n (b t:Int) (h1:-1152921504606846976<=b) (h2:b<=1152921504606846975) (t1:0<=t) (t2:t<8):bits .or .i64 (wrap64 (b*8)) t=b*8+t:=by
 have e:bits .or .i64 (wrap64 (b*8)) t=IntKind.wrap .i64 ((BitVec.ofInt 64 (wrap64 (b*8)) ||| BitVec.ofInt 64 t).toNat:Nat):=rfl;have hw:wrap64 (b*8)=b*8:=by unfold wrap64;omega
 have h:(BitVec.ofInt 64 (b*8) ||| BitVec.ofInt 64 t).toNat=2 ^ 3*(b % 2305843009213693952).toNat+t.toNat:=by
  rw[BitVec.toNat_or,z2u,z2u];have e1:(b*8 % 18446744073709551616).toNat=2 ^ 3*(b % 2305843009213693952).toNat:=by omega
  have e2:(t % 18446744073709551616).toNat=t.toNat:=by omega
  rw[e1,e2,Nat.two_pow_add_eq_or_of_lt (by omega)]
 rw[e,hw,h];simp[IntKind.wrap,IntKind.signed,IntKind.bits];omega
theorem j4k (b t:Int) (w:World) (h1:-1152921504606846976<=b) (h2:b<=1152921504606846975) (t1:0<=t) (t2:t<8) :
  Calls Tryz.prog 159 #[.int .i64 b,.int .i64 t] w fun e w'=>e=.returned (.int .i64 (b*8+t))/\w'=w:=by
 have H:=Z0 (x0n b t h1 h2 t1 t2);clear h1 h2 t1 t2;go_enter Tryz.func159,Tryz.ntmps159
 go_wp2;go_ret;exact⟨U3 H.out,rfl⟩
def Y7 (n:Int):Int:=if q7n n=true then n*8+4 else 0
theorem j4n (n:Int) (w:World) :
  Calls Tryz.prog 129 #[.int .i64 n] w fun e w'=>e=.returned (.int .i64 (Y7 n))/\w'=w:=by
 by_cases hv:q7n n=true
 ·have hw:Y7 n=n*8+4:=by unfold Y7;rw[if_pos hv]
  have hr:-1<=n/\n<=262143:=by unfold q7n at hv;simpa using hv
  have hj:=fun w=>j4k n 4 w (by omega) (by omega) (by omega) (by omega)
  rw[hw];go_enter Tryz.func129,Tryz.ntmps129
  go_wp2_with (first | (go_at_call 159;refine Z5 (hj _) ?_) | (go_at_call 158;refine Z5 (z8u _ _) ?_));go_ret;exact⟨rfl,rfl⟩
 ·have hv':=Bool.eq_false_iff.mpr hv;have hw:Y7 n=0:=by unfold Y7;rw[if_neg hv]
  rw[hw];clear hv;go_enter Tryz.func129,Tryz.ntmps129
  go_wp2_with (first | (go_at_call 158;refine Z5 (z8u _ _) ?_));go_ret;exact⟨rfl,rfl⟩
end Go.Proofs.YtjbbkeoolodeaabGreatDoor
namespace Go.Proofs.YtjbbkeoolodeaabGreatDoor
open Go.ChangeShapes Go.WideShapes Go.ChangeAt Go.RowKit
set_option linter.unusedVariables false
set_option maxRecDepth 100000
set_option maxHeartbeats 16000000
set_option linter.unusedSimpArgs false
def z0n (a k n:Int):Prop:=0<=a/\a<=262143/\1<=k/\k<=31/\1<=n/\n<=1024
def z9m (a k n:Int):Bool:=decide (0<=a/\a<=262143/\1<=k/\k<=31/\1<=n/\n<=1024)
theorem goodB_true {a k n:Int}:z9m a k n=true ↔ z0n a k n:=by unfold z9m z0n;rw[decide_eq_true_eq]
theorem z6x {a k n:Int} (h:z0n a k n):z9m a k n=true:=goodB_true.2 h
theorem z5m {a k n:Int} (h:¬z0n a k n):z9m a k n=false:=by simpa using fun q=>h (goodB_true.1 q)
def xV (a k n:Int):Int:=a*65536+k*2048+n
def z1n (x:Int):Int:=x*10872568911861 % 17592186044416
def X9 (a k n:Int):Int:=if z9m a k n then (k+n*32+z1n (xV a k n)*65536)*8+5 else 0
def kOf (w:Int):Int:=w / 8 % 32
def nOf (w:Int):Int:=w / 256 % 2048
def q9v (a w:Int):Bool:=decide (w ≠ 0/\w=X9 a (kOf w) (nOf w))
theorem z5g (x:Int):0<=z1n x/\z1n x<17592186044416:=by
 unfold z1n;exact⟨Int.emod_nonneg _ (by decide),Int.emod_lt_of_pos _ (by decide)⟩
theorem j4h {x y:Int} (h1:0<=x) (h2:x<17179869184) (h3:0<=y) (h4:y<17179869184) (h:z1n x=z1n y):x=y:=by
 have h0:(x*10872568911861*1693535116381) % 17592186044416=(y*10872568911861*1693535116381) % 17592186044416:=by
  unfold z1n at h;rw[Int.mul_emod,h,<-Int.mul_emod]
 have e:(10872568911861:Int)*1693535116381=1+17592186044416*1046662263065:=by decide
 have e1:∀ z:Int,z*10872568911861*1693535116381=z+17592186044416*(z*1046662263065):=by
  intro z;rw[Int.mul_assoc,e,Int.mul_add,Int.mul_one,Int.mul_left_comm]
 rw[e1,e1,Int.add_mul_emod_self_left,Int.add_mul_emod_self_left,Int.emod_eq_of_lt h1 (Int.lt_trans h2 (by decide)),Int.emod_eq_of_lt h3 (Int.lt_trans h4 (by decide))] at h0;exact h0
theorem z7t {a k n:Int} (h:z0n a k n):X9 a k n=(k+n*32+z1n (xV a k n)*65536)*8+5:=by unfold X9;rw[if_pos (z6x h)]
theorem z6h {a k n:Int} (h:¬z0n a k n):X9 a k n=0:=by unfold X9;rw[z5m h];rfl
theorem q4r {a k n:Int} (h:z0n a k n):0<=xV a k n/\xV a k n<17179869184:=by unfold z0n at h;unfold xV;omega
theorem x_inj {a k n a' k' n':Int} (h:z0n a k n) (h':z0n a' k' n') (e:xV a k n=xV a' k' n'):a=a'/\k=k'/\n=n':=by
 unfold z0n at h h';unfold xV at e;omega
theorem z5k {a k n:Int} (h:z0n a k n):0<X9 a k n/\X9 a k n<=9223372036854775807/\X9 a k n % 8=5/\kOf (X9 a k n)=k/\nOf (X9 a k n)=n/\X9 a k n / 524288=z1n (xV a k n):=by
 have hs:=z5g (xV a k n);rw[z7t h];unfold kOf nOf;generalize z1n (xV a k n)=s at *
 unfold z0n at h;omega
theorem q8m (a k n:Int):0<=X9 a k n/\X9 a k n<=9223372036854775807:=by
 by_cases h:z0n a k n
 ·have:=z5k h;omega
 ·rw[z6h h];omega
theorem readB_true {a w:Int}:q9v a w=true ↔ (w ≠ 0/\w=X9 a (kOf w) (nOf w)):=by unfold q9v;rw[decide_eq_true_eq]
theorem j1r {a w:Int} (h:q9v a w=true):z0n a (kOf w) (nOf w):=by
 rw[readB_true] at h;by_cases g:z0n a (kOf w) (nOf w)
 ·exact g
 ·rw[z6h g] at h;exact absurd h.2 h.1
theorem j4w (b:Int) (k:Nat) (m:Int) (hm:(BitVec.ofInt 64 m).toNat=2 ^ k-1) (hk:(2:Int) ^ k ∣ 18446744073709551616) (h63:(2:Int) ^ k<=9223372036854775808):bits .and .i64 b m=b % 2 ^ k:=by
 have h:(BitVec.ofInt 64 b &&& BitVec.ofInt 64 m).toNat=(b % 18446744073709551616).toNat % 2 ^ k:=by
  rw[BitVec.toNat_and,hm,Nat.and_two_pow_sub_one_eq_mod,z2u]
 have e:bits .and .i64 b m=IntKind.wrap .i64 ((BitVec.ofInt 64 b &&& BitVec.ofInt 64 m).toNat:Nat):=rfl;have hp:(0:Int)<2 ^ k:=Int.pow_pos (by decide);have e2:(((b % 18446744073709551616).toNat % 2 ^ k:Nat):Int)=b % 2 ^ k:=by
  rw[Int.natCast_emod,Int.toNat_of_nonneg (Int.emod_nonneg _ (by decide)),Int.natCast_pow];exact Int.emod_emod_of_dvd b hk
 have r1:=Int.emod_nonneg b (Int.ne_of_gt hp);have r2:=Int.emod_lt_of_pos b hp;rw[e,h,e2];generalize b % 2 ^ k=z at *
 generalize (2:Int) ^ k=p at *
 simp[IntKind.wrap,IntKind.signed,IntKind.bits];omega
theorem x2d (b:Int):bits .and .i64 b 17592186044415=b % 17592186044416:=j4w b 44 17592186044415 (by decide) (by decide) (by decide)
theorem q3l (a c t:Int) (k:Nat) (e:a=c*2 ^ k) (h1:0<=c) (h2:c*2 ^ k+t<=9223372036854775807) (t1:0<=t) (t2:t<2 ^ k):bits .or .i64 a t=a+t:=by
 subst e;have hp:(0:Int)<2 ^ k:=Int.pow_pos (by decide);have hc:0<=c*2 ^ k:=Int.mul_nonneg h1 (Int.le_of_lt hp);have e:bits .or .i64 (c*2 ^ k) t=IntKind.wrap .i64 ((BitVec.ofInt 64 (c*2 ^ k) ||| BitVec.ofInt 64 t).toNat:Nat):=rfl;have e1:(c*2 ^ k % 18446744073709551616).toNat=2 ^ k*c.toNat:=by
  rw[Int.emod_eq_of_lt hc (by omega),Int.toNat_mul h1 (Int.le_of_lt hp),Nat.mul_comm];congr 1
 have e2:(t % 18446744073709551616).toNat=t.toNat:=by omega
 have e3:t.toNat<2 ^ k:=by
  have:((2 ^ k:Nat):Int)=(2:Int) ^ k:=by simp
  omega
 have h:(BitVec.ofInt 64 (c*2 ^ k) ||| BitVec.ofInt 64 t).toNat=2 ^ k*c.toNat+t.toNat:=by
  rw[BitVec.toNat_or,z2u,z2u,e1,e2,Nat.two_pow_add_eq_or_of_lt e3]
 have e4:((2 ^ k*c.toNat+t.toNat:Nat):Int)=c*2 ^ k+t:=by
  rw[Int.natCast_add,Int.natCast_mul,Int.toNat_of_nonneg h1,Int.toNat_of_nonneg t1,Int.natCast_pow,Int.mul_comm];simp
 rw[e,h,e4];generalize c*2 ^ k=z at *
 simp[IntKind.wrap,IntKind.signed,IntKind.bits];omega
theorem B8 (v:Int) (h1:0<=v) (h2:v<=9223372036854775807):wrap64 v=v:=by unfold wrap64;omega
theorem q7z (v:Int):wrap64 v % 17592186044416=v % 17592186044416:=by unfold wrap64;omega
theorem j9q {a k n:Int} (h:z0n a k n):bits .and .i64 (wrap64 (bits .or .i64 (bits .or .i64 (wrap64 (a*65536)) (wrap64 (k*2048))) n*10872568911861)) 17592186044415=z1n (xV a k n):=by
 unfold z0n at h;have w1:wrap64 (a*65536)=a*65536:=B8 _ (by omega) (by omega);have w2:wrap64 (k*2048)=k*2048:=B8 _ (by omega) (by omega);have o1:bits .or .i64 (a*65536) (k*2048)=a*65536+k*2048:=q3l _ a _ 16 rfl (by omega) (by omega) (by omega) (by omega);have o2:bits .or .i64 (a*65536+k*2048) n=a*65536+k*2048+n:=q3l _ (a*32+k) _ 11 (by omega) (by omega) (by omega) (by omega) (by omega);rw[w1,w2,o1,o2,x2d,q7z];rfl
theorem j7p {a k n:Int} (h:z0n a k n):bits .or .i64 (wrap64 (bits .or .i64 (bits .or .i64 (wrap64 (z1n (xV a k n)*65536)) (wrap64 (n*32))) k*8)) 5=X9 a k n:=by
 rw[z7t h];obtain⟨s1,s2⟩:=z5g (xV a k n);generalize z1n (xV a k n)=s at *
 unfold z0n at h;have w1:wrap64 (s*65536)=s*65536:=B8 _ (by omega) (by omega);have w2:wrap64 (n*32)=n*32:=B8 _ (by omega) (by omega);have o1:bits .or .i64 (s*65536) (n*32)=s*65536+n*32:=q3l _ s _ 16 rfl (by omega) (by omega) (by omega) (by omega);have o2:bits .or .i64 (s*65536+n*32) k=s*65536+n*32+k:=q3l _ (s*2048+n) _ 5 (by omega) (by omega) (by omega) (by omega) (by omega);have w3:wrap64 ((s*65536+n*32+k)*8)=(s*65536+n*32+k)*8:=B8 _ (by omega) (by omega);have o3:bits .or .i64 ((s*65536+n*32+k)*8) 5=(s*65536+n*32+k)*8+5:=q3l _ (s*65536+n*32+k) _ 3 rfl (by omega) (by omega) (by omega) (by omega);rw[w1,w2,o1,o2,w3,o3];omega
theorem q8q {x s d f:Int} (h:(s+x*d) % 17592186044416=f % 17592186044416) (hx:x % 2=1):((s+d) % 17592186044416+x / 2*((d+d) % 17592186044416)) % 17592186044416=f % 17592186044416:=by
 rw[<-h,Int.add_emod,Int.mul_emod,Int.emod_emod,Int.emod_emod,<-Int.mul_emod,<-Int.add_emod];congr 1
 have e:x=x / 2*2+1:=by omega
 have:x*d=x / 2*(d+d)+d:=by
  conv=>lhs;rw[e]
  rw[Int.add_mul,Int.mul_assoc,Int.one_mul,Int.two_mul]
 omega
theorem q4a {x s d f:Int} (h:(s+x*d) % 17592186044416=f % 17592186044416) (hx:x % 2 ≠ 1):(s+x / 2*((d+d) % 17592186044416)) % 17592186044416=f % 17592186044416:=by
 rw[<-h,Int.add_emod,Int.mul_emod,Int.emod_emod,<-Int.mul_emod,<-Int.add_emod];congr 1
 have e:x=x / 2*2:=by omega
 have:x*d=x / 2*(d+d):=by
  conv=>lhs;rw[e]
  rw[Int.mul_assoc,Int.two_mul]
 omega
theorem turned {a k n u:Int} (h:z0n a k n) (hu:u ≠ X9 a k n) (hx:u / 524288=X9 a k n / 524288\/u % 524288=X9 a k n % 524288):q9v a u=false:=by
 by_cases r:q9v a u=true
 ·exfalso
  have g:=j1r r;have q:=(readB_true.1 r).2;obtain⟨p1,p2,p3,p4,p5,p6⟩:=z5k h;obtain⟨q1,q2,q3,q4,q5,q6⟩:=z5k g;obtain⟨x1,x2⟩:=q4r h;obtain⟨y1,y2⟩:=q4r g;apply hu;rcases hx with hx | hx
  ·rw[<-q] at q6;rw[hx,p6] at q6;obtain⟨_,e1,e2⟩:=x_inj g h (j4h y1 y2 x1 x2 q6.symm);rw[q,e1,e2]
  ·have e1:kOf u=k:=by rw[<-p4];unfold kOf;generalize X9 a k n=v at *;omega
   have e2:nOf u=n:=by rw[<-p5];unfold nOf;generalize X9 a k n=v at *;omega
   rw[q,e1,e2]
 ·simpa using r
end Go.Proofs.YtjbbkeoolodeaabGreatDoor
namespace Go.Proofs.YtjbbkeoolodeaabGreatDoor
open Go.RowKit
set_option linter.unusedVariables false
set_option maxRecDepth 100000
set_option maxHeartbeats 16000000
set_option linter.unusedSimpArgs false
def B9 (n:Int):Bool:=n == 4 || n == 8 || n == 16 || n == 32 || n == 64 || n == 128 || n == 256 || n == 512
def z1p (k:Int):Bool:=decide (1<=k) && decide (k<=13)
def F4 (k n:Int):Bool:=z1p k && decide (0<=n) && decide (n<=mo k) && (k != 12 || B9 n)
def z3u (k n:Int):Int:=if k=4 then (n+7) / 8 else n
def z3m (k n:Int):Int:=if F4 k n then wd k+z3u k n else 0
def W8 (k s:Int):Bool:=z1p k && decide (wd k<=s) && decide (s<=wd k+z3u k (mo k)) && (k != 12 || B9 (s-1))
theorem known_iff {k:Int}:z1p k=true ↔ 1<=k/\k<=13:=by unfold z1p;simp
theorem z7c {k:Int} (h:z1p k=true):∃ j:Nat,k=j/\1<=j/\j<=13:=⟨k.toNat,by have:=known_iff.1 h;omega,by have:=known_iff.1 h;omega,by have:=known_iff.1 h;omega⟩
theorem j2m {j:Nat} (h1:1<=j) (h2:j<=13):j=1\/j=2\/j=3\/j=4\/j=5\/j=6\/j=7\/j=8\/j=9\/j=10\/j=11\/j=12\/j=13:=by omega
theorem j9u {j:Nat} (h1:1<=j) (h2:j<=13):1<=wd j/\wd j<=5/\0<=mo j/\mo j<=4096/\(j ≠ 4->mo j<=1023)/\(j=4->wd j=2/\mo j=4096)/\(j=12->wd j=1/\mo j=512):=by
 rcases j2m h1 h2 with rfl | rfl | rfl | rfl | rfl | rfl | rfl | rfl | rfl | rfl | rfl | rfl | rfl <;> decide
theorem q0y (k:Int) (w:World):Calls Tryz.prog 93 #[.int .i64 k] w fun e w'=>e=.returned (.bool (z1p k))/\w'=w:=by
 go_enter Tryz.func93,Tryz.ntmps93
 go_wp2
 all_goals go_ret
 all_goals refine⟨K8 ?_,rfl⟩
 all_goals (unfold z1p;rw[Bool.eq_iff_iff];simp;try omega)
theorem q2w (k:Int) (w:World):Calls Tryz.prog 101 #[.int .i64 k] w fun e w'=>e=.returned (.bool (decide (1<=k) && decide (k<=11)))/\w'=w:=by
 go_enter Tryz.func101,Tryz.ntmps101
 go_wp2
 all_goals go_ret
 all_goals refine⟨K8 ?_,rfl⟩
 all_goals (rw[Bool.eq_iff_iff];simp;try omega)
theorem q4m:∀ n:Fin 513,(decide (4<=(n.val:Int)) && (bits .and .i64 (n.val:Int) ((n.val:Int)-1) == 0))=B9 (n.val:Int):=by decide +kernel
theorem q3x (n:Nat) (h:n<=512) (w:World):Calls Tryz.prog 135 #[.int .i64 n] w fun e w'=>e=.returned (.bool (B9 n))/\w'=w:=by
 have H:=q4m ⟨n,by omega⟩;simp only at H;rw[<-H];by_cases h4:4<=n
 ·have h5:(4:Int)<=(n:Int):=by omega
  have h6:wrap64 ((n:Int)-1)=(n:Int)-1:=by unfold wrap64;omega
  have hd:decide ((4:Int)<=(n:Int))=true:=by simpa using h5
  rw[hd,Bool.true_and];clear H h4;go_enter Tryz.func135,Tryz.ntmps135
  go_wp2;go_ret;exact⟨rfl,rfl⟩
 ·have h5:(n:Int)<4:=by omega
  have hd:decide ((4:Int)<=(n:Int))=false:=by simp;omega
  rw[hd,Bool.false_and];clear H h4;go_enter Tryz.func135,Tryz.ntmps135
  go_wp2;go_ret;exact⟨rfl,rfl⟩
theorem z1h {k n:Int} (h:F4 k n=false):z3m k n=0:=by unfold z3m;rw[h];rfl
theorem z0i {k n:Int} (h:F4 k n=true):z3m k n=wd k+z3u k n:=by unfold z3m;rw[h];rfl
theorem q5s (k n:Int) {w:World} (hT:Tab w) :
  Calls Tryz.prog 94 #[.int .i64 k,.int .i64 n] w fun e w'=>e=.returned (.tuple #[.int .i64 (z3m k n),.bool (F4 k n)])/\w'=w:=by
 have HK:=Z0 (q0y k);cases hk:z1p k
 ·have hb:F4 k n=false:=by unfold F4;rw[hk];rfl
  rw[z1h hb,hb];rw[hk] at HK;clear hb hk;go_enter Tryz.func94,Tryz.ntmps94
  go_wp2_with (go_at_call 93;refine Z5 (HK.out _) ?_);go_ret2;exact⟨rfl,rfl⟩
 ·rw[hk] at HK;obtain⟨j,rfl,j1,j2⟩:=z7c hk;obtain⟨c1,c2⟩:=hT.2.1 j (by omega);have W:=Z0 (j9u j1 j2);by_cases hn:n<0
  ·have hb:F4 j n=false:=by unfold F4;rw[hk];simp;omega
   rw[z1h hb,hb];clear hb hk;go_enter Tryz.func94,Tryz.ntmps94
   go_wp2_with (go_at_call 93;refine Z5 (HK.out _) ?_);go_ret2;exact⟨rfl,rfl⟩
  have n0:0<=n:=by omega
  have j0:(0:Int)<=(j:Int):=by omega
  have j14:(j:Int)<14:=by omega
  by_cases hm:mo j<n
  ·have hb:F4 j n=false:=by unfold F4;rw[hk];simp;omega
   rw[z1h hb,hb];clear hb hk hn;generalize mo j=m at *
   go_enter Tryz.func94,Tryz.ntmps94
   go_wp2_with (go_at_call 93;refine Z5 (HK.out _) ?_);go_ret2;exact⟨rfl,rfl⟩
  have hm':n<=mo j:=by omega
  have hp:∀ b,(decide ((0:Int)<=n) && decide (n<=mo j) && b)=b:=by intro b;simp[n0,hm']
  by_cases h12:j=12
  ·subst h12;obtain⟨q,rfl⟩:∃ q:Nat,n=q:=⟨n.toNat,by omega⟩
   have hq:q<=512:=by have:=(W.out.2.2.2.2.2.2 rfl).2;omega
   have HD:=Z0 (q3x q hq);have hsb:F4 12 q=B9 q:=by
    unfold F4;rw[show z1p 12=true from rfl,Bool.true_and,show ((12:Int) != 12)=false from rfl,Bool.false_or];exact hp _
   have hwd:=(W.out.2.2.2.2.2.2 rfl).1;have hq':(q:Int)<=512:=by omega
   cases hs:B9 q
   ·rw[hs] at HD;have hsb':=hsb.trans hs;rw[show ((12:Nat):Int)=12 from rfl] at *;rw[z1h hsb',hsb'];clear hk hn hm hp hsb hs hsb';generalize mo 12=m at *
    go_enter Tryz.func94,Tryz.ntmps94
    go_wp2_with (first | (go_at_call 93;refine Z5 (HK.out _) ?_) | (go_at_call 135;refine Z5 (HD.out _) ?_));go_ret2;exact⟨rfl,rfl⟩
   ·rw[hs] at HD;have hsb':=hsb.trans hs;rw[show ((12:Nat):Int)=12 from rfl] at *;rw[z0i hsb',hsb',hwd,show z3u 12 q=q from rfl];rw[hwd] at c1;clear hk hn hm hp hsb hs hsb' hwd;generalize mo 12=m at *
    go_enter Tryz.func94,Tryz.ntmps94
    go_wp2_with (first | (go_at_call 93;refine Z5 (HK.out _) ?_) | (go_at_call 135;refine Z5 (HD.out _) ?_));go_ret2;exact⟨rfl,rfl⟩
  have hj12:((j:Int) != 12)=true:=by simp;omega
  have hj12':((j:Int) == 12)=false:=by simp;omega
  have hsb:F4 j n=true:=by
   unfold F4;rw[hk,Bool.true_and,hj12,Bool.true_or];exact hp _
  rw[z0i hsb,hsb];by_cases h4:j=4
  ·subst h4;obtain⟨w4,m4⟩:=W.out.2.2.2.2.2.1 rfl;rw[show ((4:Nat):Int)=4 from rfl] at *;rw[w4] at c1 ⊢;rw[show z3u 4 n=(n+7) / 8 from rfl];have b3:n<=4096:=by omega
   clear hk hn hm hp hsb w4 m4;generalize mo 4=m at *
   go_enter Tryz.func94,Tryz.ntmps94
   go_wp2_with (first | (go_at_call 93;refine Z5 (HK.out _) ?_));go_ret2;exact⟨z9a (k:=.i64) (a:=2+(n+8-1) / 8) (by omega) rfl,rfl⟩
  ·have hj4:((j:Int) == 4)=false:=by simp;omega
   rw[show z3u j n=n from by unfold z3u;rw[if_neg (by omega)]];obtain⟨w1,w2,w3,w4,w5,w6⟩:=W.out;have b3:=w5 h4;have b4:n<=1023:=by omega
   clear hk hn hm hp hsb w6 w5 w4 w3 b3;generalize mo j=m at *
   generalize wd j=x at *
   go_enter Tryz.func94,Tryz.ntmps94
   go_wp2_with (first | (go_at_call 93;refine Z5 (HK.out _) ?_));go_ret2;exact⟨rfl,rfl⟩
theorem sizeB_iff {k n:Int}:F4 k n=true ↔ z1p k=true/\0<=n/\n<=mo k/\(k ≠ 12\/B9 n=true):=by
 unfold F4;simp[and_assoc]
theorem fitsB_iff {k s:Int}:W8 k s=true ↔ z1p k=true/\wd k<=s/\s<=wd k+z3u k (mo k)/\(k ≠ 12\/B9 (s-1)=true):=by
 unfold W8;simp[and_assoc]
theorem z1e {k n:Int} (h:k ≠ 4):z3u k n=n:=by unfold z3u;rw[if_neg h]
theorem q6q {n:Int}:z3u 4 n=(n+7) / 8:=rfl
theorem j0y {j:Nat} {s y:Int} (hk:z1p j=true) (j1:1<=j) (j2:j<=13) (h4:j ≠ 4) (s1:-9223372036854775808<=s) (s2:s<=9223372036854775807) (hy:wrap64 (s-wd j)=y):(F4 j y && (z3m j y == s))=W8 j s:=by
 obtain⟨w1,w2,w3,w4,w5,w6,w7⟩:=j9u j1 j2;have m:=w5 h4;rw[Bool.eq_iff_iff,Bool.and_eq_true,beq_iff_eq,fitsB_iff,z1e (by omega)];unfold wrap64 at hy;constructor
 ·rintro⟨h,e⟩;rw[z0i h,z1e (by omega)] at e;obtain⟨_,a,b,c⟩:=sizeB_iff.1 h;refine⟨hk,by omega,by omega,?_⟩;rcases c with c | c
  ·exact .inl c
  ·by_cases e12:j=12
   ·have:=(w7 e12).1;rw[show s-1=y from by omega];exact .inr c
   ·exact .inl (by omega)
 ·rintro⟨_,a,b,c⟩;have hys:y=s-wd j:=by omega
  have h:F4 j y=true:=by
   refine sizeB_iff.2 ⟨hk,by omega,by omega,?_⟩;rcases c with c | c
   ·exact .inl c
   ·by_cases e12:j=12
    ·have:=(w7 e12).1;rw[show y=s-1 from by omega];exact .inr c
    ·exact .inl (by omega)
  refine⟨h,?_⟩;rw[z0i h,z1e (by omega)];omega
theorem q7r {s y z:Int} (s1:-9223372036854775808<=s) (s2:s<=9223372036854775807) (hy:wrap64 (s-2)=y) (hz:wrap64 (y*8)=z):(F4 4 z && (z3m 4 z == s))=W8 4 s:=by
 have m:mo 4=4096:=rfl;have m2:wd 4=2:=rfl;rw[Bool.eq_iff_iff,Bool.and_eq_true,beq_iff_eq,fitsB_iff,q6q,m,m2];unfold wrap64 at hy hz;constructor
 ·rintro⟨h,e⟩;rw[z0i h,q6q,m2] at e;obtain⟨_,a,b,c⟩:=sizeB_iff.1 h;rw[m] at b;exact⟨rfl,by omega,by omega,.inl (by decide)⟩
 ·rintro⟨_,a,b,c⟩;have hys:y=s-2:=by omega
  have hzs:z=y*8:=by omega
  have h:F4 4 z=true:=sizeB_iff.2 ⟨rfl,by omega,by rw[m];omega,.inl (by decide)⟩;refine⟨h,?_⟩;rw[z0i h,q6q,m2];omega
theorem j7h {a b c:Bool} (h:(a && b)=c) (ha:a=true):b=c:=by rw[<-h,ha];rfl
theorem j0d {a b c:Bool} (h:(a && b)=c) (ha:a=false):c=false:=by rw[<-h,ha];rfl
theorem j5g (k s:Int) {w:World} (hT:Tab w) (s1:-9223372036854775808<=s) (s2:s<=9223372036854775807) :
  Calls Tryz.prog 48 #[.int .i64 k,.int .i64 s] w fun e w'=>e=.returned (.bool (W8 k s))/\w'=w:=by
 have HK:=Z0 (q0y k);cases hk:z1p k
 ·have hb:W8 k s=false:=by unfold W8;rw[hk];rfl
  rw[hb];rw[hk] at HK;clear hb hk s1 s2;go_enter Tryz.func48,Tryz.ntmps48
  go_wp2_with (go_at_call 93;refine Z5 (HK.out _) ?_);go_ret;exact⟨rfl,rfl⟩
 ·rw[hk] at HK;obtain⟨j,rfl,j1,j2⟩:=z7c hk;obtain⟨c1,c2⟩:=hT.2.1 j (by omega);have j0:(0:Int)<=(j:Int):=by omega
  have j14:(j:Int)<14:=by omega
  by_cases h4:j=4
  ·subst h4;rw[show ((4:Nat):Int)=4 from rfl] at *;rw[show wd 4=2 from rfl] at c1;obtain⟨y,hy⟩:∃ y,wrap64 (s-2)=y:=⟨_,rfl⟩
   obtain⟨z,hz⟩:∃ z,wrap64 (y*8)=z:=⟨_,rfl⟩
   have E:=q7r s1 s2 hy hz;have HS:=Z0 (q5s 4 z hT);generalize W8 4 s=f at *
   generalize z3m 4 z=v at *
   clear s1 s2 hk j1 j2 c2;cases hb:F4 4 z
   ·rw[hb] at HS;have:=j0d E hb;subst this;clear E hb;go_enter Tryz.func48,Tryz.ntmps48
    go_wp2_with (first | (go_at_call 93;refine Z5 (HK.out _) ?_) | (go_at_call 94;refine Z5 HS.out ?_));go_ret;exact⟨rfl,rfl⟩
   ·rw[hb] at HS;have:=j7h E hb;subst this;clear E hb;go_enter Tryz.func48,Tryz.ntmps48
    go_wp2_with (first | (go_at_call 93;refine Z5 (HK.out _) ?_) | (go_at_call 94;refine Z5 HS.out ?_));go_ret;exact⟨rfl,rfl⟩
  ·have hj4:((j:Int) == 4)=false:=by simp;omega
   obtain⟨y,hy⟩:∃ y,wrap64 (s-wd j)=y:=⟨_,rfl⟩
   have E:=j0y hk j1 j2 h4 s1 s2 hy;have HS:=Z0 (q5s j y hT);generalize W8 j s=f at *
   generalize z3m j y=v at *
   generalize wd j=x at *
   clear s1 s2 hk j1 j2 c2 h4;cases hb:F4 j y
   ·rw[hb] at HS;have:=j0d E hb;subst this;clear E hb;go_enter Tryz.func48,Tryz.ntmps48
    go_wp2_with (first | (go_at_call 93;refine Z5 (HK.out _) ?_) | (go_at_call 94;refine Z5 HS.out ?_));go_ret;exact⟨rfl,rfl⟩
   ·rw[hb] at HS;have:=j7h E hb;subst this;clear E hb;go_enter Tryz.func48,Tryz.ntmps48
    go_wp2_with (first | (go_at_call 93;refine Z5 (HK.out _) ?_) | (go_at_call 94;refine Z5 HS.out ?_));go_ret;exact⟨rfl,rfl⟩
end Go.Proofs.YtjbbkeoolodeaabGreatDoor
