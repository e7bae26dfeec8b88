import Derived.Test.YtjgnogflgoihfaaGreatDoorP00
set_option linter.unusedSimpArgs false
set_option linter.unusedVariables false
set_option maxHeartbeats 16000000
set_option maxRecDepth 100000
namespace Go.Proofs.YtjgnogflgoihfaaGreatDoor
open Go.ChangeShapes Go.WideShapes Go.ChangeAt Go.RowKit
theorem q0g (w:World):Kz 201 #[] w fun e w'=>e=.returned (.agg #[Iz 2,Iz 4,Iz 6,Iz 8,Iz 12,Iz 16,Iz 20,Iz 32])/\Below w.heap.size w w':=by
 have h0:=Below.refl w.heap.size w;go_enter Tryz.func201,Tryz.ntmps201
 go_wp2;refine ret8 (g:=w.heap.size) rfl rfl rfl (heap_alloc_new _ _) ⟨rfl,?_⟩;exact h0.alloc (Nat.le_refl _) _
def B4 (c:Int):Int:=if c=0 then 32 else if c=1 then 16 else if c=2 then 10 else if c=3 then 8 else if c=4 then 5 else if c=5 then 4 else if c=6 then 3 else if c=7 then 2 else 0
def ofV (s:Int):Int:=if s<1 then -1 else if s<=2 then 0 else if s<=4 then 1 else if s<=6 then 2 else if s<=8 then 3 else if s<=12 then 4 else if s<=16 then 5 else if s<=20 then 6 else if s<=32 then 7 else if s<=1024 then 8 else -1
def B5 (s:Int):Int:=if 32<s/\s<=1024 then (s+63) / 64 else 0
theorem q6h (c:Int):(c=0\/c=1\/c=2\/c=3\/c=4\/c=5\/c=6\/c=7)\/(c<0\/8<=c):=by omega
theorem z7a {c:Int} (h:c<0\/8<=c):W8 c=0:=by unfold W8;split <;> (try omega);repeat (split <;> (try omega))
theorem q6e {c:Int} (h:c<0\/8<=c):B4 c=0:=by unfold B4;split <;> (try omega);repeat (split <;> (try omega))
theorem q0h (c:Int) (w:World):Kz 202 #[Iz c] w fun e w'=>e=.returned (Iz (W8 c))/\Below w.heap.size w w':=by
 have h0:=Below.refl w.heap.size w;by_cases hc:0<=c/\c<8
 ·obtain⟨h1,h2⟩:=hc;obtain⟨k,rfl⟩:∃ k:Nat,c=k:=⟨c.toNat,by omega⟩
  have hi:=q6z k (by omega);go_enter Tryz.func202,Tryz.ntmps202
  go_wp2_with (go_at_call 201;refine(z0r (q0g _) (by assumption)).mono ?_;rintro e w1 ⟨rfl,hg⟩);go_ret;exact⟨rfl,by assumption⟩
 ·have hc:c<0\/8<=c:=by omega
  rw[z7a hc];rcases hc with h | h
  all_goals
   go_enter Tryz.func202,Tryz.ntmps202
   go_wp2;go_ret;exact⟨rfl,h0⟩
theorem q2z (c v:Int) (h:W8 c=v) (w:World):Calls Tryz.prog 202 #[.int .i64 c] w fun e w'=>e=.returned (.int .i64 v)/\Below w.heap.size w w':=by
 rw[<-h];exact q0h c w
theorem z1b (c:Int):(∃ x y:Int,W8 c=x/\B4 c=y/\0<=c/\c<=7/\((c=0/\x=2/\y=32)\/(c=1/\x=4/\y=16)\/(c=2/\x=6/\y=10)\/(c=3/\x=8/\y=8)\/(c=4/\x=12/\y=5)\/(c=5/\x=16/\y=4)\/(c=6/\x=20/\y=3)\/(c=7/\x=32/\y=2)))
  ∨ (W8 c=0/\B4 c=0/\(c<0\/8<=c)):=by
 rcases q6h c with hc | hc
 ·left
  refine⟨_,_,rfl,rfl,by omega,by omega,?_⟩;rcases hc with rfl | rfl | rfl | rfl | rfl | rfl | rfl | rfl <;> decide
 ·right;exact⟨z7a hc,q6e hc,hc⟩
theorem q0f (c:Int) (w:World):Kz 209 #[Iz c] w fun e w'=>e=.returned (Iz (B4 c))/\Below w.heap.size w w':=by
 have h0:=Below.refl w.heap.size w;rcases z1b c with ⟨x,y,hx,hy,c0,c7,h⟩ | ⟨hx,hy,hc⟩
 ·rw[hy];have H:=Q3 (q2z c x hx);clear hx hy c0 c7;rcases h with ⟨rfl,rfl,rfl⟩ | ⟨rfl,rfl,rfl⟩ | ⟨rfl,rfl,rfl⟩ | ⟨rfl,rfl,rfl⟩ | ⟨rfl,rfl,rfl⟩ | ⟨rfl,rfl,rfl⟩ | ⟨rfl,rfl,rfl⟩ | ⟨rfl,rfl,rfl⟩
  all_goals
   go_enter Tryz.func209,Tryz.ntmps209
   go_wp2_with (go_at_call 202;refine(z0r (H.out _) (by assumption)).mono ?_;rintro e w1 ⟨rfl,hg⟩);go_ret;exact⟨rfl,by assumption⟩
 ·rw[hy];have H:=Q3 (q2z c 0 hx);clear hx hy hc;go_enter Tryz.func209,Tryz.ntmps209
  go_wp2_with (go_at_call 202;refine(z0r (H.out _) (by assumption)).mono ?_;rintro e w1 ⟨rfl,hg⟩);go_ret;exact⟨rfl,by assumption⟩
theorem q3e (c v:Int) (h:B4 c=v) (w:World):Calls Tryz.prog 209 #[.int .i64 c] w fun e w'=>e=.returned (.int .i64 v)/\Below w.heap.size w w':=by
 rw[<-h];exact q0f c w
def z1s (c i:Int):Int:=if 0<=i/\i<B4 c then i*W8 c else -1
theorem j7g (c i:Int) (w:World):Kz 210 #[Iz c,Iz i] w fun e w'=>e=.returned (Iz (z1s c i))/\Below w.heap.size w w':=by
 have h0:=Below.refl w.heap.size w;have hb:B4 c<=32/\0<=B4 c:=by rcases z1b c with ⟨x,y,hx,hy,c0,c7,h⟩ | ⟨hx,hy,hc⟩ <;> omega
 have hw:0<=W8 c/\W8 c<=32:=by rcases z1b c with ⟨x,y,hx,hy,c0,c7,h⟩ | ⟨hx,hy,hc⟩ <;> omega
 obtain⟨b1,b2⟩:=hb;by_cases hi:0<=i/\i<B4 c
 ·obtain⟨i1,i2⟩:=hi;have hp1:0<=i*W8 c:=Int.mul_nonneg i1 hw.1;have hp2:i*W8 c<=32*32:=Int.mul_le_mul (by omega) hw.2 hw.1 (by omega);have hs:z1s c i=i*W8 c:=by unfold z1s;rw[if_pos ⟨i1,i2⟩]
  rw[hs];have HB:=Q3 (q3e c _ rfl);have HW:=Q3 (q2z c _ rfl);clear hs hw;generalize B4 c=y at *
  generalize W8 c=x at *
  have kO:wrap64 (i*x)=i*x:=by unfold wrap64;omega
  clear hp1 hp2;go_enter Tryz.func210,Tryz.ntmps210
  go_wp2_with (first
   | (go_at_call 209;refine(z0r (HB.out _) (by assumption)).mono ?_;rintro e w1 ⟨rfl,hg⟩)
   | (go_at_call 202;refine(z0r (HW.out _) (by assumption)).mono ?_;rintro e w1 ⟨rfl,hg⟩))
  go_ret;refine⟨G4 ?_,by assumption⟩;first | rfl | exact kO
 ·have hs:z1s c i = -1:=by unfold z1s;rw[if_neg hi]
  rw[hs];have HB:=Q3 (q3e c _ rfl);clear hs hw b1 b2;generalize B4 c=y at *
  have hi:i<0\/(0<=i/\y<=i):=by omega
  rcases hi with h | ⟨h1,h2⟩
  all_goals
   go_enter Tryz.func210,Tryz.ntmps210
   go_wp2_with (go_at_call 209;refine(z0r (HB.out _) (by assumption)).mono ?_;rintro e w1 ⟨rfl,hg⟩);go_ret;exact⟨rfl,by assumption⟩
theorem q9t {s:Int} (h1:1<=s) (h2:s<=1024) (k:Nat) (hk:k<8):(W8 k<s) ↔ (k:Int)<ofV s:=by
 have hi:k=0\/k=1\/k=2\/k=3\/k=4\/k=5\/k=6\/k=7:=by omega
 rcases hi with rfl | rfl | rfl | rfl | rfl | rfl | rfl | rfl <;> simp[W8,ofV] <;> omega
theorem x2i {s:Int} (h1:1<=s) (h2:s<=1024):0<=ofV s/\ofV s<=8:=by unfold ofV;omega
theorem j5s {s:Int} (h:s<1\/1024<s):ofV s = -1:=by unfold ofV;omega
theorem q9s (s:Int) (w:World):Kz 178 #[Iz s] w fun e w'=>e=.returned (Iz (ofV s))/\Below w.heap.size w w':=by
 have h0:=Below.refl w.heap.size w;by_cases hs:1<=s/\s<=1024
 ·obtain⟨s1,s2⟩:=hs;have HF:=Q3 (q9t s1 s2);obtain⟨q1,q2⟩:=x2i s1 s2;generalize ofV s=q at *
  go_enter Tryz.func178,Tryz.ntmps178
  go_wp2_with (go_at_call 201;refine(z0r (q0g _) (by assumption)).mono ?_;rintro e w1 ⟨rfl,hg⟩);go_loopw [12] (fun i wr=>∃ k:Nat,(k:Int)<=q/\i=Iz k/\Below w.heap.size w wr) (fun i _=>8-(intOf i).toNat)
  case atStart=>exact⟨0,by omega,by simp,hg⟩
  case round=>
   clear hg h0;obtain⟨k,hk,rfl,hB⟩:=hrel;by_cases hk8:k<8
   ·have hi:=q6z k hk8;have hf:=HF.out k hk8;have hk8':(k:Int)<8:=by omega
    generalize W8 k=x at hi hf
    by_cases hx:x<s
    ·have hx':¬ s<=x:=by omega
     have hkq:=hf.1 hx;go_wp2;go_roundw
     case rel=>exact⟨k+1,by omega,by simp,hB⟩
     case measure=>simp[intOf];omega
    ·have hx':s<=x:=by omega
     have hkq:q=k:=by have:=fun h=>hx (hf.2 h);omega
     subst hkq;go_wp2;go_ret;exact⟨rfl,hB⟩
   ·have hkq:k=8:=by omega
    have:q=8:=by omega
    subst hkq this;go_wp2;go_ret;exact⟨rfl,hB⟩
 ·have hs:s<1\/1024<s:=by omega
  rw[j5s hs];rcases hs with h | h
  all_goals
   go_enter Tryz.func178,Tryz.ntmps178
   go_wp2;go_ret;exact⟨rfl,h0⟩
theorem x7d (s v:Int) (h:ofV s=v) (w:World):Calls Tryz.prog 178 #[.int .i64 s] w fun e w'=>e=.returned (.int .i64 v)/\Below w.heap.size w w':=by
 rw[<-h];exact q9s s w
theorem ofV_eight {s:Int}:ofV s=8 ↔ 32<s/\s<=1024:=by unfold ofV;omega
theorem z9c (s:Int) (w:World):Kz 175 #[Iz s] w fun e w'=>e=.returned (Iz (B5 s))/\Below w.heap.size w w':=by
 have h0:=Below.refl w.heap.size w;by_cases hs:32<s/\s<=1024
 ·have HO:=Q3 (x7d s 8 (ofV_eight.2 hs));have hp:B5 s=(s+63) / 64:=by unfold B5;rw[if_pos hs]
  rw[hp];obtain⟨s1,s2⟩:=hs;clear hp;go_enter Tryz.func175,Tryz.ntmps175
  go_wp2_with (go_at_call 178;refine(z0r (HO.out _) (by assumption)).mono ?_;rintro e w1 ⟨rfl,hg⟩);go_ret;exact⟨G4 (by omega),by assumption⟩
 ·have hq:(ofV s != 8)=true:=by simpa using fun h=>hs (ofV_eight.1 h)
  have hp:B5 s=0:=by unfold B5;rw[if_neg hs]
  have HO:=Q3 (x7d s _ rfl);rw[hp];generalize ofV s=q at *
  clear hp;go_enter Tryz.func175,Tryz.ntmps175
  go_wp2_with (go_at_call 178;refine(z0r (HO.out _) (by assumption)).mono ?_;rintro e w1 ⟨rfl,hg⟩);go_ret;exact⟨rfl,by assumption⟩
end Go.Proofs.YtjgnogflgoihfaaGreatDoor
namespace Go.Proofs.YtjgnogflgoihfaaGreatDoor
open Go.RowKit
def q7j (n:Int):Bool:=decide (-1<=n/\n<=262143)
theorem q0p (v:Int) (w:World) :
  Kz 214 #[Iz v] w fun e w'=>e=.returned (.bool (q7j v))/\w'=w:=by
 go_enter Tryz.func214,Tryz.ntmps214
 go_wp2
 all_goals go_ret
 all_goals refine⟨U9 ?_,rfl⟩
 all_goals (unfold q7j;rw[Bool.eq_iff_iff];simp;try omega)
theorem z1i (b:Int):(BitVec.ofInt 64 b).toNat=(b % 18446744073709551616).toNat:=by
 rw[BitVec.toNat_ofInt];rfl
theorem x7e (b t:Int) (h1:-1152921504606846976<=b) (h2:b<=1152921504606846975) (t1:0<=t) (t2:t<8):bits .or .i64 (wrap64 (b*8)) t=b*8+t:=by
 have e:bits .or .i64 (wrap64 (b*8)) t=IntKind.wrap .i64 ((BitVec.ofInt 64 (wrap64 (b*8)) ||| BitVec.ofInt 64 t).toNat:Nat):=rfl;have hw:wrap64 (b*8)=b*8:=by unfold wrap64;omega
 have h:(BitVec.ofInt 64 (b*8) ||| BitVec.ofInt 64 t).toNat=2 ^ 3*(b % 2305843009213693952).toNat+t.toNat:=by
  rw[BitVec.toNat_or,z1i,z1i];have e1:(b*8 % 18446744073709551616).toNat=2 ^ 3*(b % 2305843009213693952).toNat:=by omega
  have e2:(t % 18446744073709551616).toNat=t.toNat:=by omega
  rw[e1,e2,Nat.two_pow_add_eq_or_of_lt (by omega)]
 rw[e,hw,h];simp[IntKind.wrap,IntKind.signed,IntKind.bits];omega
theorem q9m (b t:Int) (w:World) (h1:-1152921504606846976<=b) (h2:b<=1152921504606846975) (t1:0<=t) (t2:t<8) :
  Kz 109 #[Iz b,Iz t] w fun e w'=>e=.returned (Iz (b*8+t))/\w'=w:=by
 have H:=Q3 (x7e b t h1 h2 t1 t2);clear h1 h2 t1 t2;go_enter Tryz.func109,Tryz.ntmps109
 go_wp2;go_ret;exact⟨G4 H.out,rfl⟩
def z0e (n:Int):Int:=if q7j n=true then n*8+4 else 0
theorem j9s (n:Int) (w:World) :
  Kz 200 #[Iz n] w fun e w'=>e=.returned (Iz (z0e n))/\w'=w:=by
 by_cases hv:q7j n=true
 ·have hw:z0e n=n*8+4:=by unfold z0e;rw[if_pos hv]
  have hr:-1<=n/\n<=262143:=by unfold q7j at hv;simpa using hv
  have hj:=fun w=>q9m n 4 w (by omega) (by omega) (by omega) (by omega)
  rw[hw];go_enter Tryz.func200,Tryz.ntmps200
  go_wp2_with (first | (go_at_call 109;refine Q4 (hj _) ?_) | (go_at_call 214;refine Q4 (q0p _ _) ?_));go_ret;exact⟨rfl,rfl⟩
 ·have nG:=Bool.eq_false_iff.mpr hv;have hw:z0e n=0:=by unfold z0e;rw[if_neg hv]
  rw[hw];clear hv;go_enter Tryz.func200,Tryz.ntmps200
  go_wp2_with (first | (go_at_call 214;refine Q4 (q0p _ _) ?_));go_ret;exact⟨rfl,rfl⟩
end Go.Proofs.YtjgnogflgoihfaaGreatDoor
namespace Go.Proofs.YtjgnogflgoihfaaGreatDoor
open Go.ChangeShapes Go.WideShapes Go.ChangeAt Go.RowKit
def z1n (a k n:Int):Prop:=0<=a/\a<=262143/\1<=k/\k<=31/\1<=n/\n<=1024
def z9y (a k n:Int):Bool:=decide (0<=a/\a<=262143/\1<=k/\k<=31/\1<=n/\n<=1024)
theorem goodB_true {a k n:Int}:z9y a k n=true ↔ z1n a k n:=by unfold z9y z1n;rw[decide_eq_true_eq]
theorem z8w {a k n:Int} (h:z1n a k n):z9y a k n=true:=goodB_true.2 h
theorem z6l {a k n:Int} (h:¬z1n a k n):z9y a k n=false:=by simpa using fun q=>h (goodB_true.1 q)
def xV (a k n:Int):Int:=a*65536+k*2048+n
def z2e (x:Int):Int:=x*10872568911861 % 17592186044416
def B6 (a k n:Int):Int:=if z9y a k n then (k+n*32+z2e (xV a k n)*65536)*8+5 else 0
def kOf (w:Int):Int:=w / 8 % 32
def nOf (w:Int):Int:=w / 256 % 2048
def j6i (a w:Int):Bool:=decide (w ≠ 0/\w=B6 a (kOf w) (nOf w))
theorem z6x (x:Int):0<=z2e x/\z2e x<17592186044416:=by
 unfold z2e;exact⟨Int.emod_nonneg _ (by decide),Int.emod_lt_of_pos _ (by decide)⟩
theorem x1a {x y:Int} (h1:0<=x) (h2:x<17179869184) (h3:0<=y) (h4:y<17179869184) (h:z2e x=z2e y):x=y:=by
 have h0:(x*10872568911861*1693535116381) % 17592186044416=(y*10872568911861*1693535116381) % 17592186044416:=by
  unfold z2e at h;rw[Int.mul_emod,h,<-Int.mul_emod]
 have e:(10872568911861:Int)*1693535116381=1+17592186044416*1046662263065:=by decide
 have e1:∀ z:Int,z*10872568911861*1693535116381=z+17592186044416*(z*1046662263065):=by
  intro z;rw[Int.mul_assoc,e,Int.mul_add,Int.mul_one,Int.mul_left_comm]
 rw[e1,e1,Int.add_mul_emod_self_left,Int.add_mul_emod_self_left,Int.emod_eq_of_lt h1 (Int.lt_trans h2 (by decide)),Int.emod_eq_of_lt h3 (Int.lt_trans h4 (by decide))] at h0;exact h0
theorem z9b {a k n:Int} (h:z1n a k n):B6 a k n=(k+n*32+z2e (xV a k n)*65536)*8+5:=by unfold B6;rw[if_pos (z8w h)]
theorem z7y {a k n:Int} (h:¬z1n a k n):B6 a k n=0:=by unfold B6;rw[z6l h];rfl
theorem q8u {a k n:Int} (h:z1n a k n):0<=xV a k n/\xV a k n<17179869184:=by unfold z1n at h;unfold xV;omega
theorem x_inj {a k n a' k' n':Int} (h:z1n a k n) (h':z1n a' k' n') (e:xV a k n=xV a' k' n'):a=a'/\k=k'/\n=n':=by
 unfold z1n at h h';unfold xV at e;omega
theorem z6o {a k n:Int} (h:z1n a k n):0<B6 a k n/\B6 a k n<=9223372036854775807/\B6 a k n % 8=5/\kOf (B6 a k n)=k/\nOf (B6 a k n)=n/\B6 a k n / 524288=z2e (xV a k n):=by
 have hs:=z6x (xV a k n);rw[z9b h];unfold kOf nOf;generalize z2e (xV a k n)=s at *
 unfold z1n at h;omega
theorem j1r (a k n:Int):0<=B6 a k n/\B6 a k n<=9223372036854775807:=by
 by_cases h:z1n a k n
 ·have:=z6o h;omega
 ·rw[z7y h];omega
theorem readB_true {a w:Int}:j6i a w=true ↔ (w ≠ 0/\w=B6 a (kOf w) (nOf w)):=by unfold j6i;rw[decide_eq_true_eq]
theorem j6j {a w:Int} (h:j6i a w=true):z1n a (kOf w) (nOf w):=by
 rw[readB_true] at h;by_cases g:z1n a (kOf w) (nOf w)
 ·exact g
 ·rw[z7y g] at h;exact absurd h.2 h.1
theorem j8f (b:Int) (k:Nat) (m:Int) (hm:(BitVec.ofInt 64 m).toNat=2 ^ k-1) (hk:(2:Int) ^ k ∣ 18446744073709551616) (h63:(2:Int) ^ k<=9223372036854775808):bits .and .i64 b m=b % 2 ^ k:=by
 have h:(BitVec.ofInt 64 b &&& BitVec.ofInt 64 m).toNat=(b % 18446744073709551616).toNat % 2 ^ k:=by
  rw[BitVec.toNat_and,hm,Nat.and_two_pow_sub_one_eq_mod,z1i]
 have e:bits .and .i64 b m=IntKind.wrap .i64 ((BitVec.ofInt 64 b &&& BitVec.ofInt 64 m).toNat:Nat):=rfl;have hp:(0:Int)<2 ^ k:=Int.pow_pos (by decide);have e2:(((b % 18446744073709551616).toNat % 2 ^ k:Nat):Int)=b % 2 ^ k:=by
  rw[Int.natCast_emod,Int.toNat_of_nonneg (Int.emod_nonneg _ (by decide)),Int.natCast_pow];exact Int.emod_emod_of_dvd b hk
 have r1:=Int.emod_nonneg b (Int.ne_of_gt hp);have r2:=Int.emod_lt_of_pos b hp;rw[e,h,e2];generalize b % 2 ^ k=z at *
 generalize (2:Int) ^ k=p at *
 simp[IntKind.wrap,IntKind.signed,IntKind.bits];omega
theorem x5w (b:Int):bits .and .i64 b 17592186044415=b % 17592186044416:=j8f b 44 17592186044415 (by decide) (by decide) (by decide)
theorem q4k (a c t:Int) (k:Nat) (e:a=c*2 ^ k) (h1:0<=c) (h2:c*2 ^ k+t<=9223372036854775807) (t1:0<=t) (t2:t<2 ^ k):bits .or .i64 a t=a+t:=by
 subst e;have hp:(0:Int)<2 ^ k:=Int.pow_pos (by decide);have hc:0<=c*2 ^ k:=Int.mul_nonneg h1 (Int.le_of_lt hp);have e:bits .or .i64 (c*2 ^ k) t=IntKind.wrap .i64 ((BitVec.ofInt 64 (c*2 ^ k) ||| BitVec.ofInt 64 t).toNat:Nat):=rfl;have e1:(c*2 ^ k % 18446744073709551616).toNat=2 ^ k*c.toNat:=by
  rw[Int.emod_eq_of_lt hc (by omega),Int.toNat_mul h1 (Int.le_of_lt hp),Nat.mul_comm];congr 1
 have e2:(t % 18446744073709551616).toNat=t.toNat:=by omega
 have e3:t.toNat<2 ^ k:=by
  have:((2 ^ k:Nat):Int)=(2:Int) ^ k:=by simp
  omega
 have h:(BitVec.ofInt 64 (c*2 ^ k) ||| BitVec.ofInt 64 t).toNat=2 ^ k*c.toNat+t.toNat:=by
  rw[BitVec.toNat_or,z1i,z1i,e1,e2,Nat.two_pow_add_eq_or_of_lt e3]
 have e4:((2 ^ k*c.toNat+t.toNat:Nat):Int)=c*2 ^ k+t:=by
  rw[Int.natCast_add,Int.natCast_mul,Int.toNat_of_nonneg h1,Int.toNat_of_nonneg t1,Int.natCast_pow,Int.mul_comm];simp
 rw[e,h,e4];generalize c*2 ^ k=z at *
 simp[IntKind.wrap,IntKind.signed,IntKind.bits];omega
theorem G9 (v:Int) (h1:0<=v) (h2:v<=9223372036854775807):wrap64 v=v:=by unfold wrap64;omega
theorem j2m (v:Int):wrap64 v % 17592186044416=v % 17592186044416:=by unfold wrap64;omega
theorem x5b {a k n:Int} (h:z1n a k n):bits .and .i64 (wrap64 (bits .or .i64 (bits .or .i64 (wrap64 (a*65536)) (wrap64 (k*2048))) n*10872568911861)) 17592186044415=z2e (xV a k n):=by
 unfold z1n at h;have w1:wrap64 (a*65536)=a*65536:=G9 _ (by omega) (by omega);have w2:wrap64 (k*2048)=k*2048:=G9 _ (by omega) (by omega);have o1:bits .or .i64 (a*65536) (k*2048)=a*65536+k*2048:=q4k _ a _ 16 rfl (by omega) (by omega) (by omega) (by omega);have o2:bits .or .i64 (a*65536+k*2048) n=a*65536+k*2048+n:=q4k _ (a*32+k) _ 11 (by omega) (by omega) (by omega) (by omega) (by omega);rw[w1,w2,o1,o2,x5w,j2m];rfl
theorem x4d {a k n:Int} (h:z1n a k n):bits .or .i64 (wrap64 (bits .or .i64 (bits .or .i64 (wrap64 (z2e (xV a k n)*65536)) (wrap64 (n*32))) k*8)) 5=B6 a k n:=by
 rw[z9b h];obtain⟨s1,s2⟩:=z6x (xV a k n);generalize z2e (xV a k n)=s at *
 unfold z1n at h;have w1:wrap64 (s*65536)=s*65536:=G9 _ (by omega) (by omega);have w2:wrap64 (n*32)=n*32:=G9 _ (by omega) (by omega);have o1:bits .or .i64 (s*65536) (n*32)=s*65536+n*32:=q4k _ s _ 16 rfl (by omega) (by omega) (by omega) (by omega);have o2:bits .or .i64 (s*65536+n*32) k=s*65536+n*32+k:=q4k _ (s*2048+n) _ 5 (by omega) (by omega) (by omega) (by omega) (by omega);have w3:wrap64 ((s*65536+n*32+k)*8)=(s*65536+n*32+k)*8:=G9 _ (by omega) (by omega);have o3:bits .or .i64 ((s*65536+n*32+k)*8) 5=(s*65536+n*32+k)*8+5:=q4k _ (s*65536+n*32+k) _ 3 rfl (by omega) (by omega) (by omega) (by omega);rw[w1,w2,o1,o2,w3,o3];omega
theorem j2i {x s d f:Int} (h:(s+x*d) % 17592186044416=f % 17592186044416) (hx:x % 2=1):((s+d) % 17592186044416+x / 2*((d+d) % 17592186044416)) % 17592186044416=f % 17592186044416:=by
 rw[<-h,Int.add_emod,Int.mul_emod,Int.emod_emod,Int.emod_emod,<-Int.mul_emod,<-Int.add_emod];congr 1
 have e:x=x / 2*2+1:=by omega
 have:x*d=x / 2*(d+d)+d:=by
  conv=>lhs;rw[e]
  rw[Int.add_mul,Int.mul_assoc,Int.one_mul,Int.two_mul]
 omega
theorem q8j {x s d f:Int} (h:(s+x*d) % 17592186044416=f % 17592186044416) (hx:x % 2 ≠ 1):(s+x / 2*((d+d) % 17592186044416)) % 17592186044416=f % 17592186044416:=by
 rw[<-h,Int.add_emod,Int.mul_emod,Int.emod_emod,<-Int.mul_emod,<-Int.add_emod];congr 1
 have e:x=x / 2*2:=by omega
 have:x*d=x / 2*(d+d):=by
  conv=>lhs;rw[e]
  rw[Int.mul_assoc,Int.two_mul]
 omega
theorem turned {a k n u:Int} (h:z1n a k n) (hu:u ≠ B6 a k n) (hx:u / 524288=B6 a k n / 524288\/u % 524288=B6 a k n % 524288):j6i a u=false:=by
 by_cases r:j6i a u=true
 ·exfalso
  have g:=j6j r;have q:=(readB_true.1 r).2;obtain⟨p1,p2,p3,p4,p5,p6⟩:=z6o h;obtain⟨q1,q2,q3,q4,q5,q6⟩:=z6o g;obtain⟨x1,x2⟩:=q8u h;obtain⟨y1,y2⟩:=q8u g;apply hu;rcases hx with hx | hx
  ·rw[<-q] at q6;rw[hx,p6] at q6;obtain⟨_,e1,e2⟩:=x_inj g h (x1a y1 y2 x1 x2 q6.symm);rw[q,e1,e2]
  ·have e1:kOf u=k:=by rw[<-p4];unfold kOf;generalize B6 a k n=v at *;omega
   have e2:nOf u=n:=by rw[<-p5];unfold nOf;generalize B6 a k n=v at *;omega
   rw[q,e1,e2]
 ·simpa using r
end Go.Proofs.YtjgnogflgoihfaaGreatDoor
namespace Go.Proofs.YtjgnogflgoihfaaGreatDoor
open Go.RowKit
def z0j (n:Int):Bool:=n == 4 || n == 8 || n == 16 || n == 32 || n == 64 || n == 128 || n == 256 || n == 512
def z2r (k:Int):Bool:=decide (1<=k) && decide (k<=13)
def U5 (k n:Int):Bool:=z2r k && decide (0<=n) && decide (n<=mo k) && (k != 12 || z0j n)
def z3f (k n:Int):Int:=if k=4 then (n+7) / 8 else n
def Y9 (k n:Int):Int:=if U5 k n then wd k+z3f k n else 0
def B7 (k s:Int):Bool:=z2r k && decide (wd k<=s) && decide (s<=wd k+z3f k (mo k)) && (k != 12 || z0j (s-1))
def q0m (i:Int):Int:=if i == 2 then 7 else if i == 3 || i == 4 then 1 else 2
def z3t (k i:Int):Int:=
 if k == 8 && i == 1 then 3 else if k == 1 || k == 2 || k == 3 || k == 6 || k == 8 then 2 else
 if k == 10 && i == 2 then 8 else if k == 4 || k == 5 || k == 10 then 1 else
 if k == 11 && decide (1<i) then q0m i else if k == 7 || k == 11 then 6 else if k == 12 then 9 else
 if k == 13 && i == 3 then 9 else if k == 9 || k == 13 then (if i == 1 then 4 else 5) else 0
def J6 (k s i:Int):Int:=if B7 k s=true/\1<=i/\i<s then z3t k i else 0
theorem known_iff {k:Int}:z2r k=true ↔ 1<=k/\k<=13:=by unfold z2r;simp
theorem z2s {k:Int} (h:z2r k=true):∃ j:Nat,k=j/\1<=j/\j<=13:=⟨k.toNat,by have:=known_iff.1 h;omega,by have:=known_iff.1 h;omega,by have:=known_iff.1 h;omega⟩
theorem q1y {j:Nat} (h1:1<=j) (h2:j<=13):j=1\/j=2\/j=3\/j=4\/j=5\/j=6\/j=7\/j=8\/j=9\/j=10\/j=11\/j=12\/j=13:=by omega
theorem x1h {j:Nat} (h1:1<=j) (h2:j<=13):1<=wd j/\wd j<=5/\0<=mo j/\mo j<=4096/\(j ≠ 4->mo j<=1023)/\(j=4->wd j=2/\mo j=4096)/\(j=12->wd j=1/\mo j=512):=by
 rcases q1y h1 h2 with rfl | rfl | rfl | rfl | rfl | rfl | rfl | rfl | rfl | rfl | rfl | rfl | rfl <;> decide
theorem q3z (k:Int) (w:World):Kz 154 #[Iz k] w fun e w'=>e=.returned (.bool (z2r k))/\w'=w:=by
 go_enter Tryz.func154,Tryz.ntmps154
 go_wp2
 all_goals go_ret
 all_goals refine⟨U9 ?_,rfl⟩
 all_goals (unfold z2r;rw[Bool.eq_iff_iff];simp;try omega)
theorem q4d (k:Int) (w:World):Kz 181 #[Iz k] w fun e w'=>e=.returned (.bool (decide (1<=k) && decide (k<=11)))/\w'=w:=by
 go_enter Tryz.func181,Tryz.ntmps181
 go_wp2
 all_goals go_ret
 all_goals refine⟨U9 ?_,rfl⟩
 all_goals (rw[Bool.eq_iff_iff];simp;try omega)
theorem q6s:∀ n:Fin 513,(decide (4<=(n.val:Int)) && (bits .and .i64 (n.val:Int) ((n.val:Int)-1) == 0))=z0j (n.val:Int):=by decide +kernel
theorem q6r (n:Nat) (h:n<=512) (w:World):Kz 155 #[Iz n] w fun e w'=>e=.returned (.bool (z0j n))/\w'=w:=by
 have H:=q6s ⟨n,by omega⟩;simp only at H;rw[<-H];by_cases h4:4<=n
 ·have h5:(4:Int)<=(n:Int):=by omega
  have h6:wrap64 ((n:Int)-1)=(n:Int)-1:=by unfold wrap64;omega
  have hd:decide ((4:Int)<=(n:Int))=true:=by simpa using h5
  rw[hd,Bool.true_and];clear H h4;go_enter Tryz.func155,Tryz.ntmps155
  go_wp2;go_ret;exact⟨rfl,rfl⟩
 ·have h5:(n:Int)<4:=by omega
  have hd:decide ((4:Int)<=(n:Int))=false:=by simp;omega
  rw[hd,Bool.false_and];clear H h4;go_enter Tryz.func155,Tryz.ntmps155
  go_wp2;go_ret;exact⟨rfl,rfl⟩
theorem z2j {k n:Int} (h:U5 k n=false):Y9 k n=0:=by unfold Y9;rw[h];rfl
theorem z1l {k n:Int} (h:U5 k n=true):Y9 k n=wd k+z3f k n:=by unfold Y9;rw[h];rfl
theorem z6a (k n:Int) {w:World} (hT:Tab w) :
  Kz 99 #[Iz k,Iz n] w fun e w'=>e=.returned (.tuple #[Iz (Y9 k n),.bool (U5 k n)])/\w'=w:=by
 have HK:=Q3 (q3z k);cases hk:z2r k
 ·have hb:U5 k n=false:=by unfold U5;rw[hk];rfl
  rw[z2j hb,hb];rw[hk] at HK;clear hb hk;go_enter Tryz.func99,Tryz.ntmps99
  go_wp2_with (go_at_call 154;refine Q4 (HK.out _) ?_);go_ret2;exact⟨rfl,rfl⟩
 ·rw[hk] at HK;obtain⟨j,rfl,j1,j2⟩:=z2s hk;obtain⟨c1,c2⟩:=hT.2.1 j (by omega);have W:=Q3 (x1h j1 j2);by_cases hn:n<0
  ·have hb:U5 j n=false:=by unfold U5;rw[hk];simp;omega
   rw[z2j hb,hb];clear hb hk;go_enter Tryz.func99,Tryz.ntmps99
   go_wp2_with (go_at_call 154;refine Q4 (HK.out _) ?_);go_ret2;exact⟨rfl,rfl⟩
  have n0:0<=n:=by omega
  have j0:(0:Int)<=(j:Int):=by omega
  have j14:(j:Int)<14:=by omega
  by_cases hm:mo j<n
  ·have hb:U5 j n=false:=by unfold U5;rw[hk];simp;omega
   rw[z2j hb,hb];clear hb hk hn;generalize mo j=m at *
   go_enter Tryz.func99,Tryz.ntmps99
   go_wp2_with (go_at_call 154;refine Q4 (HK.out _) ?_);go_ret2;exact⟨rfl,rfl⟩
  have hm':n<=mo j:=by omega
  have hp:∀ b,(decide ((0:Int)<=n) && decide (n<=mo j) && b)=b:=by intro b;simp[n0,hm']
  by_cases h12:j=12
  ·subst h12;obtain⟨q,rfl⟩:∃ q:Nat,n=q:=⟨n.toNat,by omega⟩
   have hq:q<=512:=by have:=(W.out.2.2.2.2.2.2 rfl).2;omega
   have HD:=Q3 (q6r q hq);have hsb:U5 12 q=z0j q:=by
    unfold U5;rw[show z2r 12=true from rfl,Bool.true_and,show ((12:Int) != 12)=false from rfl,Bool.false_or];exact hp _
   have hwd:=(W.out.2.2.2.2.2.2 rfl).1;have hq':(q:Int)<=512:=by omega
   cases hs:z0j q
   ·rw[hs] at HD;have hsb':=hsb.trans hs;rw[show ((12:Nat):Int)=12 from rfl] at *;rw[z2j hsb',hsb'];clear hk hn hm hp hsb hs hsb';generalize mo 12=m at *
    go_enter Tryz.func99,Tryz.ntmps99
    go_wp2_with (first | (go_at_call 154;refine Q4 (HK.out _) ?_) | (go_at_call 155;refine Q4 (HD.out _) ?_));go_ret2;exact⟨rfl,rfl⟩
   ·rw[hs] at HD;have hsb':=hsb.trans hs;rw[show ((12:Nat):Int)=12 from rfl] at *;rw[z1l hsb',hsb',hwd,show z3f 12 q=q from rfl];rw[hwd] at c1;clear hk hn hm hp hsb hs hsb' hwd;generalize mo 12=m at *
    go_enter Tryz.func99,Tryz.ntmps99
    go_wp2_with (first | (go_at_call 154;refine Q4 (HK.out _) ?_) | (go_at_call 155;refine Q4 (HD.out _) ?_));go_ret2;exact⟨rfl,rfl⟩
  have hj12:((j:Int) != 12)=true:=by simp;omega
  have hj12':((j:Int) == 12)=false:=by simp;omega
  have hsb:U5 j n=true:=by
   unfold U5;rw[hk,Bool.true_and,hj12,Bool.true_or];exact hp _
  rw[z1l hsb,hsb];by_cases h4:j=4
  ·subst h4;obtain⟨w4,m4⟩:=W.out.2.2.2.2.2.1 rfl;rw[show ((4:Nat):Int)=4 from rfl] at *;rw[w4] at c1 ⊢;rw[show z3f 4 n=(n+7) / 8 from rfl];have b3:n<=4096:=by omega
   clear hk hn hm hp hsb w4 m4;generalize mo 4=m at *
   go_enter Tryz.func99,Tryz.ntmps99
   go_wp2_with (first | (go_at_call 154;refine Q4 (HK.out _) ?_));go_ret2;exact⟨z9j (k:=.i64) (a:=2+(n+8-1) / 8) (by omega) rfl,rfl⟩
  ·have hj4:((j:Int) == 4)=false:=by simp;omega
   rw[show z3f j n=n from by unfold z3f;rw[if_neg (by omega)]];obtain⟨w1,w2,w3,w4,w5,w6⟩:=W.out;have b3:=w5 h4;have b4:n<=1023:=by omega
   clear hk hn hm hp hsb w6 w5 w4 w3 b3;generalize mo j=m at *
   generalize wd j=x at *
   go_enter Tryz.func99,Tryz.ntmps99
   go_wp2_with (first | (go_at_call 154;refine Q4 (HK.out _) ?_));go_ret2;exact⟨rfl,rfl⟩
theorem sizeB_iff {k n:Int}:U5 k n=true ↔ z2r k=true/\0<=n/\n<=mo k/\(k ≠ 12\/z0j n=true):=by
 unfold U5;simp[and_assoc]
theorem fitsB_iff {k s:Int}:B7 k s=true ↔ z2r k=true/\wd k<=s/\s<=wd k+z3f k (mo k)/\(k ≠ 12\/z0j (s-1)=true):=by
 unfold B7;simp[and_assoc]
theorem z2t {k n:Int} (h:k ≠ 4):z3f k n=n:=by unfold z3f;rw[if_neg h]
theorem q4m {n:Int}:z3f 4 n=(n+7) / 8:=rfl
theorem j4o {j:Nat} {s y:Int} (hk:z2r j=true) (j1:1<=j) (j2:j<=13) (h4:j ≠ 4) (s1:-9223372036854775808<=s) (s2:s<=9223372036854775807) (hy:wrap64 (s-wd j)=y):(U5 j y && (Y9 j y == s))=B7 j s:=by
 obtain⟨w1,w2,w3,w4,w5,w6,w7⟩:=x1h j1 j2;have m:=w5 h4;rw[Bool.eq_iff_iff,Bool.and_eq_true,beq_iff_eq,fitsB_iff,z2t (by omega)];unfold wrap64 at hy;constructor
 ·rintro⟨h,e⟩;rw[z1l h,z2t (by omega)] at e;obtain⟨_,a,b,c⟩:=sizeB_iff.1 h;refine⟨hk,by omega,by omega,?_⟩;rcases c with c | c
  ·exact .inl c
  ·by_cases e12:j=12
   ·have:=(w7 e12).1;rw[show s-1=y from by omega];exact .inr c
   ·exact .inl (by omega)
 ·rintro⟨_,a,b,c⟩;have hys:y=s-wd j:=by omega
  have h:U5 j y=true:=by
   refine sizeB_iff.2 ⟨hk,by omega,by omega,?_⟩;rcases c with c | c
   ·exact .inl c
   ·by_cases e12:j=12
    ·have:=(w7 e12).1;rw[show y=s-1 from by omega];exact .inr c
    ·exact .inl (by omega)
  refine⟨h,?_⟩;rw[z1l h,z2t (by omega)];omega
theorem j1i {s y z:Int} (s1:-9223372036854775808<=s) (s2:s<=9223372036854775807) (hy:wrap64 (s-2)=y) (hz:wrap64 (y*8)=z):(U5 4 z && (Y9 4 z == s))=B7 4 s:=by
 have m:mo 4=4096:=rfl;have m2:wd 4=2:=rfl;rw[Bool.eq_iff_iff,Bool.and_eq_true,beq_iff_eq,fitsB_iff,q4m,m,m2];unfold wrap64 at hy hz;constructor
 ·rintro⟨h,e⟩;rw[z1l h,q4m,m2] at e;obtain⟨_,a,b,c⟩:=sizeB_iff.1 h;rw[m] at b;exact⟨rfl,by omega,by omega,.inl (by decide)⟩
 ·rintro⟨_,a,b,c⟩;have hys:y=s-2:=by omega
  have hzs:z=y*8:=by omega
  have h:U5 4 z=true:=sizeB_iff.2 ⟨rfl,by omega,by rw[m];omega,.inl (by decide)⟩;refine⟨h,?_⟩;rw[z1l h,q4m,m2];omega
theorem x1p {a b c:Bool} (h:(a && b)=c) (ha:a=true):b=c:=by rw[<-h,ha];rfl
theorem j3f {a b c:Bool} (h:(a && b)=c) (ha:a=false):c=false:=by rw[<-h,ha];rfl
theorem q1u (k s:Int) {w:World} (hT:Tab w) (s1:-9223372036854775808<=s) (s2:s<=9223372036854775807) :
  Kz 101 #[Iz k,Iz s] w fun e w'=>e=.returned (.bool (B7 k s))/\w'=w:=by
 have HK:=Q3 (q3z k);cases hk:z2r k
 ·have hb:B7 k s=false:=by unfold B7;rw[hk];rfl
  rw[hb];rw[hk] at HK;clear hb hk s1 s2;go_enter Tryz.func101,Tryz.ntmps101
  go_wp2_with (go_at_call 154;refine Q4 (HK.out _) ?_);go_ret;exact⟨rfl,rfl⟩
 ·rw[hk] at HK;obtain⟨j,rfl,j1,j2⟩:=z2s hk;obtain⟨c1,c2⟩:=hT.2.1 j (by omega);have j0:(0:Int)<=(j:Int):=by omega
  have j14:(j:Int)<14:=by omega
  by_cases h4:j=4
  ·subst h4;rw[show ((4:Nat):Int)=4 from rfl] at *;rw[show wd 4=2 from rfl] at c1;obtain⟨y,hy⟩:∃ y,wrap64 (s-2)=y:=⟨_,rfl⟩
   obtain⟨z,hz⟩:∃ z,wrap64 (y*8)=z:=⟨_,rfl⟩
   have E:=j1i s1 s2 hy hz;have HS:=Q3 (z6a 4 z hT);generalize B7 4 s=f at *
   generalize Y9 4 z=v at *
   clear s1 s2 hk j1 j2 c2;cases hb:U5 4 z
   ·rw[hb] at HS;have:=j3f E hb;subst this;clear E hb;go_enter Tryz.func101,Tryz.ntmps101
    go_wp2_with (first | (go_at_call 154;refine Q4 (HK.out _) ?_) | (go_at_call 99;refine Q4 HS.out ?_));go_ret;exact⟨rfl,rfl⟩
   ·rw[hb] at HS;have:=x1p E hb;subst this;clear E hb;go_enter Tryz.func101,Tryz.ntmps101
    go_wp2_with (first | (go_at_call 154;refine Q4 (HK.out _) ?_) | (go_at_call 99;refine Q4 HS.out ?_));go_ret;exact⟨rfl,rfl⟩
  ·have hj4:((j:Int) == 4)=false:=by simp;omega
   obtain⟨y,hy⟩:∃ y,wrap64 (s-wd j)=y:=⟨_,rfl⟩
   have E:=j4o hk j1 j2 h4 s1 s2 hy;have HS:=Q3 (z6a j y hT);generalize B7 j s=f at *
   generalize Y9 j y=v at *
   generalize wd j=x at *
   clear s1 s2 hk j1 j2 c2 h4;cases hb:U5 j y
   ·rw[hb] at HS;have:=j3f E hb;subst this;clear E hb;go_enter Tryz.func101,Tryz.ntmps101
    go_wp2_with (first | (go_at_call 154;refine Q4 (HK.out _) ?_) | (go_at_call 99;refine Q4 HS.out ?_));go_ret;exact⟨rfl,rfl⟩
   ·rw[hb] at HS;have:=x1p E hb;subst this;clear E hb;go_enter Tryz.func101,Tryz.ntmps101
    go_wp2_with (first | (go_at_call 154;refine Q4 (HK.out _) ?_) | (go_at_call 99;refine Q4 HS.out ?_));go_ret;exact⟨rfl,rfl⟩
end Go.Proofs.YtjgnogflgoihfaaGreatDoor
namespace Go.Proofs.YtjgnogflgoihfaaGreatDoor
open Go
def pkN (f:Nat->Bool):Nat->Nat
 | 0=>0
 | k+1=>pkN f k+if f k then 2 ^ k else 0
theorem j6c (f:Nat->Bool) (k:Nat):pkN f k<2 ^ k:=by
 induction k with
 | zero=>simp[pkN]
 | succ k ih=>unfold pkN;rw[Nat.pow_succ];split <;> omega
theorem j6b (f:Nat->Bool) (k j:Nat):(pkN f k).testBit j=(decide (j<k) && f j):=by
 induction k with
 | zero=>simp[pkN]
 | succ k ih=>
  have hl:=j6c f k;unfold pkN;by_cases hf:f k=true
  ·rw[if_pos hf,Nat.add_comm,show 2 ^ k+pkN f k=2 ^ k*1+pkN f k from by omega,Nat.testBit_two_pow_mul_add _ hl,ih];by_cases h1:j<k
   ·simp[h1];omega
   ·rw[if_neg h1];by_cases h2:j=k
    ·subst h2;simp[hf]
    ·have:¬ j<k+1:=by omega
     obtain⟨d,hd⟩:∃ d,j-k=d+1:=⟨j-k-1,by omega⟩
     rw[hd,Nat.testBit_succ];simp[this]
  ·rw[if_neg hf,Nat.add_zero,ih];by_cases h2:j=k
   ·subst h2;simp[hf]
   ·have:(j<k) ↔ (j<k+1):=by omega
    simp[this]
def pk (S:Nat->Bool) (i:Nat):Nat:=pkN (fun j=>S (64*i+j)) 64
theorem q2i (S:Nat->Bool) (i:Nat):pk S i<18446744073709551616:=j6c _ 64
theorem z2a (S:Nat->Bool) (i j:Nat):(pk S i).testBit j=(decide (j<64) && S (64*i+j)):=j6b _ _ _
theorem q0t {S:Nat->Bool} {i x:Nat} (h:∀ j,x.testBit j=(decide (j<64) && S (64*i+j))):x=pk S i:=
 Nat.eq_of_testBit_eq fun j=>by rw[h,z2a]
theorem z8c {S T:Nat->Bool} {i:Nat} (h:∀ j,j<64->S (64*i+j)=T (64*i+j)):pk S i=pk T i:=
 q0t fun j=>by rw[z2a];by_cases hj:j<64 <;> simp[hj,h]
theorem j8g (j:Nat):(18446744073709551615:Nat).testBit j=decide (j<64):=Nat.testBit_two_pow_sub_one 64 j
theorem z5f (x j:Nat) (h:x<18446744073709551616):(18446744073709551615-x).testBit j=(decide (j<64) && !x.testBit j):=by
 have:=Nat.testBit_two_pow_sub_succ (n:=64) (x:=x) h j;rw[show 2 ^ 64-(x+1)=18446744073709551615-x from by omega] at this;exact this
theorem z0l (a b:Nat) (ha:a<18446744073709551616) (hb:b<18446744073709551616) :
  bits .andNot .u64 (a:Int) (b:Int)=((a &&& (18446744073709551615-b):Nat):Int):=by
 have hx:a &&& (18446744073709551615-b)<2 ^ 64:=Nat.and_lt_two_pow _ (by omega);have h1:(BitVec.ofInt 64 (a:Int)).toNat=a:=by
  rw[BitVec.ofInt_natCast,BitVec.toNat_ofNat];exact Nat.mod_eq_of_lt (by omega)
 have h2:(BitVec.ofInt 64 (b:Int)).toNat=b:=by
  rw[BitVec.ofInt_natCast,BitVec.toNat_ofNat];exact Nat.mod_eq_of_lt (by omega)
 show IntKind.u64.wrap ((BitVec.ofInt 64 (a:Int) &&& ~~~ BitVec.ofInt 64 (b:Int)).toNat:Int)=_
 rw[BitVec.toNat_and,BitVec.toNat_not,h1,h2,IntKind.wrap_u64];rw[show 2 ^ 64-1-b=18446744073709551615-b from by omega];omega
def upd (S:Nat->Bool) (i:Nat) (b:Bool):Nat->Bool:=fun j=>if j=i then b else S j
theorem z7i (S:Nat->Bool) (i k:Nat) (b:Bool) (h:k ≠ i / 64):pk (upd S i b) k=pk S k:=
 z8c fun j hj=>by unfold upd;rw[if_neg (by omega)]
theorem x7l (S:Nat->Bool) (i:Nat):pk S (i / 64) ||| 2 ^ (i % 64)=pk (upd S i true) (i / 64):=
 q0t fun j=>by
  rw[Nat.testBit_or,z2a,Nat.testBit_two_pow];unfold upd;by_cases h:64*(i / 64)+j=i
  ·have hj:i % 64=j:=by omega
   have lC:j<64:=by omega
   simp[h,hj,lC]
  ·rw[if_neg h];by_cases hj:i % 64=j
   ·omega
   ·simp[hj]
theorem x0l (S:Nat->Bool) (i:Nat):pk S (i / 64) &&& (18446744073709551615-2 ^ (i % 64))=pk (upd S i false) (i / 64):=
 q0t fun j=>by
  have hp:2 ^ (i % 64)<18446744073709551616:=Nat.pow_lt_pow_right (a:=2) (by omega) (show i % 64<64 by omega);rw[Nat.testBit_and,z2a,z5f _ _ hp,Nat.testBit_two_pow];unfold upd;by_cases h:64*(i / 64)+j=i
  ·have hj:i % 64=j:=by omega
   simp[h,hj]
  ·rw[if_neg h];by_cases hj:i % 64=j
   ·omega
   ·by_cases h6:j<64 <;> simp[hj,h6]
theorem x7k (S:Nat->Bool) (i:Nat):pk S (i / 64) &&& 2 ^ (i % 64)=if S i then 2 ^ (i % 64) else 0:=by
 apply Nat.eq_of_testBit_eq;intro j;rw[Nat.testBit_and,z2a,Nat.testBit_two_pow];by_cases hj:i % 64=j
 ·have e:64*(i / 64)+j=i:=by omega
  have h6:j<64:=by omega
  cases hs:S i <;> simp[e,hj,h6,hs]
 ·cases hs:S i <;> simp[hj,Nat.testBit_two_pow]
def msk (lo hi:Nat):Nat:=pkN (fun j=>decide (lo<=j) && decide (j<hi)) 64
theorem x6q (lo hi:Nat):msk lo hi<18446744073709551616:=j6c _ 64
theorem j5o (lo hi j:Nat):(msk lo hi).testBit j=(decide (j<64) && (decide (lo<=j) && decide (j<hi))):=j6b _ _ _
def up (lo:Nat):Nat:=if lo<64 then 18446744073709551616-2 ^ lo else 0
theorem x5p (lo:Nat):up lo<18446744073709551616:=by
 unfold up;have:=Nat.two_pow_pos lo;split <;> omega
theorem x2o (lo j:Nat):(up lo).testBit j=(decide (j<64) && decide (lo<=j)):=by
 unfold up;by_cases h:lo<64
 ·rw[if_pos h];have hp:2 ^ lo<2 ^ 64:=Nat.pow_lt_pow_right (a:=2) (by omega) h;have h1:=Nat.two_pow_pos lo;have:=z5f (2 ^ lo-1) j (by omega);rw[show 18446744073709551615-(2 ^ lo-1)=18446744073709551616-2 ^ lo from by omega,Nat.testBit_two_pow_sub_one] at this;rw[this];by_cases hj:j<lo
  ·simp[hj]
  ·have:lo<=j:=by omega
   simp[this,hj]
 ·rw[if_neg h];by_cases hj:j<64
  ·have:¬ lo<=j:=by omega
   simp[this]
  ·simp[hj]
theorem x7t (lo hi:Nat):up lo &&& (18446744073709551615-up hi)=msk lo hi:=
 Nat.eq_of_testBit_eq fun j=>by
  rw[Nat.testBit_and,x2o,z5f _ _ (x5p _),x2o,j5o];by_cases h:j<64
  ·by_cases h1:lo<=j <;> by_cases h2:hi<=j <;> simp[h,h1,h2] <;> omega
  ·simp[h]
def cnt (S:Nat->Bool):Nat->Nat
 | 0=>0
 | k+1=>cnt S k+if S k then 1 else 0
theorem z4v (S:Nat->Bool) (k:Nat):cnt S k<=k:=by
 induction k with
 | zero=>simp[cnt]
 | succ k ih=>unfold cnt;split <;> omega
theorem z8p {S T:Nat->Bool} {k:Nat} (h:∀ j,j<k->S j=T j):cnt S k=cnt T k:=by
 induction k with
 | zero=>rfl
 | succ k ih=>unfold cnt;rw[ih fun j hj=>h j (by omega),h k (by omega)]
theorem j3r (S:Nat->Bool) (m k:Nat):cnt S (m+k)=cnt S m+cnt (fun j=>S (m+j)) k:=by
 induction k with
 | zero=>simp[cnt]
 | succ k ih=>
  show cnt S (m+k)+(if S (m+k) then 1 else 0)=cnt S m+(cnt (fun j=>S (m+j)) k+if S (m+k) then 1 else 0)
  rw[ih];omega
theorem q9a {S:Nat->Bool} {k:Nat} (h:∀ j,j<k->S j=false):cnt S k=0:=by
 induction k with
 | zero=>rfl
 | succ k ih=>unfold cnt;rw[ih fun j hj=>h j (by omega),h k (by omega)];simp
theorem j8m {S:Nat->Bool} {k:Nat} (h:cnt S k=0):∀ j,j<k->S j=false:=by
 induction k with
 | zero=>intro j hj;omega
 | succ k ih=>
  unfold cnt at h;intro j hj;by_cases e:j=k
  ·subst e;by_cases hs:S j=true
   ·rw[if_pos hs] at h;omega
   ·simpa using hs
  ·exact ih (by omega) j (by omega)
def z7u (S:Nat->Bool) (a b:Nat):Nat:=cnt (fun j=>decide (a<=j) && S j) b
theorem x2w (S:Nat->Bool) (a b:Nat):z7u S a b<=b:=z4v _ _
theorem j8j (S:Nat->Bool) (a b:Nat) (h:b<=a):z7u S a b=0:=
 q9a fun j hj=>by
   have:¬ a<=j:=by omega
   simp[this]
def pop (x:Nat):Nat:=cnt x.testBit 64
theorem x7m (x:Nat):pop x<=64:=z4v _ _
theorem j3s (F:Nat->Bool) (t m:Nat):cnt (fun j=>F j && decide (j<t)) m=cnt F (min m t):=by
 induction m with
 | zero=>simp[cnt]
 | succ m ih=>
  show cnt (fun j=>F j && decide (j<t)) m+(if (F m && decide (m<t)) then 1 else 0)=_
  rw[ih];by_cases h:m<t
  ·rw[show min (m+1) t=m+1 from by omega,show min m t=m from by omega]
   show _=cnt F m+_
   simp[h]
  ·rw[show min (m+1) t=min m t from by omega];simp[h]
theorem j6a (S:Nat->Bool) (a t s:Nat):z7u S a (min (64*s) t)+pop (pk S s &&& msk (a-64*s) (min (t-64*s) 64))=z7u S a (min (64*s+64) t):=by
 unfold z7u pop;rw[<-j3s,<-j3s,j3r];congr 1
 refine z8p fun j hj=>?_
 rw[Nat.testBit_and,z2a,j5o];by_cases h1:a<=64*s+j
 ·have h1':a-64*s<=j:=by omega
  by_cases h2:64*s+j<t
  ·have iD:j<min (t-64*s) 64:=by omega
   simp only[hj,h1,h1',h2,iD,decide_true,Bool.true_and,Bool.and_true]
  ·have iD:¬ j<min (t-64*s) 64:=by omega
   simp only[hj,h1,h1',h2,iD,decide_true,decide_false,Bool.true_and,Bool.and_true,Bool.and_false]
 ·have h1':¬ a-64*s<=j:=by omega
  simp only[hj,h1,h1',decide_true,decide_false,Bool.true_and,Bool.false_and,Bool.and_false]
def nx (P:Nat->Bool) (n k:Nat):Nat:=if k<n then (if P k then k else nx P n (k+1)) else n
termination_by n-k
theorem x2h (P:Nat->Bool) (n k:Nat) (h:n<=k):nx P n k=n:=by rw[nx,if_neg (by omega)]
theorem x4h (P:Nat->Bool) (n k:Nat):nx P n k<=n:=by
 by_cases h:k<n
 ·rw[nx,if_pos h];split
  ·omega
  ·exact x4h P n (k+1)
 ·rw[nx,if_neg h];omega
termination_by n-k
theorem x6u (P:Nat->Bool) (n k:Nat) (h:k<=n):k<=nx P n k:=by
 by_cases h:k<n
 ·rw[nx,if_pos h];split
  ·omega
  ·have:=x6u P n (k+1) (by omega);omega
 ·rw[nx,if_neg h];omega
termination_by n-k
theorem x6v (P:Nat->Bool) (n k:Nat) (h:nx P n k<n):P (nx P n k)=true:=by
 by_cases h':k<n
 ·rw[nx,if_pos h'] at h ⊢;by_cases hp:P k=true
  ·rw[if_pos hp];exact hp
  ·rw[if_neg hp] at h ⊢;exact x6v P n (k+1) h
 ·rw[nx,if_neg h'] at h;omega
termination_by n-k
theorem j5q (P:Nat->Bool) (n k:Nat):∀ j,k<=j->j<nx P n k->P j=false:=by
 intro j h1 h2;by_cases h':k<n
 ·rw[nx,if_pos h'] at h2;by_cases hp:P k=true
  ·rw[if_pos hp] at h2;omega
  ·rw[if_neg hp] at h2;by_cases e:j=k
   ·subst e;simpa using hp
   ·exact j5q P n (k+1) j (by omega) h2
 ·rw[nx,if_neg h'] at h2;omega
termination_by n-k
theorem x0c (P:Nat->Bool) (n k r:Nat) (h1:k<=r) (h2:r<=n) (h3:∀ j,k<=j->j<r->P j=false) (h4:r<n->P r=true):nx P n k=r:=by
 by_cases h':k<n
 ·rw[nx,if_pos h'];by_cases hp:P k=true
  ·rw[if_pos hp];by_cases e:k=r
   ·exact e
   ·rw[h3 k (by omega) (by omega)] at hp;cases hp
  ·rw[if_neg hp];have:k ≠ r:=fun e=>by subst e;exact hp (h4 h')
   exact x0c P n (k+1) r (by omega) h2 (fun j a b=>h3 j (by omega) b) h4
 ·rw[nx,if_neg h'];omega
termination_by n-k
def nxr (P:Nat->Bool) (n k:Nat):Int:=if nx P n k<n then (nx P n k:Int) else -1
theorem x6w (P:Nat->Bool) (n k:Nat):nxr P n k<n:=by unfold nxr;split <;> omega
theorem q9b (x:Nat) (h0:x ≠ 0) (h:x<18446744073709551616):Lib.ctz 64 x<64/\x.testBit (Lib.ctz 64 x)=true/\∀ j,j<Lib.ctz 64 x->x.testBit j=false:=by
 obtain⟨m,hm,hk⟩:=Lib.ctzFrom_spec 64 x (by omega) h;have e:Lib.ctz 64 x=Lib.ctzFrom 64 x:=by simp[Lib.ctz,h0]
 rw[e];refine⟨hk,?_,fun j hj=>?_⟩
 ·rw[congrArg (fun y=>Nat.testBit y (Lib.ctzFrom 64 x)) hm]
  show (2 ^ Lib.ctzFrom 64 x*(2*m+1)).testBit (Lib.ctzFrom 64 x)=true
  rw[Nat.testBit_two_pow_mul];simp
 ·rw[congrArg (fun y=>Nat.testBit y j) hm]
  show (2 ^ Lib.ctzFrom 64 x*(2*m+1)).testBit j=false
  rw[Nat.testBit_two_pow_mul];have:¬ Lib.ctzFrom 64 x<=j:=by omega
  simp[this]
theorem x4o {T:Nat->Bool} {s:Nat} (h:pk T s=0):∀ j,j<64->T (64*s+j)=false:=by
 intro j hj;have:=z2a T s j;rw[h] at this;simpa [hj] using this.symm
theorem x0m {T:Nat->Bool} {s:Nat} (h:pk T s ≠ 0):Lib.ctz 64 (pk T s)<64/\T (64*s+Lib.ctz 64 (pk T s))=true/\∀ j,j<Lib.ctz 64 (pk T s)->T (64*s+j)=false:=by
 obtain⟨h1,h2,h3⟩:=q9b _ h (q2i T s);refine⟨h1,?_,fun j hj=>?_⟩
 ·rw[z2a] at h2;simpa [h1] using h2
 ·have:=h3 j hj;rw[z2a] at this;have lC:j<64:=by omega
  simpa [lC] using this
def z6j (T:Nat->Bool) (a:Nat):Nat->Bool:=fun j=>decide (a<=j) && T j
theorem x4n (T:Nat->Bool) (a:Nat):pk T (a / 64) &&& (18446744073709551615-(2 ^ (a % 64)-1))=pk (z6j T a) (a / 64):=
 q0t fun j=>by
  have hp:2 ^ (a % 64)<18446744073709551616:=Nat.pow_lt_pow_right (a:=2) (by omega) (show a % 64<64 by omega);rw[Nat.testBit_and,z2a,z5f _ _ (by omega),Nat.testBit_two_pow_sub_one];unfold z6j;by_cases h6:j<64
  ·by_cases h:j<a % 64
   ·have:¬ a<=64*(a / 64)+j:=by omega
    simp[h6,h,this]
   ·have:a<=64*(a / 64)+j:=by omega
    simp[h6,h,this]
  ·simp[h6]
theorem x4p (T:Nat->Bool) (a s:Nat) (h:a / 64<s):pk (z6j T a) s=pk T s:=
 z8c fun j hj=>by
  unfold z6j;have:a<=64*s+j:=by omega
  simp[this]
theorem x0n (S:Nat->Bool) (s:Nat):pk S s ^^^ 0=pk S s:=Nat.xor_zero _
theorem x0o (S:Nat->Bool) (s:Nat):pk S s ^^^ 18446744073709551615=pk (fun j=>!S j) s:=
 q0t fun j=>by
  rw[Nat.testBit_xor,z2a,j8g];by_cases h6:j<64 <;> simp[h6]
theorem j2h {T:Nat->Bool} {n a s:Nat} (ha:a<n) (hs:a / 64<=s) (hz:∀ j,a<=j->j<64*s->T j=false) (h:pk (z6j T a) s ≠ 0) :
  min (s*64+Lib.ctz 64 (pk (z6j T a) s)) n=nx T n a:=by
 obtain⟨h1,h2,h3⟩:=x0m h;generalize Lib.ctz 64 (pk (z6j T a) s)=c at *
 unfold z6j at h2 h3;simp only[Bool.and_eq_true,decide_eq_true_eq] at h2;refine(x0c T n a _ (by omega) (by omega) (fun j h4 h5=>?_) (fun h6=>?_)).symm
 ·by_cases hj:j<64*s
  ·exact hz j h4 hj
  ·have:=h3 (j-64*s) (by omega);rw[show 64*s+(j-64*s)=j from by omega] at this;simpa [h4] using this
 ·rw[show min (s*64+c) n=64*s+c from by omega];exact h2.2
theorem j6y {T:Nat->Bool} {n a s:Nat} (hz:∀ j,a<=j->j<64*s->T j=false) (hs:n<=64*s):nx T n a=n:=by
 by_cases h:a<=n
 ·exact x0c T n a n h (Nat.le_refl _) (fun j a b=>hz j a (by omega)) (fun h=>by omega)
 ·exact x2h _ _ _ (by omega)
theorem q4y {T:Nat->Bool} {a s:Nat} (hz:∀ j,a<=j->j<64*s->T j=false) (h:pk (z6j T a) s=0):∀ j,a<=j->j<64*(s+1)->T j=false:=by
 intro j h1 h2;by_cases hj:j<64*s
 ·exact hz j h1 hj
 ·have:=x4o h (j-64*s) (by omega);rw[show 64*s+(j-64*s)=j from by omega] at this;simpa [z6j,h1] using this
end Go.Proofs.YtjgnogflgoihfaaGreatDoor
namespace Go.Proofs.YtjgnogflgoihfaaGreatDoor
open Go.RowKit
abbrev Blk:=Int × Int × Int × Int
def noB:Blk:=(0,0,0,0)
def Y6 (b:Blk):Bool:=b.1 != 0
structure Sp where
 W:Nat->Int
 S:Nat->Int × Int × Int
 O:Nat->Blk
 last:Int
def wN (c:Int):Nat:=(W8 c).toNat
def Y8 (s:Int):Nat:=if 32<s then ((s+63) / 64).toNat*64 else wN (ofV s)
def F6 (c:Int) (o:Nat):Bool:=decide (o % wN c=0) && decide (o+wN c<=64)
def fr (n:Nat) (st:Sp) (c:Int) (i:Nat):Bool:=decide (i<64*n) && (st.S (i / 64) == (1,c,0)) && F6 c (i % 64) && !Y6 (st.O i)
def ob (n:Nat) (st:Sp) (i:Nat):Bool:=decide (i<64*n) && Y6 (st.O i)
def nf (n:Nat) (st:Sp) (c:Int) (i:Nat):Int:=nxr (fr n st c) (64*n) i
def z0b (W:Nat->Int) (a k:Nat):Nat->Int:=fun i=>if a<=i/\i<a+k then 0 else W i
def z2p (W:Nat->Int) (a:Nat) (v:Int):Nat->Int:=fun i=>if i=a then v else W i
def H8 (O:Nat->Blk) (a:Nat) (b:Blk):Nat->Blk:=fun i=>if i=a then b else O i
def q1z (n:Nat) (st:Sp) (c:Int):Nat->Int:=fun i=>if fr n st c i then z0e (nf n st c (i+1)) else st.W i
def q2d (k:Int):Bool:=decide (1<=k) && decide (k<=11)
def z0n (n:Nat) (st:Sp) (s:Int):Option (Nat × Bool):=
 if 32<s then (z0a st.S n ((s+63) / 64).toNat).map fun p=>(64*p,false)
 else if 0<=nf n st (ofV s) 0 then some ((nf n st (ofV s) 0).toNat,false) else (z0a st.S n 1).map fun p=>(64*p,true)
def z0f (st:Sp) (a:Nat) (aR:Bool) (s:Int):Nat->Int × Int × Int:=
 if 32<s then setR st.S (a / 64) ((s+63) / 64).toNat else if aR then q2t st.S (a / 64) (ofV s) else st.S
def Y0 (st:Sp) (k:Int):Int:=if q2d k then st.last+1 else 0
def z0s (st:Sp) (k:Int):Int:=if q2d k then st.last+1 else st.last
def F9 (n:Nat) (st:Sp) (a:Nat) (aR:Bool) (k s t:Int):Sp:=
 let O':=H8 st.O a (k,s,Y0 st k,t)
 let S':=z0f st a aR s
 let W1:=if aR then q1z n ⟨z0b st.W a 64,S',O',0⟩ (ofV s) else st.W
 ⟨z2p (z0b W1 a (Y8 s)) a (B6 a k s),S',O',z0s st k⟩
def alF (n:Nat) (st:Sp) (k s t:Int):Int × Int × Int × Sp:=
 if B7 k s then
  match z0n n st s with
  | none=>(0,20,0,st)
  | some (a,aR)=>
   if s<=32/\aR=false/\st.W a ≠ z0e (nf n st (ofV s) (a+1)) then (0,21,a,st) else (a,0,0,F9 n st a aR k s t)
 else (0,24,0,st)
def ObOk (n:Nat) (S:Nat->Int × Int × Int) (a:Nat) (b:Blk):Prop:=
 a<64*n/\B7 b.1 b.2.1=true/\((b.2.1<=32/\S (a / 64)=(1,ofV b.2.1,0)/\F6 (ofV b.2.1) (a % 64)=true)\/(32<b.2.1/\a % 64=0/\S (a / 64)=(2,0,(b.2.1+63) / 64)))
structure Inv (n:Nat) (st:Sp):Prop where
 n1:1<=n
 n2:n<=4096
 good:Good n st.S
 objs:∀ a,Y6 (st.O a)=true->ObOk n st.S a (st.O a)
 none:∀ a,Y6 (st.O a)=false->st.O a=noB
 heads:∀ p,p<n->(st.S p).1=2->Y6 (st.O (64*p))=true
 last0:0<=st.last
 ser:∀ a,Y6 (st.O a)=true->(q2d (st.O a).1=true->1<=(st.O a).2.2.1/\(st.O a).2.2.1<=st.last)/\(q2d (st.O a).1=false->(st.O a).2.2.1=0)
 one:∀ a b,Y6 (st.O a)=true->Y6 (st.O b)=true->1<=(st.O a).2.2.1->(st.O a).2.2.1=(st.O b).2.2.1->a=b
theorem U3 {k s:Int} (h:B7 k s=true):1<=k/\k<=13/\1<=s/\s<=1024:=by
 obtain⟨h1,h2,h3,_⟩:=fitsB_iff.1 h;obtain⟨j,rfl,j1,j2⟩:=z2s h1;obtain⟨w1,w2,w3,w4,w5,w6,w7⟩:=x1h j1 j2;refine⟨by omega,by omega,by omega,?_⟩;by_cases e:j=4
 ·subst e;have m:mo 4=4096:=rfl;have m2:wd 4=2:=rfl;rw[show ((4:Nat):Int)=4 from rfl,q4m,m,m2] at h3;omega
 ·rw[z2t (by omega)] at h3;rcases q1y j1 j2 with rfl | rfl | rfl | rfl | rfl | rfl | rfl | rfl | rfl | rfl | rfl | rfl | rfl <;> (first | omega | (simp[wd,mo] at h3;omega))
theorem q1a {c:Int} (h0:0<=c) (h7:c<=7):2<=wN c/\wN c<=32:=by
 have:c=0\/c=1\/c=2\/c=3\/c=4\/c=5\/c=6\/c=7:=by omega
 rcases this with rfl | rfl | rfl | rfl | rfl | rfl | rfl | rfl <;> decide
theorem H7 {s:Int} (h1:1<=s) (h2:s<=32):0<=ofV s/\ofV s<=7/\s<=W8 (ofV s):=by
 unfold ofV W8;omega
theorem q9g {O:Nat->Blk} {a i:Nat} {b:Blk}:Y6 (H8 O a b i)=if i=a then Y6 b else Y6 (O i):=by
 unfold H8;split <;> rfl
theorem fr_iff {n:Nat} {st:Sp} {c:Int} {i:Nat}:fr n st c i=true ↔ i<64*n/\st.S (i / 64)=(1,c,0)/\F6 c (i % 64)=true/\Y6 (st.O i)=false:=by
 unfold fr;rw[Bool.and_eq_true,Bool.and_eq_true,Bool.and_eq_true];simp[and_assoc]
theorem q4g {n:Nat} {st:Sp} (h:Inv n st) (i:Nat):ob n st i=Y6 (st.O i):=by
 unfold ob;cases e:Y6 (st.O i) with
 | false=>simp
 | true=>simp[(h.objs i e).1]
theorem U4 (P:Nat->Bool) (n k:Nat):(nxr P n k = -1/\∀ j,k<=j->j<n->P j=false)\/∃ i:Nat,nxr P n k=i/\i<n/\(k<=n->k<=i)/\P i=true/\∀ j,k<=j->j<i->P j=false:=by
 unfold nxr;by_cases h:nx P n k<n
 ·rw[if_pos h];exact .inr ⟨nx P n k,rfl,h,x6u P n k,x6v P n k h,j5q P n k⟩
 ·rw[if_neg h];have:=x4h P n k;exact .inl ⟨rfl,fun j h1 h2=>j5q P n k j h1 (by omega)⟩
theorem z1v {S:Nat->Int × Int × Int} {n k p:Nat} (hg:Good n S) (h:z0a S n k=some p):p<n/\p+k<=n/\∀ j,p<=j->j<p+k->S j=(0,0,0):=by
 obtain⟨h1,h2,h3,_⟩:=z0v h;exact⟨h1,h2,fun j j1 j2=>hg.free (by omega) (allF_iff.1 h3 j j1 j2)⟩
theorem j7a (S:Nat->Int × Int × Int) (p k:Nat) (h:1<=k):setR S p k=z9s (setP S p (2,0,(k:Int))) (p+1) (k-1) (3,0,0):=by
 funext j
 unfold setR z9s setP;by_cases e:j=p
 ·rw[if_pos e,if_neg (by omega),if_pos e]
 ·rw[if_neg e];by_cases h2:p<j/\j<p+k
  ·rw[if_pos h2,if_pos (by omega)]
  ·rw[if_neg h2,if_neg (by omega),if_neg e]
theorem q8h (S:Nat->Int × Int × Int) (p k:Nat):setF S p k=z9s S p k (0,0,0):=rfl
theorem q2w {w:World} {b bw n:Nat} {S:Nat->Int × Int × Int} (h:TblAt 197 w b bw n S) (hT:Tab w) (c:Int) :
  Kz 213 #[Pq b,Iz c] w fun e w'=>e=.returned (.tuple #[Iz (tcP S n c:Nat),Iz (tcE S n c)])/\TblAt 197 w' b bw n (tcS S n c)/\Out bw (bw+1) w w':=by
 have hn:=h.nums;have HW:=Q3 (j7q c w);have HH:=Q3 h;have HT:=Q3 hT;by_cases hc:H9 c=true
 ·rw[hc] at HW;unfold tcP tcE tcS;rw[if_pos hc,if_pos hc,if_pos hc];have HR:Hid (∀ w',Out 0 0 w w'->Kz 212 #[Pq b,Iz 1] w' fun e w'=>e=.returned (.tuple #[Iz ((z0a S n 1).getD 0:Nat),.bool (z0a S n 1).isSome])/\Out 0 0 w w'):=fun w' ho=>by
   obtain⟨cap,c0,_⟩:=(HH.out.quiet ho).cell;exact(q8e c0 (HT.out.quiet ho) ⟨hn.1,hn.2.1⟩ (HH.out.quiet ho).row HH.out.good 1 (by omega) (by omega)).mono fun e w' ⟨a,b⟩=>⟨a,ho.trans b⟩
  cases hf:z0a S n 1 with
  | none=>
   rw[hf] at HR;clear hn h hT hc hf;go_enter Tryz.func213,Tryz.ntmps213
   go_wp2_with (first | (go_at_call 202;refine HW.out.mono ?_;rintro e w1 ⟨v,rfl,hv,ho⟩;have HO:=Q3 ho;have hv2:(v == 0)=false:=hv;clear hv ho) | (go_at_call 212;refine(HR.out _ HO.out).mono ?_;rintro e w2 ⟨rfl,ho⟩));go_ret2;exact⟨rfl,HH.out.quiet ho,ho.any _ _⟩
  | some p=>
   rw[hf] at HR;obtain⟨p1,p2,p3⟩:=z1v HH.out.good hf;have p4:=p3 p (Nat.le_refl _) (by omega);have HG:=Q3 (z8u HH.out.good p4 (by unfold H9 at hc;simp at hc;exact hc.1) (by unfold H9 at hc;simp at hc;exact hc.2));have b0:(0:Int)<=(p:Int):=by omega
   have b1:(p:Int)<(n:Int):=by omega
   have b2:(n:Int)<=4096:=by omega
   have HP:=Q3 p1;have HP4:=Q3 p4;clear hn h hT hc hf p1 p2 p3 p4;go_enter Tryz.func213,Tryz.ntmps213
   go_wp2_with (first | (go_at_call 202;refine HW.out.mono ?_;rintro e w1 ⟨v,rfl,hv,ho⟩;have HO:=Q3 ho;have hv2:(v == 0)=false:=hv;clear hv ho) | (go_at_call 212;refine(HR.out _ HO.out).mono ?_;rintro e w2 ⟨rfl,ho⟩;obtain⟨cap,c0,kU⟩:=(HH.out.quiet ho).cell;obtain⟨q0,q1,q2⟩:=(HH.out.quiet ho).row.page HP.out HP4.out;have fz0:=Row.frozen (HH.out.quiet ho).row (p*3);have fz1:=Row.frozen (HH.out.quiet ho).row (p*3+1);have fz2:=Row.frozen (HH.out.quiet ho).row (p*3+2);have aH:=Q3 ho;clear ho));go_ret2;have hr:=(HH.out.quiet aH.out).row.set p 1 c 0;have dU:Out bw (bw+1) w (((w2.setCell ⟨bw,p*3,none⟩ (Iz 1)).setCell ⟨bw,p*3+1,none⟩ (Iz c)).setCell ⟨bw,p*3+2,none⟩ (Iz 0)):=(aH.out.any _ _).set3 z1 _ _ _;exact⟨rfl,HH.out.turn dU hr HG.out,dU⟩
 ·have hc':H9 c=false:=by simpa using hc
  rw[hc'] at HW;unfold tcP tcE tcS;rw[if_neg hc,if_neg hc,if_neg hc];clear hn h hT hc hc';go_enter Tryz.func213,Tryz.ntmps213
  go_wp2_with (go_at_call 202;refine HW.out.mono ?_;rintro e w1 ⟨v,rfl,hv,ho⟩;have HO:=Q3 ho;have hv2:(v == 0)=true:=hv;clear hv ho);go_ret2;exact⟨rfl,HH.out.quiet HO.out,HO.out.any _ _⟩
end Go.Proofs.YtjgnogflgoihfaaGreatDoor
