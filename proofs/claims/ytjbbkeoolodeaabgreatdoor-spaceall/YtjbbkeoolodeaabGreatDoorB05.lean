import Derived.Laws.Bits64b
import Derived.Lib.TrailingZeros
import Derived.Test.YtjbbkeoolodeaabGreatDoorB04
import Derived.Test.YtjbbkeoolodeaabGreatDoorB00
import Derived.Deep.OwnRows
import Derived.Shelf.Spec.TrailingZeros
import Derived.Laws.Bits128
namespace Go.Proofs.YtjbbkeoolodeaabGreatDoor
open Go
set_option linter.unusedVariables false
set_option maxRecDepth 100000
set_option maxHeartbeats 16000000
set_option linter.unusedSimpArgs false
def pkN (f:Nat->Bool):Nat->Nat
 | 0=>0
 | k+1=>pkN f k+if f k then 2 ^ k else 0
theorem j2i (f:Nat->Bool) (k:Nat):pkN f k<2 ^ k:=by
 induction k with
 | zero=>simp[pkN]
 | succ k ih=>unfold pkN;rw[Nat.pow_succ];split <;> omega
theorem j1b (f:Nat->Bool) (k j:Nat):(pkN f k).testBit j=(decide (j<k) && f j):=by
 induction k with
 | zero=>simp[pkN]
 | succ k ih=>
  have hl:=j2i f k;unfold pkN;by_cases hf:f k=true
  ·rw[if_pos hf,Nat.add_comm,show 2 ^ k+pkN f k=2 ^ k*1+pkN f k from by omega,Nat.testBit_two_pow_mul_add _ hl,ih];by_cases h1:j<k
   ·simp[h1];omega
   ·rw[if_neg h1];by_cases h2:j=k
    ·subst h2;simp[hf]
    ·have:¬ j<k+1:=by omega
     obtain⟨d,hd⟩:∃ d,j-k=d+1:=⟨j-k-1,by omega⟩
     rw[hd,Nat.testBit_succ];simp[this]
  ·rw[if_neg hf,Nat.add_zero,ih];by_cases h2:j=k
   ·subst h2;simp[hf]
   ·have:(j<k) ↔ (j<k+1):=by omega
    simp[this]
def pk (S:Nat->Bool) (i:Nat):Nat:=pkN (fun j=>S (64*i+j)) 64
theorem z9s (S:Nat->Bool) (i:Nat):pk S i<18446744073709551616:=j2i _ 64
theorem z0z (S:Nat->Bool) (i j:Nat):(pk S i).testBit j=(decide (j<64) && S (64*i+j)):=j1b _ _ _
theorem z9f {S:Nat->Bool} {i x:Nat} (h:∀ j,x.testBit j=(decide (j<64) && S (64*i+j))):x=pk S i:=
 Nat.eq_of_testBit_eq fun j=>by rw[h,z0z]
theorem z6q {S T:Nat->Bool} {i:Nat} (h:∀ j,j<64->S (64*i+j)=T (64*i+j)):pk S i=pk T i:=
 z9f fun j=>by rw[z0z];by_cases hj:j<64 <;> simp[hj,h]
theorem j4a (j:Nat):(18446744073709551615:Nat).testBit j=decide (j<64):=Nat.testBit_two_pow_sub_one 64 j
theorem z4f (x j:Nat) (h:x<18446744073709551616):(18446744073709551615-x).testBit j=(decide (j<64) && !x.testBit j):=by
 have:=Nat.testBit_two_pow_sub_succ (n:=64) (x:=x) h j;rw[show 2 ^ 64-(x+1)=18446744073709551615-x from by omega] at this;exact this
theorem F9 (a b:Nat) (ha:a<18446744073709551616) (hb:b<18446744073709551616) :
  bits .andNot .u64 (a:Int) (b:Int)=((a &&& (18446744073709551615-b):Nat):Int):=by
 have hx:a &&& (18446744073709551615-b)<2 ^ 64:=Nat.and_lt_two_pow _ (by omega);have h1:(BitVec.ofInt 64 (a:Int)).toNat=a:=by
  rw[BitVec.ofInt_natCast,BitVec.toNat_ofNat];exact Nat.mod_eq_of_lt (by omega)
 have h2:(BitVec.ofInt 64 (b:Int)).toNat=b:=by
  rw[BitVec.ofInt_natCast,BitVec.toNat_ofNat];exact Nat.mod_eq_of_lt (by omega)
 show IntKind.u64.wrap ((BitVec.ofInt 64 (a:Int) &&& ~~~ BitVec.ofInt 64 (b:Int)).toNat:Int)=_
 rw[BitVec.toNat_and,BitVec.toNat_not,h1,h2,IntKind.wrap_u64];rw[show 2 ^ 64-1-b=18446744073709551615-b from by omega];omega
def upd (S:Nat->Bool) (i:Nat) (b:Bool):Nat->Bool:=fun j=>if j=i then b else S j
theorem z5p (S:Nat->Bool) (i k:Nat) (b:Bool) (h:k ≠ i / 64):pk (upd S i b) k=pk S k:=
 z6q fun j hj=>by unfold upd;rw[if_neg (by omega)]
theorem x2b (S:Nat->Bool) (i:Nat):pk S (i / 64) ||| 2 ^ (i % 64)=pk (upd S i true) (i / 64):=
 z9f fun j=>by
  rw[Nat.testBit_or,z0z,Nat.testBit_two_pow];unfold upd;by_cases h:64*(i / 64)+j=i
  ·have hj:i % 64=j:=by omega
   have hj':j<64:=by omega
   simp[h,hj,hj']
  ·rw[if_neg h];by_cases hj:i % 64=j
   ·omega
   ·simp[hj]
theorem j5z (S:Nat->Bool) (i:Nat):pk S (i / 64) &&& (18446744073709551615-2 ^ (i % 64))=pk (upd S i false) (i / 64):=
 z9f fun j=>by
  have hp:2 ^ (i % 64)<18446744073709551616:=Nat.pow_lt_pow_right (a:=2) (by omega) (show i % 64<64 by omega);rw[Nat.testBit_and,z0z,z4f _ _ hp,Nat.testBit_two_pow];unfold upd;by_cases h:64*(i / 64)+j=i
  ·have hj:i % 64=j:=by omega
   simp[h,hj]
  ·rw[if_neg h];by_cases hj:i % 64=j
   ·omega
   ·by_cases h6:j<64 <;> simp[hj,h6]
theorem x1x (S:Nat->Bool) (i:Nat):pk S (i / 64) &&& 2 ^ (i % 64)=if S i then 2 ^ (i % 64) else 0:=by
 apply Nat.eq_of_testBit_eq;intro j;rw[Nat.testBit_and,z0z,Nat.testBit_two_pow];by_cases hj:i % 64=j
 ·have e:64*(i / 64)+j=i:=by omega
  have h6:j<64:=by omega
  cases hs:S i <;> simp[e,hj,h6,hs]
 ·cases hs:S i <;> simp[hj,Nat.testBit_two_pow]
def msk (lo hi:Nat):Nat:=pkN (fun j=>decide (lo<=j) && decide (j<hi)) 64
theorem x1w (lo hi:Nat):msk lo hi<18446744073709551616:=j2i _ 64
theorem j1l (lo hi j:Nat):(msk lo hi).testBit j=(decide (j<64) && (decide (lo<=j) && decide (j<hi))):=j1b _ _ _
def up (lo:Nat):Nat:=if lo<64 then 18446744073709551616-2 ^ lo else 0
theorem j8y (lo:Nat):up lo<18446744073709551616:=by
 unfold up;have:=Nat.two_pow_pos lo;split <;> omega
theorem j7j (lo j:Nat):(up lo).testBit j=(decide (j<64) && decide (lo<=j)):=by
 unfold up;by_cases h:lo<64
 ·rw[if_pos h];have hp:2 ^ lo<2 ^ 64:=Nat.pow_lt_pow_right (a:=2) (by omega) h;have h1:=Nat.two_pow_pos lo;have:=z4f (2 ^ lo-1) j (by omega);rw[show 18446744073709551615-(2 ^ lo-1)=18446744073709551616-2 ^ lo from by omega,Nat.testBit_two_pow_sub_one] at this;rw[this];by_cases hj:j<lo
  ·simp[hj]
  ·have:lo<=j:=by omega
   simp[this,hj]
 ·rw[if_neg h];by_cases hj:j<64
  ·have:¬ lo<=j:=by omega
   simp[this]
  ·simp[hj]
theorem x0i (lo hi:Nat):up lo &&& (18446744073709551615-up hi)=msk lo hi:=
 Nat.eq_of_testBit_eq fun j=>by
  rw[Nat.testBit_and,j7j,z4f _ _ (j8y _),j7j,j1l];by_cases h:j<64
  ·by_cases h1:lo<=j <;> by_cases h2:hi<=j <;> simp[h,h1,h2] <;> omega
  ·simp[h]
def cnt (S:Nat->Bool):Nat->Nat
 | 0=>0
 | k+1=>cnt S k+if S k then 1 else 0
theorem z3p (S:Nat->Bool) (k:Nat):cnt S k<=k:=by
 induction k with
 | zero=>simp[cnt]
 | succ k ih=>unfold cnt;split <;> omega
theorem z2o {S T:Nat->Bool} {k:Nat} (h:∀ j,j<k->S j=T j):cnt S k=cnt T k:=by
 induction k with
 | zero=>rfl
 | succ k ih=>unfold cnt;rw[ih fun j hj=>h j (by omega),h k (by omega)]
theorem q0m (S:Nat->Bool) (m k:Nat):cnt S (m+k)=cnt S m+cnt (fun j=>S (m+j)) k:=by
 induction k with
 | zero=>simp[cnt]
 | succ k ih=>
  show cnt S (m+k)+(if S (m+k) then 1 else 0)=cnt S m+(cnt (fun j=>S (m+j)) k+if S (m+k) then 1 else 0)
  rw[ih];omega
theorem z4q {S:Nat->Bool} {k:Nat} (h:∀ j,j<k->S j=false):cnt S k=0:=by
 induction k with
 | zero=>rfl
 | succ k ih=>unfold cnt;rw[ih fun j hj=>h j (by omega),h k (by omega)];simp
theorem q6j {S:Nat->Bool} {k:Nat} (h:cnt S k=0):∀ j,j<k->S j=false:=by
 induction k with
 | zero=>intro j hj;omega
 | succ k ih=>
  unfold cnt at h;intro j hj;by_cases e:j=k
  ·subst e;by_cases hs:S j=true
   ·rw[if_pos hs] at h;omega
   ·simpa using hs
  ·exact ih (by omega) j (by omega)
def z6o (S:Nat->Bool) (a b:Nat):Nat:=cnt (fun j=>decide (a<=j) && S j) b
theorem j9m (S:Nat->Bool) (a b:Nat):z6o S a b<=b:=z3p _ _
theorem j4d (S:Nat->Bool) (a b:Nat) (h:b<=a):z6o S a b=0:=
 z4q fun j hj=>by
   have:¬ a<=j:=by omega
   simp[this]
def pop (x:Nat):Nat:=cnt x.testBit 64
theorem x1c (x:Nat):pop x<=64:=z3p _ _
theorem q8z (F:Nat->Bool) (t m:Nat):cnt (fun j=>F j && decide (j<t)) m=cnt F (min m t):=by
 induction m with
 | zero=>simp[cnt]
 | succ m ih=>
  show cnt (fun j=>F j && decide (j<t)) m+(if (F m && decide (m<t)) then 1 else 0)=_
  rw[ih];by_cases h:m<t
  ·rw[show min (m+1) t=m+1 from by omega,show min m t=m from by omega]
   show _=cnt F m+_
   simp[h]
  ·rw[show min (m+1) t=min m t from by omega];simp[h]
theorem q8u (S:Nat->Bool) (a t s:Nat):z6o S a (min (64*s) t)+pop (pk S s &&& msk (a-64*s) (min (t-64*s) 64))=z6o S a (min (64*s+64) t):=by
 unfold z6o pop;rw[<-q8z,<-q8z,q0m];congr 1
 refine z2o fun j hj=>?_
 rw[Nat.testBit_and,z0z,j1l];by_cases h1:a<=64*s+j
 ·have h1':a-64*s<=j:=by omega
  by_cases h2:64*s+j<t
  ·have h2':j<min (t-64*s) 64:=by omega
   simp only[hj,h1,h1',h2,h2',decide_true,Bool.true_and,Bool.and_true]
  ·have h2':¬ j<min (t-64*s) 64:=by omega
   simp only[hj,h1,h1',h2,h2',decide_true,decide_false,Bool.true_and,Bool.and_true,Bool.and_false]
 ·have h1':¬ a-64*s<=j:=by omega
  simp only[hj,h1,h1',decide_true,decide_false,Bool.true_and,Bool.false_and,Bool.and_false]
def nx (P:Nat->Bool) (n k:Nat):Nat:=if k<n then (if P k then k else nx P n (k+1)) else n
termination_by n-k
theorem q3b (P:Nat->Bool) (n k:Nat) (h:n<=k):nx P n k=n:=by rw[nx,if_neg (by omega)]
theorem j0m (P:Nat->Bool) (n k:Nat):nx P n k<=n:=by
 by_cases h:k<n
 ·rw[nx,if_pos h];split
  ·omega
  ·exact j0m P n (k+1)
 ·rw[nx,if_neg h];omega
termination_by n-k
theorem j3j (P:Nat->Bool) (n k:Nat) (h:k<=n):k<=nx P n k:=by
 by_cases h:k<n
 ·rw[nx,if_pos h];split
  ·omega
  ·have:=j3j P n (k+1) (by omega);omega
 ·rw[nx,if_neg h];omega
termination_by n-k
theorem j8d (P:Nat->Bool) (n k:Nat) (h:nx P n k<n):P (nx P n k)=true:=by
 by_cases h':k<n
 ·rw[nx,if_pos h'] at h ⊢;by_cases hp:P k=true
  ·rw[if_pos hp];exact hp
  ·rw[if_neg hp] at h ⊢;exact j8d P n (k+1) h
 ·rw[nx,if_neg h'] at h;omega
termination_by n-k
theorem q6r (P:Nat->Bool) (n k:Nat):∀ j,k<=j->j<nx P n k->P j=false:=by
 intro j h1 h2;by_cases h':k<n
 ·rw[nx,if_pos h'] at h2;by_cases hp:P k=true
  ·rw[if_pos hp] at h2;omega
  ·rw[if_neg hp] at h2;by_cases e:j=k
   ·subst e;simpa using hp
   ·exact q6r P n (k+1) j (by omega) h2
 ·rw[nx,if_neg h'] at h2;omega
termination_by n-k
theorem q8w (P:Nat->Bool) (n k r:Nat) (h1:k<=r) (h2:r<=n) (h3:∀ j,k<=j->j<r->P j=false) (h4:r<n->P r=true):nx P n k=r:=by
 by_cases h':k<n
 ·rw[nx,if_pos h'];by_cases hp:P k=true
  ·rw[if_pos hp];by_cases e:k=r
   ·exact e
   ·rw[h3 k (by omega) (by omega)] at hp;cases hp
  ·rw[if_neg hp];have:k ≠ r:=fun e=>by subst e;exact hp (h4 h')
   exact q8w P n (k+1) r (by omega) h2 (fun j a b=>h3 j (by omega) b) h4
 ·rw[nx,if_neg h'];omega
termination_by n-k
theorem j3g {P Q:Nat->Bool} {n k:Nat} (h:∀ j,k<=j->j<n->P j=Q j):nx P n k=nx Q n k:=by
 by_cases hk:k<=n
 ·refine q8w P n k _ (j3j Q n k hk) (j0m Q n k) (fun j a b=>?_) (fun a=>?_)
  ·have:=j0m Q n k;rw[h j a (by omega)];exact q6r Q n k j a b
  ·rw[h _ (j3j Q n k hk) a];exact j8d Q n k a
 ·rw[q3b _ _ _ (by omega),q3b _ _ _ (by omega)]
def nxr (P:Nat->Bool) (n k:Nat):Int:=if nx P n k<n then (nx P n k:Int) else -1
theorem x0j (P:Nat->Bool) (n k:Nat):nxr P n k<n:=by unfold nxr;split <;> omega
theorem q7a (x:Nat) (h0:x ≠ 0) (h:x<18446744073709551616):Lib.ctz 64 x<64/\x.testBit (Lib.ctz 64 x)=true/\∀ j,j<Lib.ctz 64 x->x.testBit j=false:=by
 obtain⟨m,hm,hk⟩:=Lib.ctzFrom_spec 64 x (by omega) h;have e:Lib.ctz 64 x=Lib.ctzFrom 64 x:=by simp[Lib.ctz,h0]
 rw[e];refine⟨hk,?_,fun j hj=>?_⟩
 ·rw[congrArg (fun y=>Nat.testBit y (Lib.ctzFrom 64 x)) hm]
  show (2 ^ Lib.ctzFrom 64 x*(2*m+1)).testBit (Lib.ctzFrom 64 x)=true
  rw[Nat.testBit_two_pow_mul];simp
 ·rw[congrArg (fun y=>Nat.testBit y j) hm]
  show (2 ^ Lib.ctzFrom 64 x*(2*m+1)).testBit j=false
  rw[Nat.testBit_two_pow_mul];have:¬ Lib.ctzFrom 64 x<=j:=by omega
  simp[this]
theorem j8s {T:Nat->Bool} {s:Nat} (h:pk T s=0):∀ j,j<64->T (64*s+j)=false:=by
 intro j hj;have:=z0z T s j;rw[h] at this;simpa [hj] using this.symm
theorem j6f {T:Nat->Bool} {s:Nat} (h:pk T s ≠ 0):Lib.ctz 64 (pk T s)<64/\T (64*s+Lib.ctz 64 (pk T s))=true/\∀ j,j<Lib.ctz 64 (pk T s)->T (64*s+j)=false:=by
 obtain⟨h1,h2,h3⟩:=q7a _ h (z9s T s);refine⟨h1,?_,fun j hj=>?_⟩
 ·rw[z0z] at h2;simpa [h1] using h2
 ·have:=h3 j hj;rw[z0z] at this;have hj':j<64:=by omega
  simpa [hj'] using this
def Y9 (T:Nat->Bool) (a:Nat):Nat->Bool:=fun j=>decide (a<=j) && T j
theorem j7q (T:Nat->Bool) (a:Nat):pk T (a / 64) &&& (18446744073709551615-(2 ^ (a % 64)-1))=pk (Y9 T a) (a / 64):=
 z9f fun j=>by
  have hp:2 ^ (a % 64)<18446744073709551616:=Nat.pow_lt_pow_right (a:=2) (by omega) (show a % 64<64 by omega);rw[Nat.testBit_and,z0z,z4f _ _ (by omega),Nat.testBit_two_pow_sub_one];unfold Y9;by_cases h6:j<64
  ·by_cases h:j<a % 64
   ·have:¬ a<=64*(a / 64)+j:=by omega
    simp[h6,h,this]
   ·have:a<=64*(a / 64)+j:=by omega
    simp[h6,h,this]
  ·simp[h6]
theorem j9r (T:Nat->Bool) (a s:Nat) (h:a / 64<s):pk (Y9 T a) s=pk T s:=
 z6q fun j hj=>by
  unfold Y9;have:a<=64*s+j:=by omega
  simp[this]
theorem j3h (S:Nat->Bool) (s:Nat):pk S s ^^^ 0=pk S s:=Nat.xor_zero _
theorem j5u (S:Nat->Bool) (s:Nat):pk S s ^^^ 18446744073709551615=pk (fun j=>!S j) s:=
 z9f fun j=>by
  rw[Nat.testBit_xor,z0z,j4a];by_cases h6:j<64 <;> simp[h6]
theorem q7q {T:Nat->Bool} {n a s:Nat} (ha:a<n) (hs:a / 64<=s) (hz:∀ j,a<=j->j<64*s->T j=false) (h:pk (Y9 T a) s ≠ 0) :
  min (s*64+Lib.ctz 64 (pk (Y9 T a) s)) n=nx T n a:=by
 obtain⟨h1,h2,h3⟩:=j6f h;generalize Lib.ctz 64 (pk (Y9 T a) s)=c at *
 unfold Y9 at h2 h3;simp only[Bool.and_eq_true,decide_eq_true_eq] at h2;refine(q8w T n a _ (by omega) (by omega) (fun j h4 h5=>?_) (fun h6=>?_)).symm
 ·by_cases hj:j<64*s
  ·exact hz j h4 hj
  ·have:=h3 (j-64*s) (by omega);rw[show 64*s+(j-64*s)=j from by omega] at this;simpa [h4] using this
 ·rw[show min (s*64+c) n=64*s+c from by omega];exact h2.2
theorem j0l {T:Nat->Bool} {n a s:Nat} (hz:∀ j,a<=j->j<64*s->T j=false) (hs:n<=64*s):nx T n a=n:=by
 by_cases h:a<=n
 ·exact q8w T n a n h (Nat.le_refl _) (fun j a b=>hz j a (by omega)) (fun h=>by omega)
 ·exact q3b _ _ _ (by omega)
theorem q2z {T:Nat->Bool} {a s:Nat} (hz:∀ j,a<=j->j<64*s->T j=false) (h:pk (Y9 T a) s=0):∀ j,a<=j->j<64*(s+1)->T j=false:=by
 intro j h1 h2;by_cases hj:j<64*s
 ·exact hz j h1 hj
 ·have:=j8s h (j-64*s) (by omega);rw[show 64*s+(j-64*s)=j from by omega] at this;simpa [Y9,h1] using this
end Go.Proofs.YtjbbkeoolodeaabGreatDoor
namespace Go.Proofs.YtjbbkeoolodeaabGreatDoor
open Go.RowKit
set_option linter.unusedVariables false
set_option maxRecDepth 100000
set_option maxHeartbeats 16000000
set_option linter.unusedSimpArgs false
abbrev Blk:=Int × Int × Int × Int
def noB:Blk:=(0,0,0,0)
def Q7 (b:Blk):Bool:=b.1 != 0
structure Sp where
 W:Nat->Int
 S:Nat->Int × Int × Int
 O:Nat->Blk
 last:Int
def wN (c:Int):Nat:=(J2 c).toNat
def J3 (s:Int):Nat:=if 32<s then ((s+63) / 64).toNat*64 else wN (ofV s)
def K7 (c:Int) (o:Nat):Bool:=decide (o % wN c=0) && decide (o+wN c<=64)
def fr (n:Nat) (st:Sp) (c:Int) (i:Nat):Bool:=decide (i<64*n) && (st.S (i / 64) == (1,c,0)) && K7 c (i % 64) && !Q7 (st.O i)
def ob (n:Nat) (st:Sp) (i:Nat):Bool:=decide (i<64*n) && Q7 (st.O i)
def nf (n:Nat) (st:Sp) (c:Int) (i:Nat):Int:=nxr (fr n st c) (64*n) i
def U9 (W:Nat->Int) (a k:Nat):Nat->Int:=fun i=>if a<=i/\i<a+k then 0 else W i
def z5b (W:Nat->Int) (a:Nat) (v:Int):Nat->Int:=fun i=>if i=a then v else W i
def U4 (O:Nat->Blk) (a:Nat) (b:Blk):Nat->Blk:=fun i=>if i=a then b else O i
def z8m (n:Nat) (st:Sp) (c:Int):Nat->Int:=fun i=>if fr n st c i then Y7 (nf n st c (i+1)) else st.W i
def z9w (k:Int):Bool:=decide (1<=k) && decide (k<=11)
def K5 (n:Nat) (st:Sp) (s:Int):Option (Nat × Bool):=
 if 32<s then (U2 st.S n ((s+63) / 64).toNat).map fun p=>(64*p,false)
 else if 0<=nf n st (ofV s) 0 then some ((nf n st (ofV s) 0).toNat,false) else (U2 st.S n 1).map fun p=>(64*p,true)
def Y0 (st:Sp) (a:Nat) (fresh:Bool) (s:Int):Nat->Int × Int × Int:=
 if 32<s then setR st.S (a / 64) ((s+63) / 64).toNat else if fresh then setC st.S (a / 64) (ofV s) else st.S
def Q9 (st:Sp) (k:Int):Int:=if z9w k then st.last+1 else 0
def U8 (st:Sp) (k:Int):Int:=if z9w k then st.last+1 else st.last
def V8 (n:Nat) (st:Sp) (a:Nat) (fresh:Bool) (k s t:Int):Sp:=
 let O':=U4 st.O a (k,s,Q9 st k,t)
 let S':=Y0 st a fresh s
 let W1:=if fresh then z8m n ⟨U9 st.W a 64,S',O',0⟩ (ofV s) else st.W
 ⟨z5b (U9 W1 a (J3 s)) a (X9 a k s),S',O',U8 st k⟩
def alF (n:Nat) (st:Sp) (k s t:Int):Int × Int × Int × Sp:=
 if W8 k s then
  match K5 n st s with
  | none=>(0,20,0,st)
  | some (a,fresh)=>
   if s<=32/\fresh=false/\st.W a ≠ Y7 (nf n st (ofV s) (a+1)) then (0,21,a,st) else (a,0,0,V8 n st a fresh k s t)
 else (0,24,0,st)
def ObOk (n:Nat) (S:Nat->Int × Int × Int) (a:Nat) (b:Blk):Prop:=
 a<64*n/\W8 b.1 b.2.1=true/\((b.2.1<=32/\S (a / 64)=(1,ofV b.2.1,0)/\K7 (ofV b.2.1) (a % 64)=true)\/(32<b.2.1/\a % 64=0/\S (a / 64)=(2,0,(b.2.1+63) / 64)))
structure Inv (n:Nat) (st:Sp):Prop where
 n1:1<=n
 n2:n<=4096
 good:Good n st.S
 objs:∀ a,Q7 (st.O a)=true->ObOk n st.S a (st.O a)
 none:∀ a,Q7 (st.O a)=false->st.O a=noB
 heads:∀ p,p<n->(st.S p).1=2->Q7 (st.O (64*p))=true
 last0:0<=st.last
 ser:∀ a,Q7 (st.O a)=true->(z9w (st.O a).1=true->1<=(st.O a).2.2.1/\(st.O a).2.2.1<=st.last)/\(z9w (st.O a).1=false->(st.O a).2.2.1=0)
 one:∀ a b,Q7 (st.O a)=true->Q7 (st.O b)=true->1<=(st.O a).2.2.1->(st.O a).2.2.1=(st.O b).2.2.1->a=b
theorem J8 {k s:Int} (h:W8 k s=true):1<=k/\k<=13/\1<=s/\s<=1024:=by
 obtain⟨h1,h2,h3,_⟩:=fitsB_iff.1 h;obtain⟨j,rfl,j1,j2⟩:=z7c h1;obtain⟨w1,w2,w3,w4,w5,w6,w7⟩:=j9u j1 j2;refine⟨by omega,by omega,by omega,?_⟩;by_cases e:j=4
 ·subst e;have m:mo 4=4096:=rfl;have m2:wd 4=2:=rfl;rw[show ((4:Nat):Int)=4 from rfl,q6q,m,m2] at h3;omega
 ·rw[z1e (by omega)] at h3;rcases j2m j1 j2 with rfl | rfl | rfl | rfl | rfl | rfl | rfl | rfl | rfl | rfl | rfl | rfl | rfl <;> (first | omega | (simp[wd,mo] at h3;omega))
theorem z4l {c:Int} (h0:0<=c) (h7:c<=7):2<=wN c/\wN c<=32:=by
 have:c=0\/c=1\/c=2\/c=3\/c=4\/c=5\/c=6\/c=7:=by omega
 rcases this with rfl | rfl | rfl | rfl | rfl | rfl | rfl | rfl <;> decide
theorem W9 {s:Int} (h1:1<=s) (h2:s<=32):0<=ofV s/\ofV s<=7/\s<=J2 (ofV s):=by
 unfold ofV J2;omega
theorem q6c {O:Nat->Blk} {a i:Nat} {b:Blk}:Q7 (U4 O a b i)=if i=a then Q7 b else Q7 (O i):=by
 unfold U4;split <;> rfl
theorem fr_iff {n:Nat} {st:Sp} {c:Int} {i:Nat}:fr n st c i=true ↔ i<64*n/\st.S (i / 64)=(1,c,0)/\K7 c (i % 64)=true/\Q7 (st.O i)=false:=by
 unfold fr;rw[Bool.and_eq_true,Bool.and_eq_true,Bool.and_eq_true];simp[and_assoc]
theorem q9x (n:Nat) (st:Sp) (c:Int):∀ j,64*n<=j->fr n st c j=false:=fun j hj=>by
 unfold fr;rw[show decide (j<64*n)=false from by simp;omega];rfl
theorem z9j {n:Nat} {st:Sp} (h:Inv n st) (i:Nat):ob n st i=Q7 (st.O i):=by
 unfold ob;cases e:Q7 (st.O i) with
 | false=>simp
 | true=>simp[(h.objs i e).1]
theorem Q1 (P:Nat->Bool) (n k:Nat):(nxr P n k = -1/\∀ j,k<=j->j<n->P j=false)\/∃ i:Nat,nxr P n k=i/\i<n/\(k<=n->k<=i)/\P i=true/\∀ j,k<=j->j<i->P j=false:=by
 unfold nxr;by_cases h:nx P n k<n
 ·rw[if_pos h];exact .inr ⟨nx P n k,rfl,h,j3j P n k,j8d P n k h,q6r P n k⟩
 ·rw[if_neg h];have:=j0m P n k;exact .inl ⟨rfl,fun j h1 h2=>q6r P n k j h1 (by omega)⟩
end Go.Proofs.YtjbbkeoolodeaabGreatDoor
namespace Go.Proofs.YtjbbkeoolodeaabGreatDoor
open Go
set_option linter.unusedVariables false
set_option maxRecDepth 100000
set_option maxHeartbeats 16000000
set_option linter.unusedSimpArgs false
theorem z2t (h l c d:Nat) (hl:l<256) (hd:d<256):(256*h+l) &&& (256*c+d)=256*(h &&& c)+(l &&& d):=by
 have hx:l &&& d<2 ^ 8:=Nat.and_lt_two_pow _ hd;apply Nat.eq_of_testBit_eq;intro j;have e1:=Nat.testBit_two_pow_mul_add h (i:=8) (b:=l) hl j;have e2:=Nat.testBit_two_pow_mul_add c (i:=8) (b:=d) hd j;have e3:=Nat.testBit_two_pow_mul_add (h &&& c) (i:=8) (b:=l &&& d) hx j;have p:(2:Nat) ^ 8=256:=rfl;rw[p] at e1 e2 e3;rw[Nat.testBit_and,e1,e2,e3];split <;> rw[Nat.testBit_and]
def rep (c:Nat):Nat->Nat
 | 0=>0
 | k+1=>256*rep c k+c
def f1 (k x:Nat):Nat:=(x / 2 &&& rep 85 k)+(x &&& rep 85 k)
def f2 (k x:Nat):Nat:=(x / 4 &&& rep 51 k)+(x &&& rep 51 k)
def f3 (k x:Nat):Nat:=(x / 16+x) &&& rep 15 k
def g1 (l:Nat):Nat:=(l / 2 &&& 85)+(l &&& 85)
def g2 (l:Nat):Nat:=(l / 4 &&& 51)+(l &&& 51)
theorem low1:∀ b:Fin 2,∀ l:Fin 256,(128*b.val+l.val / 2) &&& 85=(l.val / 2) &&& 85:=by decide +kernel
theorem low2:∀ b:Fin 4,∀ l:Fin 256,(64*b.val+l.val / 4) &&& 51=(l.val / 4) &&& 51:=by decide +kernel
theorem g1_lt:∀ l:Fin 256,g1 l.val<256:=by decide +kernel
theorem j1u:∀ l:Fin 256,g2 (g1 l.val) % 16<=4/\g2 (g1 l.val) / 16<=4:=by decide +kernel
theorem x1o:∀ l:Fin 256,g2 (g1 l.val) / 16+g2 (g1 l.val) % 16=cnt l.val.testBit 8:=by decide +kernel
theorem j9a (k h l:Nat) (hl:l<256):f1 (k+1) (256*h+l)=256*f1 k h+g1 l:=by
 unfold f1 g1
 show ((256*h+l) / 2 &&& (256*rep 85 k+85))+((256*h+l) &&& (256*rep 85 k+85))=_
 rw[show (256*h+l) / 2=256*(h / 2)+(128*(h % 2)+l / 2) from by omega,z2t _ _ _ _ (by omega) (by omega),z2t _ _ _ _ hl (by omega)];have:=low1 ⟨h % 2,by omega⟩ ⟨l,hl⟩;simp only at this;rw[this];omega
theorem j9z (k h l:Nat) (hl:l<256):f2 (k+1) (256*h+l)=256*f2 k h+g2 l:=by
 unfold f2 g2
 show ((256*h+l) / 4 &&& (256*rep 51 k+51))+((256*h+l) &&& (256*rep 51 k+51))=_
 rw[show (256*h+l) / 4=256*(h / 4)+(64*(h % 4)+l / 4) from by omega,z2t _ _ _ _ (by omega) (by omega),z2t _ _ _ _ hl (by omega)];have:=low2 ⟨h % 4,by omega⟩ ⟨l,hl⟩;simp only at this;rw[this];omega
theorem q6z (k h l:Nat) (hl:l<256):f2 (k+1) (f1 (k+1) (256*h+l))=256*f2 k (f1 k h)+g2 (g1 l):=by
 have:=g1_lt ⟨l,hl⟩;rw[j9a k h l hl,j9z _ _ _ this]
theorem j9d (k x:Nat):f2 k (f1 k x) % 16<=4:=by
 cases k with
 | zero=>simp[f2,f1,rep]
 | succ k=>
  rw[show x=256*(x / 256)+x % 256 from by omega,q6z _ _ _ (by omega)];have:=j1u ⟨x % 256,by omega⟩;simp only at this;omega
theorem j0k (k h l:Nat) (hl:l<256):f3 (k+1) (f2 (k+1) (f1 (k+1) (256*h+l)))=256*f3 k (f2 k (f1 k h))+cnt l.testBit 8:=by
 rw[q6z _ _ _ hl];have h1:=j9d k h;have h2:=j1u ⟨l,hl⟩;have h3:=x1o ⟨l,hl⟩;simp only at h2 h3;rw[<-h3];generalize f2 k (f1 k h)=H at *
 generalize g2 (g1 l)=L at *
 unfold f3
 show ((256*H+L) / 16+(256*H+L)) &&& (256*rep 15 k+15)=_
 rw[show (256*H+L) / 16+(256*H+L)=256*(H / 16+H)+(16*(H % 16)+L / 16+L) from by omega,z2t _ _ _ _ (by omega) (by omega)];rw[show (15:Nat)=2 ^ 4-1 from rfl,Nat.and_two_pow_sub_one_eq_mod];omega
theorem j3b (x k:Nat):cnt x.testBit (8+k)=cnt (x % 256).testBit 8+cnt (x / 256).testBit k:=by
 rw[q0m];congr 1
 ·refine z2o fun j hj=>?_
  rw[show (256:Nat)=2 ^ 8 from rfl,Nat.testBit_mod_two_pow];simp[hj]
 ·refine z2o fun j hj=>?_
  rw[show (256:Nat)=2 ^ 8 from rfl,Nat.testBit_div_two_pow];rw[Nat.add_comm]
theorem q9q (k x:Nat):f3 (k+1) (f2 (k+1) (f1 (k+1) x))=256*f3 k (f2 k (f1 k (x / 256)))+cnt (x % 256).testBit 8:=by
 have:=j0k k (x / 256) (x % 256) (by omega);rw[show 256*(x / 256)+x % 256=x from by omega] at this;exact this
theorem m55:rep 85 8=6148914691236517205:=by simp[rep]
theorem m33:rep 51 8=3689348814741910323:=by simp[rep]
theorem m0f:rep 15 8=1085102592571150095:=by simp[rep]
theorem x1b (y h1 h2 h3 h4 h5 h6 h7 p0 p1 p2 p3 p4 p5 p6:Nat) (b0:p0<=8) (b1:p1<=8) (b2:p2<=8) (b3:p3<=8) (b4:p4<=8) (b5:p5<=8) (b6:p6<=8) (b7:h7<=8)
  (e0:y=256*h1+p0) (e1:h1=256*h2+p1) (e2:h2=256*h3+p2) (e3:h3=256*h4+p3) (e4:h4=256*h5+p4) (e5:h5=256*h6+p5) (e6:h6=256*h7+p6) :
  y+y / 256<18446744073709551616/\(y+y / 256)+(y+y / 256) / 65536<18446744073709551616/\((y+y / 256)+(y+y / 256) / 65536)+((y+y / 256)+(y+y / 256) / 65536) / 4294967296<18446744073709551616 ∧
   (((y+y / 256)+(y+y / 256) / 65536)+((y+y / 256)+(y+y / 256) / 65536) / 4294967296) % 128=p0+p1+p2+p3+p4+p5+p6+h7:=by
 have l6:h6<=256*8+8:=by omega
 have l5:h5<=256*2056+8:=by omega
 have l4:h4<=256*526344+8:=by omega
 have l3:h3<=256*134744072+8:=by omega
 have l2:h2<=256*34494482440+8:=by omega
 have l1:h1<=256*8830587504648+8:=by omega
 have a1:y / 256=h1:=by clear e1 e2 e3 e4 e5 e6;omega
 rw[a1];have a2:(y+h1) / 65536=h2+h3:=by
  have:y+h1=65536*(h2+h3)+(256*(p1+p2)+(p0+p1)):=by clear e3 e4 e5 e6;omega
  rw[this];clear e0 e1 e2 e3 e4 e5 e6 this;omega
 rw[a2];have a3:(y+h1+(h2+h3)) / 4294967296=h4+h5+h6+h7:=by
  have t0:y=4294967296*h4+(16777216*p3+65536*p2+256*p1+p0):=by clear e4 e5 e6;omega
  have t1:h1=4294967296*h5+(16777216*p4+65536*p3+256*p2+p1):=by clear e0 e5 e6;omega
  have t2:h2=4294967296*h6+(16777216*p5+65536*p4+256*p3+p2):=by clear e0 e1 e6;omega
  have t3:h3=4294967296*h7+(16777216*p6+65536*p5+256*p4+p3):=by clear e0 e1 e2;omega
  clear e0 e1 e2 e3 e4 e5 e6 a1 a2;omega
 rw[a3];clear a1 a2 a3;refine⟨by clear e1 e2 e3 e4 e5 e6;omega,by clear e1 e2 e3 e4 e5 e6;omega,by clear e1 e2 e3 e4 e5 e6;omega,?_⟩;have:y+h1+(h2+h3)+(h4+h5+h6+h7)=128*(2*(h1+h2+h3+h4+h5+h6+h7))+(p0+p1+p2+p3+p4+p5+p6+h7):=by omega
 rw[this];clear e0 e1 e2 e3 e4 e5 e6 this;omega
def ocA (x:Nat):Nat:=(x / 2 &&& 6148914691236517205)+(x &&& 6148914691236517205)
def ocB (x:Nat):Nat:=(x / 4 &&& 3689348814741910323)+(x &&& 3689348814741910323)
def ocC (x:Nat):Nat:=(x / 16+x) &&& 1085102592571150095
theorem z0j (x m k:Nat) (h:m=8+k):cnt x.testBit m=cnt (x % 256).testBit 8+cnt (x / 256).testBit k:=by rw[h,j3b]
theorem oc_f (x:Nat):ocC (ocB (ocA x))=f3 8 (f2 8 (f1 8 x)):=by unfold ocA ocB ocC f1 f2 f3;rw[m55,m33,m0f]
def fx (k x:Nat):Nat:=f3 k (f2 k (f1 k x))
theorem j9g (x:Nat):fx 0 x=0:=by simp[fx,f1,f2,f3,rep]
theorem z2s (k x:Nat):fx (k+1) x=256*fx k (x / 256)+cnt (x % 256).testBit 8:=q9q k x
theorem x1p (x : Nat) : ∃ y, ocC (ocB (ocA x)) = y ∧ y + y / 256 < 18446744073709551616 ∧ (y + y / 256) + (y + y / 256) / 65536 < 18446744073709551616 ∧ ((y + y / 256) + (y + y / 256) / 65536) + ((y + y / 256) + (y + y / 256) / 65536) / 4294967296 < 18446744073709551616 ∧
      (((y + y / 256) + (y + y / 256) / 65536) + ((y + y / 256) + (y + y / 256) / 65536) / 4294967296) % 128 = pop x := by
  have e : ocC (ocB (ocA x)) = fx 8 x := by rw [oc_f, fx]
  have hp : pop x = cnt x.testBit 64 := rfl; obtain ⟨x1, h1⟩ : ∃ x1, x / 256 = x1 := ⟨_, rfl⟩
  obtain ⟨x2, h2⟩ : ∃ x2, x1 / 256 = x2 := ⟨_, rfl⟩
  obtain ⟨x3, h3⟩ : ∃ x3, x2 / 256 = x3 := ⟨_, rfl⟩
  obtain ⟨x4, h4⟩ : ∃ x4, x3 / 256 = x4 := ⟨_, rfl⟩
  obtain ⟨x5, h5⟩ : ∃ x5, x4 / 256 = x5 := ⟨_, rfl⟩
  obtain ⟨x6, h6⟩ : ∃ x6, x5 / 256 = x6 := ⟨_, rfl⟩
  obtain ⟨x7, h7⟩ : ∃ x7, x6 / 256 = x7 := ⟨_, rfl⟩
  have k0 := z0j x 64 56 rfl; have k1 := z0j x1 56 48 rfl; have k2 := z0j x2 48 40 rfl; have k3 := z0j x3 40 32 rfl; have k4 := z0j x4 32 24 rfl; have k5 := z0j x5 24 16 rfl; have k6 := z0j x6 16 8 rfl; have k7 := z0j x7 8 0 rfl; have z7 : cnt (x7 / 256).testBit 0 = 0 := rfl; have y0 := z2s 7 x; have y1 := z2s 6 x1; have y2 := z2s 5 x2; have y3 := z2s 4 x3; have y4 := z2s 3 x4; have y5 := z2s 2 x5; have y6 := z2s 1 x6; have y7 := z2s 0 x7; rw [j9g] at y7; rw [h1] at k0 y0; rw [h2] at k1 y1; rw [h3] at k2 y2; rw [h4] at k3 y3; rw [h5] at k4 y4; rw [h6] at k5 y5; rw [h7] at k6 y6; have q0 := z3p (x % 256).testBit 8; have q1 := z3p (x1 % 256).testBit 8; have q2 := z3p (x2 % 256).testBit 8; have q3 := z3p (x3 % 256).testBit 8; have q4 := z3p (x4 % 256).testBit 8; have q5 := z3p (x5 % 256).testBit 8; have q6 := z3p (x6 % 256).testBit 8; have q7 := z3p (x7 % 256).testBit 8; refine ⟨fx 8 x, e, ?_⟩; clear e h1 h2 h3 h4 h5 h6 h7; generalize cnt (x % 256).testBit 8 = p0 at *
  generalize cnt (x1 % 256).testBit 8 = p1 at *
  generalize cnt (x2 % 256).testBit 8 = p2 at *
  generalize cnt (x3 % 256).testBit 8 = p3 at *
  generalize cnt (x4 % 256).testBit 8 = p4 at *
  generalize cnt (x5 % 256).testBit 8 = p5 at *
  generalize cnt (x6 % 256).testBit 8 = p6 at *
  generalize cnt (x7 % 256).testBit 8 = p7 at *
  have hp' : pop x = p0 + p1 + p2 + p3 + p4 + p5 + p6 + p7 := by
    rw [hp, k0, k1, k2, k3, k4, k5, k6]; clear y0 y1 y2 y3 y4 y5 y6 y7 q0 q1 q2 q3 q4 q5 q6 q7 hp k0 k1 k2 k3 k4 k5 k6; omega
  clear hp k0 k1 k2 k3 k4 k5 k6 k7 z7; simp only [Nat.reduceAdd] at y0 y1 y2 y3 y4 y5 y6 y7; have y7' : fx 1 x7 = p7 := by rw [y7]; omega
  rw [y7'] at y6; obtain ⟨r1, r2, r3, r4⟩ := x1b _ _ _ _ _ _ _ _ p0 p1 p2 p3 p4 p5 p6 q0 q1 q2 q3 q4 q5 q6 q7 y0 y1 y2 y3 y4 y5 y6; exact ⟨r1, r2, r3, by rw [r4, hp']⟩
end Go.Proofs.YtjbbkeoolodeaabGreatDoor
namespace Go.Proofs.YtjbbkeoolodeaabGreatDoor
open Go.RowKit
set_option linter.unusedVariables false
set_option maxRecDepth 100000
set_option maxHeartbeats 16000000
set_option linter.unusedSimpArgs false
def nw (n:Nat):Nat:=(n+63) / 64
def MapAt (w:World) (lo hi b n:Nat) (S:Nat->Bool):Prop:=
 ∃ (bw:Nat) (cap:Nat),w.heap[b]? = some (.cells #[.int .i64 n,.slice (some ⟨bw,0,none⟩) (nw n) cap] 165 (0,0))/\lo<=b/\b<hi/\hi<=w.heap.size/\4<=lo/\n<=262144/\nw n<=cap/\(∀ j,n<=j->S j=false)/\Tab w ∧
  lo<=bw/\bw<hi/\bw ≠ b/\Row w bw 162 (nw n) (fun i=>.int .u64 (pk S i))
theorem MapAt.kept {w w':World} {lo hi b n lo' hi':Nat} {S:Nat->Bool} (h:MapAt w lo hi b n S) (g:Out lo' hi' w w') (hd:hi<=lo'\/hi'<=lo) (hp:4<=lo'\/hi'=0):MapAt w' lo hi b n S:=by
 obtain⟨bw,cap,hb,h1,h2,h3,h4,h5,h6,h7,h8,l1,l2,l3,hr⟩:=h;have hk:bw<lo'\/hi'<=bw:=by omega
 exact⟨bw,cap,g.heap hb (by omega),h1,h2,Nat.le_trans h3 g.size,h4,h5,h6,h7,h8.kept g (by omega),l1,l2,l3,hr.kept g hk⟩
theorem MapAt.quiet {w w':World} {lo hi b n:Nat} {S:Nat->Bool} (h:MapAt w lo hi b n S) (g:Out 0 0 w w'):MapAt w' lo hi b n S:=h.kept g z0 (.inr rfl)
theorem MapAt.drew {w:World} {lo hi b n:Nat} {S:Nat->Bool} (h:MapAt w lo hi b n S):MapAt w.drew lo hi b n S:=h.quiet (Out.refl _ _ _).drew
theorem MapAt.alloc {w:World} {lo hi b n:Nat} {S:Nat->Bool} (h:MapAt w lo hi b n S) (o:Obj):MapAt (w.alloc o) lo hi b n S:=h.quiet ((Out.refl _ _ _).alloc o)
theorem MapAt.tab {w:World} {lo hi b n:Nat} {S:Nat->Bool} (h:MapAt w lo hi b n S):Tab w:=by
 obtain⟨bw,cap,hb,h1,h2,h3,h4,h5,h6,h7,h8,h9⟩:=h;exact h8
theorem MapAt.bounds {w:World} {lo hi b n:Nat} {S:Nat->Bool} (h:MapAt w lo hi b n S):lo<=b/\b<hi/\hi<=w.heap.size/\4<=lo/\n<=262144/\∀ j,n<=j->S j=false:=by
 obtain⟨bw,cap,hb,h1,h2,h3,h4,h5,h6,h7,h8,h9⟩:=h;exact⟨h1,h2,h3,h4,h5,h7⟩
theorem MapAt.len {w:World} {lo hi b n:Nat} {S:Nat->Bool} (h:MapAt w lo hi b n S):w.cell? ⟨b,0,none⟩=some (.int .i64 n):=by
 obtain⟨bw,cap,hb,_⟩:=h;simp[World.cell?,hb]
theorem z8h {w:World} {lo hi b n:Nat} {S:Nat->Bool} (h:MapAt w lo hi b n S) :
  Calls Tryz.prog 134 #[.pointer (some ⟨b,0,none⟩)] w fun e w'=>e=.returned (.int .i64 n)/\w'=w:=by
 have c0:=h.len;go_enter Tryz.func134,Tryz.ntmps134
 go_wp2;go_ret;exact⟨rfl,rfl⟩
theorem z4y {w:World} {lo hi b n:Nat} {S:Nat->Bool} (h:MapAt w lo hi b n S) (i:Int) :
  Calls Tryz.prog 139 #[.pointer (some ⟨b,0,none⟩),.int .i64 i] w fun e w'=>e=.returned (.bool (inB n i))/\w'=w:=by
 have H:=Z0 (z8h h);by_cases h0:0<=i
 ·by_cases h1:i<n
  ·have e:inB n i=true:=by simp[inB,h0,h1]
   rw[e];go_enter Tryz.func139,Tryz.ntmps139
   go_wp2_with (go_at_call 134;refine Z5 H.out ?_)
   all_goals go_ret
   all_goals exact⟨rfl,rfl⟩
  ·have e:inB n i=false:=by simp[inB,h1]
   rw[e];go_enter Tryz.func139,Tryz.ntmps139
   go_wp2_with (go_at_call 134;refine Z5 H.out ?_)
   all_goals go_ret
   all_goals exact⟨K8 (by simp;omega),rfl⟩
 ·have e:inB n i=false:=by simp[inB,h0]
  rw[e];go_enter Tryz.func139,Tryz.ntmps139
  go_wp2_with (go_at_call 134;refine Z5 H.out ?_)
  all_goals go_ret
  all_goals exact⟨rfl,rfl⟩
def q3n (i:Nat):Nat:=2 ^ (i % 64)
theorem z6w (i:Nat):q3n i<18446744073709551616:=Nat.pow_lt_pow_right (a:=2) (by omega) (show i % 64<64 by omega)
theorem q6b (i:Nat):0<q3n i:=Nat.two_pow_pos _
theorem z9n (i:Nat) (w:World) (hi:i<1000000) :
  Calls Tryz.prog 140 #[.int .i64 i] w fun e w'=>e=.returned (.int .u64 (q3n i))/\w'=w:=by
 have h0:(0:Int)<=(i:Int):=by omega
 have h1:(i:Int)<1000000:=by omega
 go_enter Tryz.func140,Tryz.ntmps140
 go_wp2;go_ret;refine⟨U3 ?_,rfl⟩;rw[IntKind.wrap_u64];have h2:=z6w i;have h3:((q3n i:Nat):Int)=2 ^ (i % 64):=by unfold q3n;simp
 show (2:Int) ^ (i % 64) % 18446744073709551616=_
 rw[<-h3];omega
theorem j8e (x k idx:Nat) (w:World) (hx0:((x:Int) == 0)=false)
  (key:IntKind.u64.wrap (bits BinOp.and IntKind.u64 (x:Int) (IntKind.u64.wrap (-(x:Int)))*285870213051353865) / 288230376151711744=(idx:Int))
  (hi:idx<64) (hk:k<64) (hcell:w.cell? ⟨3,idx,none⟩=some (.int .u8 k)) :
  Calls Tryz.prog 160 #[.int .u64 x] w fun e w'=>e=.returned (.int .i64 k)/\w'=w:=by
 go_enter Tryz.func160,Tryz.ntmps160
 go_wp2_with (simp only[key]);go_ret;exact⟨rfl,rfl⟩
theorem x1k (x:Nat) (hx:x<18446744073709551616) (hx0:x ≠ 0) {w:World} (hT:Tab w) :
  Calls Tryz.prog 160 #[.int .u64 x] w fun e w'=>e=.returned (.int .i64 (Lib.ctz 64 x))/\w'=w:=by
 obtain⟨hlow,hk⟩:=Lib.lowest_bit 64 x hx0 hx;obtain⟨hi,htab⟩:=Lib.deBruijn64_at _ hk;have hcell:=hT.2.2 _ hi;rw[htab] at hcell;exact j8e x _ _ w (by simp;omega) (tz64_key x _ hx hx0 hlow) hi hk hcell
theorem q9g (a c:Nat) (ha:a<18446744073709551616) (hc:c<18446744073709551616) (x y:Int) (hx:x=(a:Int)) (hy:y=(c:Int)):bits .and .u64 x y=((a &&& c:Nat):Int):=by
 rw[hx,hy];exact bits_and_u64_nat a c ha hc
theorem x1m (x:Nat) (hx:x<18446744073709551616):IntKind.u64.wrap (bits BinOp.and IntKind.u64 ((x:Int) / 2) 6148914691236517205+bits BinOp.and IntKind.u64 (x:Int) 6148914691236517205)=((ocA x:Nat):Int)/\ocA x<=12297829382473034410:=by
 have h1:=q9g (x / 2) 6148914691236517205 (by omega) (by omega) ((x:Int) / 2) 6148914691236517205 (by omega) rfl;have h2:=q9g x 6148914691236517205 (by omega) (by omega) (x:Int) 6148914691236517205 rfl rfl;have l1:x / 2 &&& 6148914691236517205<=6148914691236517205:=Nat.and_le_right;have l2:x &&& 6148914691236517205<=6148914691236517205:=Nat.and_le_right;rw[h1,h2,IntKind.wrap_u64];unfold ocA;generalize x / 2 &&& 6148914691236517205=p at *
 generalize x &&& 6148914691236517205=q at *
 omega
theorem x0t (x:Nat) (hx:x<18446744073709551616):IntKind.u64.wrap (bits BinOp.and IntKind.u64 ((x:Int) / 4) 3689348814741910323+bits BinOp.and IntKind.u64 (x:Int) 3689348814741910323)=((ocB x:Nat):Int)/\ocB x<=7378697629483820646:=by
 have h1:=q9g (x / 4) 3689348814741910323 (by omega) (by omega) ((x:Int) / 4) 3689348814741910323 (by omega) rfl;have h2:=q9g x 3689348814741910323 (by omega) (by omega) (x:Int) 3689348814741910323 rfl rfl;have l1:x / 4 &&& 3689348814741910323<=3689348814741910323:=Nat.and_le_right;have l2:x &&& 3689348814741910323<=3689348814741910323:=Nat.and_le_right;rw[h1,h2,IntKind.wrap_u64];unfold ocB;generalize x / 4 &&& 3689348814741910323=p at *
 generalize x &&& 3689348814741910323=q at *
 omega
theorem x1y (x:Nat) (hx:x<=7378697629483820646):bits BinOp.and IntKind.u64 (IntKind.u64.wrap ((x:Int) / 16+(x:Int))) 1085102592571150095=((ocC x:Nat):Int):=by
 refine q9g (x / 16+x) 1085102592571150095 (by omega) (by omega) _ _ ?_ rfl;rw[IntKind.wrap_u64];omega
theorem sum_a (y:Nat) (h:y+y / 256<18446744073709551616):IntKind.u64.wrap ((y:Int)+(y:Int) / 256)=((y+y / 256:Nat):Int):=by
 rw[IntKind.wrap_u64];omega
theorem sum_b (y:Nat) (h:y+y / 65536<18446744073709551616):IntKind.u64.wrap ((y:Int)+(y:Int) / 65536)=((y+y / 65536:Nat):Int):=by
 rw[IntKind.wrap_u64];omega
theorem sum_c (y:Nat) (h:y+y / 4294967296<18446744073709551616):IntKind.u64.wrap ((y:Int)+(y:Int) / 4294967296)=((y+y / 4294967296:Nat):Int):=by
 rw[IntKind.wrap_u64];omega
theorem x1f (v:Nat):bits BinOp.and IntKind.i64 (wrap64 (v:Int)) 127=((v % 128:Nat):Int):=by
 rw[i64_and127];unfold wrap64;omega
theorem j6c (x:Nat) (hx:x<18446744073709551616) (w:World) :
  Calls Tryz.prog 167 #[.int .u64 x] w fun e w'=>e=.returned (.int .i64 (pop x))/\w'=w:=by
 obtain⟨y,hy,y1,y2,y3,y4⟩:=x1p x;have HY:=Z0 hy;have H1:=Z0 y1;have H2:=Z0 y2;have H3:=Z0 y3;have H4:=Z0 y4;clear hy y1 y2 y3 y4;have hx':(x:Int)<18446744073709551616:=by omega
 have hx0:(0:Int)<=(x:Int):=by omega
 go_enter Tryz.func167,Tryz.ntmps167
 go_wp2;go_ret;refine⟨U3 ?_,rfl⟩;obtain⟨a1,a2⟩:=x1m x hx;rw[a1];obtain⟨b1,b2⟩:=x0t (ocA x) (by omega);rw[b1,x1y _ b2,HY.out];rw[sum_a y H1.out,sum_b _ H2.out,sum_c _ H3.out,x1f,H4.out]
end Go.Proofs.YtjbbkeoolodeaabGreatDoor
