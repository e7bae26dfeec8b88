import Derived.Test.YtjgnogflgoihfaaGreatDoorP04
namespace Go.Proofs.YtjgnogflgoihfaaGreatDoor
open Go.RowKit
set_option linter.unusedVariables false
set_option maxRecDepth 100000
set_option maxHeartbeats 16000000
set_option linter.unusedSimpArgs false
theorem W7 {w:World} {g:Nat} {x0 x1 x2 x3 x4:Value} {T:TypeId} (h:w.heap[g]? = some (.cells #[x0,x1,x2,x3,x4] T (0,0))):w.cell? ⟨g,0,none⟩=some x0/\w.cell? ⟨g,1,none⟩=some x1/\w.cell? ⟨g,2,none⟩=some x2/\w.cell? ⟨g,3,none⟩=some x3/\w.cell? ⟨g,4,none⟩=some x4/\∀ i,w.frozen? ⟨g,i,none⟩=false:=by
 simp[World.cell?,World.frozen?,h]
def z3g (r:Int):Bool:=r == 2 || r == 3 || r == 4 || r == 5
def x8c (k:Int):Bool:=decide (1<=k) && decide (k<=10)
def z5u (ba bk ta:Int):Bool:=bk != 13 || decide (ba<ta)
def z9v (ba:Int) (b:Blk) (r ta:Int) (t:Blk):Bool:=
 if r=6 then t.1 == 11 else if r=7 then t.1 == 6 && t.2.2.2 == b.2.2.2 else if r=8 then t.1 == 12 && t.2.2.2 == b.2.2.1 else if r=9 then t.1 == 13 && t.2.2.2 == b.2.2.2 && z5u ba b.1 ta else x8c t.1
theorem U3 (b:Nat) (w:World):Kz 40 #[Pq b] w fun e w'=>e=.returned (Pq b)/\w'=w:=by
 go_enter Tryz.func40,Tryz.ntmps40
 go_wp2;go_ret;exact⟨rfl,rfl⟩
theorem q0c (r:Int) (w:World):Kz 104 #[Iz r] w fun e w'=>e=.returned (.bool (z3g r))/\w'=w:=by
 have h:r=2\/r=3\/r=4\/r=5\/((r == 2)=false/\(r == 3)=false/\(r == 4)=false/\(r == 5)=false):=by simp;omega
 rcases h with rfl | rfl | rfl | rfl | ⟨h1,h2,h3,h4⟩
 ·go_enter Tryz.func104,Tryz.ntmps104
  go_wp2;go_ret;exact⟨rfl,rfl⟩
 ·go_enter Tryz.func104,Tryz.ntmps104
  go_wp2;go_ret;exact⟨rfl,rfl⟩
 ·go_enter Tryz.func104,Tryz.ntmps104
  go_wp2;go_ret;exact⟨rfl,rfl⟩
 ·go_enter Tryz.func104,Tryz.ntmps104
  go_wp2;go_ret;exact⟨rfl,rfl⟩
 ·go_enter Tryz.func104,Tryz.ntmps104
  go_wp2;go_ret;exact⟨by unfold z3g;rw[h1,h2,h3,h4];rfl,rfl⟩
theorem j3v (ba bk bz bx bt ta tk tz tx tt:Int) (w:World):Kz 160 #[Wz ba bk bz bx bt,Wz ta tk tz tx tt] w fun e w'=>e=.returned (.bool (z5u ba bk ta))/\Out 0 0 w w':=by
 by_cases h:bk=13
 ·subst h;go_enter Tryz.func160,Tryz.ntmps160
  go_wp2;go_ret;exact⟨by unfold z5u;simp,((Out.refl 0 0 w).alloc _).alloc _⟩
 ·have h1:(bk != 13)=true:=by simpa using h
  go_enter Tryz.func160,Tryz.ntmps160
  go_wp2;go_ret;exact⟨by unfold z5u;rw[h1];rfl,((Out.refl 0 0 w).alloc _).alloc _⟩
theorem q5c (ba bk bz bx bt r ta tk tz tx tt:Int) (w:World):Kz 110 #[Wz ba bk bz bx bt,Iz r,Wz ta tk tz tx tt] w fun e w'=>e=.returned (.bool (z9v ba (bk,bz,bx,bt) r ta (tk,tz,tx,tt)))/\Out 0 0 w w':=by
 have hO:Out 0 0 w ((w.alloc (Ez ba bk bz bx bt 81)).alloc (Ez ta tk tz tx tt 81)):=((Out.refl 0 0 w).alloc _).alloc _;have HO:=Q3 hO;clear hO;have h:r=6\/r=7\/r=8\/r=9\/((r == 6)=false/\(r == 7)=false/\(r == 8)=false/\(r == 9)=false):=by simp;omega
 rcases h with rfl | rfl | rfl | rfl | ⟨h1,h2,h3,h4⟩
 ·go_enter Tryz.func110,Tryz.ntmps110
  go_wp2;go_ret;exact⟨rfl,HO.out⟩
 ·by_cases k:tk=6
  ·subst k;go_enter Tryz.func110,Tryz.ntmps110
   go_wp2;go_ret;exact⟨rfl,HO.out⟩
  ·have k1:(tk == 6)=false:=by simpa using k
   go_enter Tryz.func110,Tryz.ntmps110
   go_wp2;go_ret;exact⟨by show _=Ending.returned (.bool (tk == 6 && tt == bt));rw[k1];rfl,HO.out⟩
 ·by_cases k:tk=12
  ·subst k;go_enter Tryz.func110,Tryz.ntmps110
   go_wp2;go_ret;exact⟨rfl,HO.out⟩
  ·have k1:(tk == 12)=false:=by simpa using k
   go_enter Tryz.func110,Tryz.ntmps110
   go_wp2;go_ret;exact⟨by show _=Ending.returned (.bool (tk == 12 && tt == bx));rw[k1];rfl,HO.out⟩
 ·by_cases k:tk=13
  ·subst k;by_cases k2:tt=bt
   ·subst k2;have k3:(tt == tt)=true:=by simp
    go_enter Tryz.func110,Tryz.ntmps110
    go_wp2_with fail;refine(j3v _ _ _ _ _ _ _ _ _ _ _).mono ?_;rintro e w1 ⟨rfl,o1⟩;have aI:=Q3 (HO.out.trans o1);clear o1;go_wp2;go_ret;exact⟨by show _=Ending.returned (.bool ((13:Int) == 13 && tt == tt && z5u ba bk ta));simp,aI.out⟩
   ·have k3:(tt == bt)=false:=by simpa using k2
    go_enter Tryz.func110,Tryz.ntmps110
    go_wp2;go_ret;exact⟨by show _=Ending.returned (.bool ((13:Int) == 13 && tt == bt && z5u ba bk ta));rw[k3];simp,HO.out⟩
  ·have k1:(tk == 13)=false:=by simpa using k
   go_enter Tryz.func110,Tryz.ntmps110
   go_wp2;go_ret;exact⟨by show _=Ending.returned (.bool (tk == 13 && tt == bt && z5u ba bk ta));rw[k1];rfl,HO.out⟩
 ·go_enter Tryz.func110,Tryz.ntmps110
  go_wp2_with fail;refine(q9n _ _).mono ?_;rintro e w1 ⟨rfl,rfl⟩;go_wp2;go_ret;refine⟨?_,HO.out⟩;unfold z9v;rw[if_neg (by simpa using h1),if_neg (by simpa using h2),if_neg (by simpa using h3),if_neg (by simpa using h4)];rfl
def G3 (r:Int):Bool:=r != 0 && r != 1
theorem z4i (a k s x t i:Int) {w:World} (hT:Tab w) (s1:-9223372036854775808<=s) (s2:s<=9223372036854775807) (hf:G3 (J9 k s i)=true) :
  Kz 50 #[Wz a k s x t,Iz i] w fun e w'=>e=.returned (Iz (J9 k s i))/\Out 0 0 w w':=by
 have HR:=Q3 (fun(w:World) (hT:Tab w)=>z3i k s i hT s1 s2);have HT:=Q3 hT;generalize J9 k s i=r at *
 have h1:(r != 0)=true:=by unfold G3 at hf;simp at hf ⊢;omega
 have h2:(r != 1)=true:=by unfold G3 at hf;simp at hf ⊢;omega
 clear hT s1 s2 hf;go_enter Tryz.func50,Tryz.ntmps50
 go_wp2_with fail;refine(HR.out _ (HT.out.quiet ((Out.refl 0 0 w).alloc _))).mono ?_;rintro e w1 ⟨rfl,rfl⟩;go_wp2_with fail;refine(z0o _ _).mono ?_;rintro e w1 ⟨rfl,rfl⟩;go_wp2;go_ret;exact⟨rfl,(Out.refl 0 0 w).alloc _⟩
theorem j0d (a k s x t i:Int) {w:World} (hT:Tab w) (s1:-9223372036854775808<=s) (s2:s<=9223372036854775807) (hf:G3 (J9 k s i)=false) :
  Kz 50 #[Wz a k s x t,Iz i] w fun e w'=>e=.panicked [z0u 32 0]/\Out 0 0 w w':=by
 have HR:=Q3 (fun(w:World) (hT:Tab w)=>z3i k s i hT s1 s2);have HT:=Q3 hT;generalize J9 k s i=r at *
 have h:r=0\/r=1:=by unfold G3 at hf;simp at hf;omega
 clear hT s1 s2 hf;rcases h with rfl | rfl <;>
 ·go_enter Tryz.func50,Tryz.ntmps50
  go_wp2_with fail;refine(HR.out _ (HT.out.quiet ((Out.refl 0 0 w).alloc _))).mono ?_;rintro e w1 ⟨rfl,rfl⟩;go_wp2_with fail;refine(z2z _ _).mono ?_;rintro e w1 ⟨rfl,rfl⟩;exact⟨rfl,rfl,(Out.refl 0 0 w).alloc _⟩
end Go.Proofs.YtjgnogflgoihfaaGreatDoor
namespace Go.Proofs.YtjgnogflgoihfaaGreatDoor
open Go.RowKit
theorem eqv (a b c d:Int) (W:World):(binOp .eql 32 (.agg #[.int .i64 a,.int .i64 b]) (.agg #[.int .i64 c,.int .i64 d])).run Tryz.prog W=.ok (.bool (a == c && b == d)) W:=by
 cases h1:(a == c) <;> cases h2:(b == d) <;> go_simp
theorem eqf (a b c d:Int) (W:World):(binOp .eql 46 (.agg #[.int .i64 a,.int .i64 b]) (.agg #[.int .i64 c,.int .i64 d])).run Tryz.prog W=.ok (.bool (a == c && b == d)) W:=by
 cases h1:(a == c) <;> cases h2:(b == d) <;> go_simp
end Go.Proofs.YtjgnogflgoihfaaGreatDoor
namespace Go.Proofs.YtjgnogflgoihfaaGreatDoor
open Go.RowKit
set_option linter.unusedVariables false
set_option maxRecDepth 100000
set_option maxHeartbeats 16000000
set_option linter.unusedSimpArgs false
def rgB (r:Raw) (ba:Int) (b:Blk) (aN v:Int):Bool:=
 if aN=0\/aN=1 then aN == 1 else if J2 (v % 8+1) (v / 8)=true then (if v % 8+1=2 then (match r.M (v / 8) with | some t=>z9v ba b aN (v / 8) t | none=>false) else z3g aN || (v % 8+1 == 3 && v / 8 == 0)) else false
theorem Q5 {w:World} {g:Nat} {k m:Int} (h:w.heap[g]? = some (.cells #[.int .i64 k,.int .i64 m] 32 (0,0))):w.cell? ⟨g,0,none⟩=some (.int .i64 k)/\w.cell? ⟨g,1,none⟩=some (.int .i64 m)/\w.frozen? ⟨g,0,none⟩=false/\w.frozen? ⟨g,1,none⟩=false:=by
 simp[World.cell?,World.frozen?,h]
theorem z6l {v k m:Int} (hk:v % 8+1=k) (hm:v / 8=m) (hv:J2 k m=true) (w:World):Calls Tryz.prog 56 #[.int .i64 v] w fun e w'=>e=.returned (.tuple #[.agg #[.int .i64 k,.int .i64 m],.bool true])/\Out 0 0 w w':=by
 refine(q1s v w).mono ?_;rintro e w' ⟨rfl,h⟩;rw[hk,hm,hv];unfold z0z z1a;rw[if_pos hv,if_pos hv];exact⟨rfl,W8 h⟩
theorem x5g {v k m:Int} (hk:v % 8+1=k) (hm:v / 8=m) (hv:J2 k m=false) (w:World):Calls Tryz.prog 56 #[.int .i64 v] w fun e w'=>e=.returned (.tuple #[.agg #[.int .i64 0,.int .i64 0],.bool false])/\Out 0 0 w w':=by
 refine(q1s v w).mono ?_;rintro e w' ⟨rfl,h⟩;rw[hk,hm,hv];unfold z0z z1a;rw[if_neg (by simp[hv]),if_neg (by simp[hv])];exact⟨rfl,W8 h⟩
theorem mk30:z0z 3 0=3/\z1a 3 0=0:=by decide
section
variable {w:World} {lo hi hb:Nat} {s:Nat->Nat} {n cap:Nat} {r:Raw}
theorem j7j (hb:Nat) (ba bk bz bx bt aN v:Int) (h:aN=0\/aN=1) (w:World):Kz 52 #[Pq hb,Wz ba bk bz bx bt,Iz aN,Iz v] w fun e w'=>e=.returned (.bool (aN == 1))/\Out 0 0 w w':=by
 rcases h with rfl | rfl <;>
 ·go_enter Tryz.func52,Tryz.ntmps52
  go_wp2;go_ret;exact⟨rfl,(Out.refl 0 0 w).alloc _⟩
theorem q8x (hb:Nat) (ba bk bz bx bt aN:Int) {v k m:Int} (h:aN ≠ 0/\aN ≠ 1) (hk:v % 8+1=k) (hm:v / 8=m) (hv:J2 k m=false):Kz 52 #[Pq hb,Wz ba bk bz bx bt,Iz aN,Iz v] w fun e w'=>e=.returned (.bool false)/\Out 0 0 w w':=by
 have r0:(aN == 0)=false:=by simp;omega
 have r1:(aN == 1)=false:=by simp;omega
 have HF:=Q3 (heap_alloc_new w (Ez ba bk bz bx bt 81));have jO:=Q3 (fun V=>x5g hk hm hv V);have HW:=Q3 ((Out.refl 0 0 w).alloc (Ez ba bk bz bx bt 81));clear h hk hm hv;obtain⟨gb,bG⟩:∃ g,w.heap.size=g:=⟨_,rfl⟩
 obtain⟨W,hW⟩:∃ W,w.alloc (Ez ba bk bz bx bt 81)=W:=⟨_,rfl⟩
 rw[hW,bG] at HF;rw[hW] at HW;go_enter Tryz.func52,Tryz.ntmps52
 go_wp2_with fail;(try rw[hW]);(try rw[bG]);clear hW;refine(jO.out _).mono ?_;rintro e w1 ⟨rfl,o1⟩;go_wp2;go_ret;exact⟨rfl,(HW.out.trans o1).alloc _⟩
theorem z8h (hb:Nat) (ba bk bz bx bt aN:Int) {v k m:Int} (h:aN ≠ 0/\aN ≠ 1) (hk:v % 8+1=k) (hm:v / 8=m) (hv:J2 k m=true) (h2:k ≠ 2) (hp:z3g aN=true):Kz 52 #[Pq hb,Wz ba bk bz bx bt,Iz aN,Iz v] w fun e w'=>e=.returned (.bool true)/\Out 0 0 w w':=by
 have k2:(k == 2)=false:=by simpa using h2
 have HPl:=Q3 (fun V=>q0c aN V);rw[hp] at HPl;clear hp h2;have r0:(aN == 0)=false:=by simp;omega
 have r1:(aN == 1)=false:=by simp;omega
 have HF:=Q3 (heap_alloc_new w (Ez ba bk bz bx bt 81));have jO:=Q3 (fun V=>z6l hk hm hv V);have HW:=Q3 ((Out.refl 0 0 w).alloc (Ez ba bk bz bx bt 81));clear h hk hm hv;obtain⟨gb,bG⟩:∃ g,w.heap.size=g:=⟨_,rfl⟩
 obtain⟨W,hW⟩:∃ W,w.alloc (Ez ba bk bz bx bt 81)=W:=⟨_,rfl⟩
 rw[hW,bG] at HF;rw[hW] at HW;go_enter Tryz.func52,Tryz.ntmps52
 go_wp2_with fail;(try rw[hW]);(try rw[bG]);clear hW;refine(jO.out _).mono ?_;rintro e w1 ⟨rfl,o1⟩;have fV:=Q3 (heap_alloc_new w1 (Dz k m 32));obtain⟨gv,aR⟩:∃ g,w1.heap.size=g:=⟨_,rfl⟩
 obtain⟨V2,aS⟩:∃ V,w1.alloc (Dz k m 32)=V:=⟨_,rfl⟩
 have O2:Out 0 0 w V2:=by rw[<-aS];exact(HW.out.trans o1).alloc _
 have oWV:Out 0 0 W V2:=by rw[<-aS];exact o1.alloc _
 rw[aS,aR] at fV;have aI:=Q3 O2;have HOW:=Q3 oWV;obtain⟨u0,u1,u2,u3⟩:=Q5 fV.out;clear O2 oWV o1;go_wp2_with fail;(try rw[aS]);(try rw[aR]);clear aS;refine wp_region_held_drew (S:=fun w'=>cq w' gv 0=some (Iz k)/\cq w' gv 1=some (Iz m)/\Out 0 0 w w') (by kernel_rfl) ?hS1 (fun aB=>?rest1)
 case hS1=>exact⟨u0,u1,aI.out.drew⟩
 refine tk 0 ?_;refine rd1 1 fun KK hK=>?_
 simp only[xa,xb,xc];go_simp;refine(HPl.out _).mono ?_;rintro e w5 ⟨rfl,he⟩;rw[he];clear he w5;refine hK.out _ _ (aB) fun aB=>?_
 clear hK KK;refine tk 2 ?_;refine sk 3 ?_;refine sk 4 ?_;refine sk 5 ?_;refine tk 6 ?_;refine tk 7 ?_;refine dn ?_;have HE:=Q3 aB.2.2;clear aB;go_wp2;go_ret;exact⟨rfl,HE.out⟩
theorem z7l (hb:Nat) (ba bk bz bx bt aN:Int) {v k m:Int} (h:aN ≠ 0/\aN ≠ 1) (hk:v % 8+1=k) (hm:v / 8=m) (hv:J2 k m=true) (h2:k ≠ 2) (hp:z3g aN=false):Kz 52 #[Pq hb,Wz ba bk bz bx bt,Iz aN,Iz v] w fun e w'=>e=.returned (.bool (k == 3 && m == 0))/\Out 0 0 w w':=by
 have k2:(k == 2)=false:=by simpa using h2
 have HPl:=Q3 (fun V=>q0c aN V);rw[hp] at HPl;clear hp h2;have r0:(aN == 0)=false:=by simp;omega
 have r1:(aN == 1)=false:=by simp;omega
 have HF:=Q3 (heap_alloc_new w (Ez ba bk bz bx bt 81));have jO:=Q3 (fun V=>z6l hk hm hv V);have HW:=Q3 ((Out.refl 0 0 w).alloc (Ez ba bk bz bx bt 81));clear h hk hm hv;obtain⟨gb,bG⟩:∃ g,w.heap.size=g:=⟨_,rfl⟩
 obtain⟨W,hW⟩:∃ W,w.alloc (Ez ba bk bz bx bt 81)=W:=⟨_,rfl⟩
 rw[hW,bG] at HF;rw[hW] at HW;go_enter Tryz.func52,Tryz.ntmps52
 go_wp2_with fail;(try rw[hW]);(try rw[bG]);clear hW;refine(jO.out _).mono ?_;rintro e w1 ⟨rfl,o1⟩;have fV:=Q3 (heap_alloc_new w1 (Dz k m 32));obtain⟨gv,aR⟩:∃ g,w1.heap.size=g:=⟨_,rfl⟩
 obtain⟨V2,aS⟩:∃ V,w1.alloc (Dz k m 32)=V:=⟨_,rfl⟩
 have O2:Out 0 0 w V2:=by rw[<-aS];exact(HW.out.trans o1).alloc _
 have oWV:Out 0 0 W V2:=by rw[<-aS];exact o1.alloc _
 rw[aS,aR] at fV;have aI:=Q3 O2;have HOW:=Q3 oWV;obtain⟨u0,u1,u2,u3⟩:=Q5 fV.out;clear O2 oWV o1;go_wp2_with fail;(try rw[aS]);(try rw[aR]);clear aS;have hE:∀ W,(binOp .eql 32 (Vz k m) (Vz 3 0)).run Tryz.prog W=.ok (.bool (k == 3 && m == 0)) W:=fun W=>eqv k m 3 0 W
 refine wp_region_held_drew (S:=fun w'=>cq w' gv 0=some (Iz k)/\cq w' gv 1=some (Iz m)/\Out 0 0 w w') (by kernel_rfl) ?hS10 (fun aB=>?rest10)
 case hS10=>exact⟨u0,u1,aI.out.drew⟩
 refine tk 0 ?_;refine rd1 1 fun KK hK=>?_
 simp only[xa,xb,xc];go_simp;refine(HPl.out _).mono ?_;rintro e w5 ⟨rfl,he⟩;rw[he];clear he w5;refine hK.out _ _ (aB) fun aB=>?_
 clear hK KK;refine tk 2 ?_;refine tk 3 ?_;refine rd1 4 fun KK hK=>?_
 simp only[xa,xb,xc];go_simp;refine(q4z 0 _).mono ?_;rintro e w6 ⟨rfl,q6⟩;rw[mk30.1,mk30.2];replace q6:=W8 q6;refine hK.out _ _ ⟨q6.cell aB.1 z0,q6.cell aB.2.1 z0,aB.2.2.trans q6⟩ fun aB=>?_
 clear q6 hK KK;refine tk 5 ?_;refine tk 6 ?_;refine tk 7 ?_;refine dn ?_;have HE:=Q3 aB.2.2;clear aB;go_wp2;go_ret;exact⟨rfl,HE.out⟩
theorem j2y (hr:RawAt w lo hi s n cap r) (hH:cq w hb 0=some (Pq (s 14))) (ba bk bz bx bt aN:Int) {v m:Int} (h:aN ≠ 0/\aN ≠ 1) (hk:v % 8+1=2) (hm:v / 8=m) (hv:J2 2 m=true) (hM:r.M m=none):Kz 52 #[Pq hb,Wz ba bk bz bx bt,Iz aN,Iz v] w fun e w'=>e=.returned (.bool (false))/\Out 0 0 w w':=by
 have r0:(aN == 0)=false:=by simp;omega
 have r1:(aN == 1)=false:=by simp;omega
 have HF:=Q3 (heap_alloc_new w (Ez ba bk bz bx bt 81));have jO:=Q3 (fun V=>z6l hk hm hv V);have HW:=Q3 ((Out.refl 0 0 w).alloc (Ez ba bk bz bx bt 81));have Hr:=Q3 hr;have HM:=Q3 hM;have HH:=Q3 hH;clear h hk hm hv hr hM hH;obtain⟨gb,bG⟩:∃ g,w.heap.size=g:=⟨_,rfl⟩
 obtain⟨W,hW⟩:∃ W,w.alloc (Ez ba bk bz bx bt 81)=W:=⟨_,rfl⟩
 rw[hW,bG] at HF;rw[hW] at HW;go_enter Tryz.func52,Tryz.ntmps52
 go_wp2_with fail;(try rw[hW]);(try rw[bG]);clear hW;refine(jO.out _).mono ?_;rintro e w1 ⟨rfl,o1⟩;have fV:=Q3 (heap_alloc_new w1 (Dz 2 m 32));obtain⟨gv,aR⟩:∃ g,w1.heap.size=g:=⟨_,rfl⟩
 obtain⟨V2,aS⟩:∃ V,w1.alloc (Dz 2 m 32)=V:=⟨_,rfl⟩
 have O2:Out 0 0 w V2:=by rw[<-aS];exact(HW.out.trans o1).alloc _
 have oWV:Out 0 0 W V2:=by rw[<-aS];exact o1.alloc _
 rw[aS,aR] at fV;have aI:=Q3 O2;have HOW:=Q3 oWV;obtain⟨u0,u1,u2,u3⟩:=Q5 fV.out;clear O2 oWV o1;go_wp2_with fail;(try rw[aS]);(try rw[aR]);clear aS;have hH:=aI.out.cell HH.out z0;have aL:hb<V2.heap.size/\gv<V2.heap.size:=⟨Y7 hH,Y7 u1⟩
 have HB:Hid (∀ V,Out 0 0 V2 V->Kz 100 #[Pq (s 14),Iz m] V fun e w'=>e=.returned (.tuple #[Wz 0 0 0 0 0,.bool false])/\Out 0 0 V w'):=fun V o=>z5c (Hr.out.quiet (aI.out.trans o)) HM.out
 refine wp_region_held_drew (S:=fun w'=>cq w' hb 0=some (Pq (s 14))/\cq w' gv 1=some (Iz m)) (by kernel_rfl) ?hS19 (fun aB=>?rest19)
 case hS19=>exact⟨hH,u1⟩
 obtain⟨Z7,hZ⟩:∃ Z,V2.drew=Z:=⟨_,rfl⟩
 have O:Out 0 0 V2 Z7:=by rw[<-hZ];exact(Out.refl 0 0 _).drew
 rw[hZ] at aB ⊢;clear hZ;refine tk 0 ?_;refine tk 1 ?_;refine tk 2 ?_;refine tk 3 ?_;refine tk 4 ?_;refine tk 5 ?_;refine rd2 6 10 (fun KK hK=>?_) fun KK hK=>?_
 ·simp only[xa,xb,xc];go_simp;refine(HB.out _ O).mono ?_;rintro e Z7C ⟨rfl,q1⟩;replace O:=O.trans q1;refine hK.out _ _ ⟨q1.cell aB.1 z0,q1.cell aB.2 z0⟩ fun aB=>?_
  clear q1 hK KK;refine tk 7 ?_;refine tk 8 ?_;refine tk 9 ?_;refine rd1 10 fun KK hK=>?_
  simp only[xa,xb,xc];go_simp;obtain⟨gA,aG⟩:∃ g,Z7C.heap.size=g:=⟨_,rfl⟩
  obtain⟨qV,hY⟩:∃ V,Z7C.alloc (Ez 0 0 0 0 0 81)=V:=⟨_,rfl⟩
  have qA:Out 0 0 Z7C qV:=by rw[<-hY];exact(Out.refl 0 0 _).alloc _
  have fA:qV.heap[gA]? = some (Ez 0 0 0 0 0 81):=by rw[<-hY,<-aG];exact heap_alloc_new _ _
  have bF:V2.heap.size<=gA:=by have:=O.size;omega
  (try rw[hY]);(try rw[aG]);clear hY aG;replace O:=O.trans qA;refine hK.out _ _ ⟨qA.cell aB.1 z0,qA.cell aB.2 z0⟩ fun aB=>?_
  clear qA hK KK;refine rd1 11 fun KK hK=>?_
  simp only[xa,xb,xc];obtain⟨y0,y1,y2,y3,y4,y5⟩:=W7 fA;go_simp;clear y0 y1 y2 y3 y4 y5;obtain⟨nX,hY⟩:∃ V,(((((qV.setCell ⟨gA,0,none⟩ (Iz 0)).setCell ⟨gA,1,none⟩ (Iz 0)).setCell ⟨gA,2,none⟩ (Iz 0)).setCell ⟨gA,3,none⟩ (Iz 0)).setCell ⟨gA,4,none⟩ (Iz 0))=V:=⟨_,rfl⟩
  have qS:Out gA (gA+1) qV nX:=by rw[<-hY];exact(Out.refl _ _ _).zo5 z1 _ _ _ _ _
  replace O:Out 0 0 V2 nX:=by rw[<-hY];exact O.zo5 (.inr bF) _ _ _ _ _
  have fB:nX.heap[gA]? = some (Ez 0 0 0 0 0 81):=by rw[<-hY];simp[World.setCell,Array.getElem?_modify,fA]
  (try rw[hY]);clear hY fA;refine hK.out _ _ ⟨qS.cell aB.1 (.inl (by have:=aL;omega)),qS.cell aB.2 (.inl (by have:=aL;omega))⟩ fun aB=>?_
  clear qS hK KK;refine tk 12 ?_;refine dn ?_;have HE:=Q3 (aI.out.trans O);clear O fB aB;go_wp2;go_ret;exact⟨rfl,HE.out⟩
 ·simp only[xa,xb,xc];go_simp;obtain⟨gA,aG⟩:∃ g,Z7.heap.size=g:=⟨_,rfl⟩
  obtain⟨Z7A,hY⟩:∃ V,Z7.alloc (Ez 0 0 0 0 0 81)=V:=⟨_,rfl⟩
  have qA:Out 0 0 Z7 Z7A:=by rw[<-hY];exact(Out.refl 0 0 _).alloc _
  have fA:Z7A.heap[gA]? = some (Ez 0 0 0 0 0 81):=by rw[<-hY,<-aG];exact heap_alloc_new _ _
  have bF:V2.heap.size<=gA:=by have:=O.size;omega
  (try rw[hY]);(try rw[aG]);clear hY aG;replace O:=O.trans qA;refine hK.out _ _ ⟨qA.cell aB.1 z0,qA.cell aB.2 z0⟩ fun aB=>?_
  clear qA hK KK;refine rd1 6 fun KK hK=>?_
  simp only[xa,xb,xc];go_simp;refine(HB.out _ O).mono ?_;rintro e Z7AC ⟨rfl,q1⟩;replace O:=O.trans q1;replace fA:=q1.heap fA z0;refine hK.out _ _ ⟨q1.cell aB.1 z0,q1.cell aB.2 z0⟩ fun aB=>?_
  clear q1 hK KK;refine tk 7 ?_;refine tk 8 ?_;refine tk 9 ?_;refine rd1 11 fun KK hK=>?_
  simp only[xa,xb,xc];obtain⟨y0,y1,y2,y3,y4,y5⟩:=W7 fA;go_simp;clear y0 y1 y2 y3 y4 y5;obtain⟨nY,hY⟩:∃ V,(((((Z7AC.setCell ⟨gA,0,none⟩ (Iz 0)).setCell ⟨gA,1,none⟩ (Iz 0)).setCell ⟨gA,2,none⟩ (Iz 0)).setCell ⟨gA,3,none⟩ (Iz 0)).setCell ⟨gA,4,none⟩ (Iz 0))=V:=⟨_,rfl⟩
  have qS:Out gA (gA+1) Z7AC nY:=by rw[<-hY];exact(Out.refl _ _ _).zo5 z1 _ _ _ _ _
  replace O:Out 0 0 V2 nY:=by rw[<-hY];exact O.zo5 (.inr bF) _ _ _ _ _
  have fB:nY.heap[gA]? = some (Ez 0 0 0 0 0 81):=by rw[<-hY];simp[World.setCell,Array.getElem?_modify,fA]
  (try rw[hY]);clear hY fA;refine hK.out _ _ ⟨qS.cell aB.1 (.inl (by have:=aL;omega)),qS.cell aB.2 (.inl (by have:=aL;omega))⟩ fun aB=>?_
  clear qS hK KK;refine tk 12 ?_;refine dn ?_;have HE:=Q3 (aI.out.trans O);clear O fB aB;go_wp2;go_ret;exact⟨rfl,HE.out⟩
theorem j2z (hr:RawAt w lo hi s n cap r) (hH:cq w hb 0=some (Pq (s 14))) (ba bk bz bx bt aN:Int) {v m:Int} (h:aN ≠ 0/\aN ≠ 1) (hk:v % 8+1=2) (hm:v / 8=m) (hv:J2 2 m=true) {t1 t2 t3 t4:Int} (hM:r.M m=some (t1,t2,t3,t4)):Kz 52 #[Pq hb,Wz ba bk bz bx bt,Iz aN,Iz v] w fun e w'=>e=.returned (.bool (z9v ba (bk,bz,bx,bt) aN m (t1,t2,t3,t4)))/\Out 0 0 w w':=by
 have r0:(aN == 0)=false:=by simp;omega
 have r1:(aN == 1)=false:=by simp;omega
 have HF:=Q3 (heap_alloc_new w (Ez ba bk bz bx bt 81));have jO:=Q3 (fun V=>z6l hk hm hv V);have HW:=Q3 ((Out.refl 0 0 w).alloc (Ez ba bk bz bx bt 81));have Hr:=Q3 hr;have HM:=Q3 hM;have HH:=Q3 hH;clear h hk hm hv hr hM hH;obtain⟨gb,bG⟩:∃ g,w.heap.size=g:=⟨_,rfl⟩
 obtain⟨W,hW⟩:∃ W,w.alloc (Ez ba bk bz bx bt 81)=W:=⟨_,rfl⟩
 rw[hW,bG] at HF;rw[hW] at HW;go_enter Tryz.func52,Tryz.ntmps52
 go_wp2_with fail;(try rw[hW]);(try rw[bG]);clear hW;refine(jO.out _).mono ?_;rintro e w1 ⟨rfl,o1⟩;have fV:=Q3 (heap_alloc_new w1 (Dz 2 m 32));obtain⟨gv,aR⟩:∃ g,w1.heap.size=g:=⟨_,rfl⟩
 obtain⟨V2,aS⟩:∃ V,w1.alloc (Dz 2 m 32)=V:=⟨_,rfl⟩
 have O2:Out 0 0 w V2:=by rw[<-aS];exact(HW.out.trans o1).alloc _
 have oWV:Out 0 0 W V2:=by rw[<-aS];exact o1.alloc _
 rw[aS,aR] at fV;have aI:=Q3 O2;have HOW:=Q3 oWV;obtain⟨u0,u1,u2,u3⟩:=Q5 fV.out;clear O2 oWV o1;go_wp2_with fail;(try rw[aS]);(try rw[aR]);clear aS;have hH:=aI.out.cell HH.out z0;have aL:hb<V2.heap.size/\gv<V2.heap.size:=⟨Y7 hH,Y7 u1⟩
 have HB:Hid (∀ V,Out 0 0 V2 V->Kz 100 #[Pq (s 14),Iz m] V fun e w'=>e=.returned (.tuple #[Wz m t1 t2 t3 t4,.bool true])/\Out 0 0 V w'):=fun V o=>z0q (Hr.out.quiet (aI.out.trans o)) HM.out
 refine wp_region_held_drew (S:=fun w'=>cq w' hb 0=some (Pq (s 14))/\cq w' gv 1=some (Iz m)) (by kernel_rfl) ?hS40 (fun aB=>?rest40)
 case hS40=>exact⟨hH,u1⟩
 obtain⟨Z7,hZ⟩:∃ Z,V2.drew=Z:=⟨_,rfl⟩
 have O:Out 0 0 V2 Z7:=by rw[<-hZ];exact(Out.refl 0 0 _).drew
 rw[hZ] at aB ⊢;clear hZ;refine tk 0 ?_;refine tk 1 ?_;refine tk 2 ?_;refine tk 3 ?_;refine tk 4 ?_;refine tk 5 ?_;refine rd2 6 10 (fun KK hK=>?_) fun KK hK=>?_
 ·simp only[xa,xb,xc];go_simp;refine(HB.out _ O).mono ?_;rintro e Z7C ⟨rfl,q1⟩;replace O:=O.trans q1;refine hK.out _ _ ⟨q1.cell aB.1 z0,q1.cell aB.2 z0⟩ fun aB=>?_
  clear q1 hK KK;refine tk 7 ?_;refine tk 8 ?_;refine tk 9 ?_;refine rd1 10 fun KK hK=>?_
  simp only[xa,xb,xc];go_simp;obtain⟨gA,aG⟩:∃ g,Z7C.heap.size=g:=⟨_,rfl⟩
  obtain⟨qV,hY⟩:∃ V,Z7C.alloc (Ez 0 0 0 0 0 81)=V:=⟨_,rfl⟩
  have qA:Out 0 0 Z7C qV:=by rw[<-hY];exact(Out.refl 0 0 _).alloc _
  have fA:qV.heap[gA]? = some (Ez 0 0 0 0 0 81):=by rw[<-hY,<-aG];exact heap_alloc_new _ _
  have bF:V2.heap.size<=gA:=by have:=O.size;omega
  (try rw[hY]);(try rw[aG]);clear hY aG;replace O:=O.trans qA;refine hK.out _ _ ⟨qA.cell aB.1 z0,qA.cell aB.2 z0⟩ fun aB=>?_
  clear qA hK KK;refine rd1 11 fun KK hK=>?_
  simp only[xa,xb,xc];obtain⟨y0,y1,y2,y3,y4,y5⟩:=W7 fA;go_simp;clear y0 y1 y2 y3 y4 y5;obtain⟨nX,hY⟩:∃ V,(((((qV.setCell ⟨gA,0,none⟩ (Iz m)).setCell ⟨gA,1,none⟩ (Iz t1)).setCell ⟨gA,2,none⟩ (Iz t2)).setCell ⟨gA,3,none⟩ (Iz t3)).setCell ⟨gA,4,none⟩ (Iz t4))=V:=⟨_,rfl⟩
  have qS:Out gA (gA+1) qV nX:=by rw[<-hY];exact(Out.refl _ _ _).zo5 z1 _ _ _ _ _
  replace O:Out 0 0 V2 nX:=by rw[<-hY];exact O.zo5 (.inr bF) _ _ _ _ _
  have fB:nX.heap[gA]? = some (Ez m t1 t2 t3 t4 81):=by rw[<-hY];simp[World.setCell,Array.getElem?_modify,fA]
  (try rw[hY]);clear hY fA;refine hK.out _ _ ⟨qS.cell aB.1 (.inl (by have:=aL;omega)),qS.cell aB.2 (.inl (by have:=aL;omega))⟩ fun aB=>?_
  clear qS hK KK;refine tk 12 ?_;refine dn ?_;have HE:=Q3 (aI.out.trans O);obtain⟨y0,y1,y2,y3,y4,y5⟩:=W7 fB;obtain⟨x0,x1,x2,x3,x4,x5⟩:=W7 ((HOW.out.trans O).heap HF.out z0);clear O fB aB;go_wp2_with fail;refine(q5c _ _ _ _ _ _ _ _ _ _ _ _).mono ?_;rintro e V9 ⟨rfl,q9⟩;have oM:=Q3 (HE.out.trans q9);clear HE q9 y0 y1 y2 y3 y4 y5 x0 x1 x2 x3 x4 x5;go_wp2;go_ret;exact⟨rfl,oM.out⟩
 ·simp only[xa,xb,xc];go_simp;obtain⟨gA,aG⟩:∃ g,Z7.heap.size=g:=⟨_,rfl⟩
  obtain⟨Z7A,hY⟩:∃ V,Z7.alloc (Ez 0 0 0 0 0 81)=V:=⟨_,rfl⟩
  have qA:Out 0 0 Z7 Z7A:=by rw[<-hY];exact(Out.refl 0 0 _).alloc _
  have fA:Z7A.heap[gA]? = some (Ez 0 0 0 0 0 81):=by rw[<-hY,<-aG];exact heap_alloc_new _ _
  have bF:V2.heap.size<=gA:=by have:=O.size;omega
  (try rw[hY]);(try rw[aG]);clear hY aG;replace O:=O.trans qA;refine hK.out _ _ ⟨qA.cell aB.1 z0,qA.cell aB.2 z0⟩ fun aB=>?_
  clear qA hK KK;refine rd1 6 fun KK hK=>?_
  simp only[xa,xb,xc];go_simp;refine(HB.out _ O).mono ?_;rintro e Z7AC ⟨rfl,q1⟩;replace O:=O.trans q1;replace fA:=q1.heap fA z0;refine hK.out _ _ ⟨q1.cell aB.1 z0,q1.cell aB.2 z0⟩ fun aB=>?_
  clear q1 hK KK;refine tk 7 ?_;refine tk 8 ?_;refine tk 9 ?_;refine rd1 11 fun KK hK=>?_
  simp only[xa,xb,xc];obtain⟨y0,y1,y2,y3,y4,y5⟩:=W7 fA;go_simp;clear y0 y1 y2 y3 y4 y5;obtain⟨nY,hY⟩:∃ V,(((((Z7AC.setCell ⟨gA,0,none⟩ (Iz m)).setCell ⟨gA,1,none⟩ (Iz t1)).setCell ⟨gA,2,none⟩ (Iz t2)).setCell ⟨gA,3,none⟩ (Iz t3)).setCell ⟨gA,4,none⟩ (Iz t4))=V:=⟨_,rfl⟩
  have qS:Out gA (gA+1) Z7AC nY:=by rw[<-hY];exact(Out.refl _ _ _).zo5 z1 _ _ _ _ _
  replace O:Out 0 0 V2 nY:=by rw[<-hY];exact O.zo5 (.inr bF) _ _ _ _ _
  have fB:nY.heap[gA]? = some (Ez m t1 t2 t3 t4 81):=by rw[<-hY];simp[World.setCell,Array.getElem?_modify,fA]
  (try rw[hY]);clear hY fA;refine hK.out _ _ ⟨qS.cell aB.1 (.inl (by have:=aL;omega)),qS.cell aB.2 (.inl (by have:=aL;omega))⟩ fun aB=>?_
  clear qS hK KK;refine tk 12 ?_;refine dn ?_;have HE:=Q3 (aI.out.trans O);obtain⟨y0,y1,y2,y3,y4,y5⟩:=W7 fB;obtain⟨x0,x1,x2,x3,x4,x5⟩:=W7 ((HOW.out.trans O).heap HF.out z0);clear O fB aB;go_wp2_with fail;refine(q5c _ _ _ _ _ _ _ _ _ _ _ _).mono ?_;rintro e V9 ⟨rfl,q9⟩;have oM:=Q3 (HE.out.trans q9);clear HE q9 y0 y1 y2 y3 y4 y5 x0 x1 x2 x3 x4 x5;go_wp2;go_ret;exact⟨rfl,oM.out⟩
theorem z4y (hr:RawAt w lo hi s n cap r) (hH:w.cell? ⟨hb,0,none⟩=some (.pointer (some ⟨s 14,0,none⟩))) (ba bk bz bx bt aN v:Int):Calls Tryz.prog 52 #[.pointer (some ⟨hb,0,none⟩),.agg #[.int .i64 ba,.int .i64 bk,.int .i64 bz,.int .i64 bx,.int .i64 bt],.int .i64 aN,.int .i64 v] w fun e w'=>e=.returned (.bool (rgB r ba (bk,bz,bx,bt) aN v))/\Out 0 0 w w':=by
 unfold rgB;by_cases h:aN=0\/aN=1
 ·rw[if_pos h];exact j7j hb ba bk bz bx bt aN v h w
 ·rw[if_neg h];have h':aN ≠ 0/\aN ≠ 1:=by omega
  cases hv:J2 (v % 8+1) (v / 8)
  ·rw[if_neg (by simp)];exact q8x hb ba bk bz bx bt aN h' rfl rfl hv
  ·rw[if_pos rfl];by_cases h2:v % 8+1=2
   ·rw[if_pos h2];rw[h2] at hv;cases hM:r.M (v / 8) with
    | none=>exact j2y hr hH ba bk bz bx bt aN h' h2 rfl hv hM
    | some t=>
     obtain⟨t1,t2,t3,t4⟩:=t;exact j2z hr hH ba bk bz bx bt aN h' h2 rfl hv hM
   ·rw[if_neg h2];cases hp:z3g aN
    ·exact z7l hb ba bk bz bx bt aN h' rfl rfl hv h2 hp
    ·exact z8h hb ba bk bz bx bt aN h' rfl rfl hv h2 hp
end
end Go.Proofs.YtjgnogflgoihfaaGreatDoor
