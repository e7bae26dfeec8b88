import Derived.Test.YtjbbkeoolodeaabGreatDoorB08
import Derived.Test.YtjbbkeoolodeaabGreatDoorB07
namespace Go.Proofs.YtjbbkeoolodeaabGreatDoor
open Go.RowKit
set_option linter.unusedVariables false
set_option maxRecDepth 100000
set_option maxHeartbeats 16000000
set_option linter.unusedSimpArgs false
theorem j9h {w w1 w2:World} (h:Out 0 0 w w1) (g:Below w1.heap.size w1 w2):Out 0 0 w w2:=h.trans (Out.of_below g _ _)
theorem U5 {f:FuncId} {args:Array Value} {v:Value} {w:World} {w0:World} (h:Calls Tryz.prog f args w (fun e w'=>e=.returned v/\Below w.heap.size w w')) (h0:Out 0 0 w0 w):Calls Tryz.prog f args w (fun e w'=>e=.returned v/\Out 0 0 w0 w'):=
 h.mono fun _ _ ⟨he,hb⟩=>⟨he,j9h h0 hb⟩
theorem q8v {s:Int} (h:32<s) (h2:s<=1024):((J3 s:Nat):Int)=J4 s*64/\0<J4 s/\J4 s<=16:=by
 unfold J3 J4;rw[if_pos h,if_pos ⟨h,h2⟩];omega
theorem z7n {s:Int} (h1:1<=s) (h:s<=32):((J3 s:Nat):Int)=J2 (ofV s)/\J4 s=0:=by
 have:=W9 h1 h;unfold J3 wN J4;rw[if_neg (by omega),if_neg (by omega)];omega
theorem q5t (s:Int) (h1:1<=s) (h2:s<=1024) (w:World):Calls Tryz.prog 82 #[.int .i64 s] w fun e w'=>e=.returned (.int .i64 (J3 s:Nat))/\Out 0 0 w w':=by
 have HP:=Z0 (U5 (z3x s w) (Out.refl 0 0 w));by_cases h:32<s
 ·obtain⟨e1,e2,e3⟩:=q8v h h2;rw[e1];generalize J4 s=k at *
  clear h h1 h2 e1;go_enter Tryz.func82,Tryz.ntmps82
  go_wp2_with (go_at_call 95;refine HP.out.mono ?_;rintro e w1 ⟨rfl,ho⟩);go_ret;exact⟨rfl,ho⟩
 ·obtain⟨e1,e2⟩:=z7n h1 (by omega);rw[e1];rw[e2] at HP;have HO:=Z0 (fun w' (h:Out 0 0 w w')=>U5 (q1c s w') h);have HW:=Z0 (fun w' (h:Out 0 0 w w')=>U5 (z9b (ofV s) w') h);generalize ofV s=c at *
  generalize J2 c=k at *
  clear h h1 h2 e1 e2;go_enter Tryz.func82,Tryz.ntmps82
  go_wp2_with (first
   | (go_at_call 95;refine HP.out.mono ?_;rintro e w1 ⟨rfl,ho⟩)
   | (go_at_call 98;refine(HO.out _ ho).mono ?_;rintro e w2 ⟨rfl,ho2⟩)
   | (go_at_call 130;refine(HW.out _ ho2).mono ?_;rintro e w3 ⟨rfl,ho3⟩))
  go_ret;exact⟨rfl,ho3⟩
section
variable {w:World} {lo hi n cap:Nat} {s:Nat->Nat} {r:Raw}
def z8k (r:Raw) (a:Int):Int:=match r.M a with | none=>22 | some b=>if r.W a.toNat=X9 a b.1 b.2.1 then 0 else 21
def z3w (r:Raw) (a:Int):Int:=match r.M a with | none=>0 | some b=>if r.W a.toNat=X9 a b.1 b.2.1 then 0 else a
def z5a (n:Nat) (r:Raw):Prop:=∀ a b,r.M a=some b->0<=a/\a+b.2.1<=64*n/\1<=b.2.1/\b.2.1<=1024
theorem Z7 {w:World} {g:Nat} {x y:Int} {T:TypeId} (h:w.heap[g]? = some (.cells #[.int .i64 x,.int .i64 y] T (0,0))) :
  w.cell? ⟨g,0,none⟩=some (.int .i64 x)/\w.cell? ⟨g,1,none⟩=some (.int .i64 y)/\w.frozen? ⟨g,0,none⟩=false/\w.frozen? ⟨g,1,none⟩=false:=by
 refine⟨?_,?_,?_,?_⟩ <;> simp[World.cell?,World.frozen?,h]
theorem W7 {w:World} {g:Nat} {x y x' y':Int} {T:TypeId} (h:w.heap[g]? = some (.cells #[.int .i64 x,.int .i64 y] T (0,0))) :
  ((w.setCell ⟨g,0,none⟩ (.int .i64 x')).setCell ⟨g,1,none⟩ (.int .i64 y')).heap[g]? = some (.cells #[.int .i64 x',.int .i64 y'] T (0,0)):=by
 simp[World.setCell,Array.getElem?_modify,h]
theorem Out.set2 {lo hi:Nat} {a w:World} (h:Out lo hi a w) {b o o':Nat} (hp:(lo<=b/\b<hi)\/a.heap.size<=b) (x y:Value):Out lo hi a ((w.setCell ⟨b,o,none⟩ x).setCell ⟨b,o',none⟩ y):=
 (h.setCell (p:=⟨b,o,none⟩) hp x).setCell (p:=⟨b,o',none⟩) hp y
def bo (a k z x t:Int):Obj:=.cells #[.int .i64 a,.int .i64 k,.int .i64 z,.int .i64 x,.int .i64 t] 97
def fz:Obj:=.cells #[.int .i64 0,.int .i64 0] 39
theorem V7 {w:World} {g:Nat} {a k z x t:Int} (h:w.heap[g]? = some (bo a k z x t)) :
  w.cell? ⟨g,0,none⟩=some (.int .i64 a)/\w.cell? ⟨g,1,none⟩=some (.int .i64 k)/\w.cell? ⟨g,2,none⟩=some (.int .i64 z)/\w.cell? ⟨g,3,none⟩=some (.int .i64 x)/\w.cell? ⟨g,4,none⟩=some (.int .i64 t):=by
 unfold bo at h;refine⟨?_,?_,?_,?_,?_⟩ <;> simp[World.cell?,h]
theorem q1u (h:RawAt w lo hi s n cap r) (hM:z5a n r) (a:Int):Calls Tryz.prog 69 #[.pointer (some ⟨s 14,0,none⟩),.int .i64 a] w fun e w'=>e=.returned (z3l (z8k r a) (z3w r a))/\Out 0 0 w w':=by
 have h0:Out 0 0 w (w.alloc (.cells #[.int .i64 0,.int .i64 0] 39)):=(Out.refl 0 0 w).alloc _;have hz:(w.alloc (.cells #[.int .i64 0,.int .i64 0] 39)).heap[w.heap.size]? = some (.cells #[.int .i64 0,.int .i64 0] 39 (0,0)):=heap_alloc_new _ _;have HZ:=Z0 hz;have H0:=Z0 h0;cases hm:r.M a with
 | none=>
  have HB:=Z0 (z8v (h.quiet h0) hm);have e1:z8k r a=22:=by unfold z8k;rw[hm]
  have e2:z3w r a=0:=by unfold z3w;rw[hm]
  rw[e1,e2];clear h hM hm e1 e2 h0 hz;go_enter Tryz.func69,Tryz.ntmps69
  go_wp2_with (go_at_call 65;refine HB.out.mono ?_;rintro e w1 ⟨rfl,ho⟩;obtain⟨q0,q1,q2,q3⟩:=Z7 ((ho.alloc (.cells #[.int .i64 0,.int .i64 0,.int .i64 0,.int .i64 0,.int .i64 0] 97)).heap HZ.out z0);have HO:=Z0 ho;clear ho);refine z4g Tryz.results69 rfl rfl (W7 ((HO.out.alloc _).heap HZ.out z0)) ⟨rfl,((H0.out.trans HO.out).alloc _).set2 (.inr (Nat.le_refl _)) _ _⟩
 | some b=>
  obtain⟨k,z,x,t⟩:=b;obtain⟨a0,a1',a2',a3'⟩:=hM a _ hm;have a1:a<64*n:=by simp only at a1' a2';omega
  clear a1' a2' a3';obtain⟨c,rfl⟩:∃ c:Nat,a=c:=⟨a.toNat,by omega⟩
  have HB:=Z0 (z5c (h.quiet h0) hm);have HH:=Z0 (fun w' (o:Out 0 0 w w')=>z8z (h.quiet o) (a:=c) (by omega) k z x t);have e1:z8k r (c:Int)=if r.W c=X9 c k z then 0 else 21:=by unfold z8k;rw[hm];rfl
  have e2:z3w r (c:Int)=if r.W c=X9 c k z then 0 else (c:Int):=by unfold z3w;rw[hm];rfl
  rw[e1,e2];have b0:(0:Int)<=(c:Int):=by omega
  generalize hcc:(c:Int)=a at *
  by_cases hv:r.W c=X9 a k z
  ·rw[if_pos hv,if_pos hv];have hb:(r.W c == X9 a k z)=true:=by simp[hv]
   rw[hb] at HH;clear h hM hm e1 e2 h0 hz hv hb a1;go_enter Tryz.func69,Tryz.ntmps69
   go_wp2_with (first
    | (go_at_call 65;refine HB.out.mono ?_;rintro e w1 ⟨rfl,ho⟩;obtain⟨q0,q1,q2,q3⟩:=Z7 ((ho.alloc (.cells #[.int .i64 a,.int .i64 k,.int .i64 z,.int .i64 x,.int .i64 t] 97)).heap HZ.out z0);have HO:=Z0 (ho.alloc (.cells #[.int .i64 a,.int .i64 k,.int .i64 z,.int .i64 x,.int .i64 t] 97));clear ho)
    | (go_at_call 121;refine(HH.out _ (H0.out.trans HO.out)).mono ?_;rintro e w2 ⟨rfl,ho⟩;obtain⟨q4,q5,q6,q7⟩:=Z7 ((HO.out.trans ho).heap HZ.out z0);have HO2:=Z0 (HO.out.trans ho);clear ho q0 q1 q2 q3))
   refine z4g Tryz.results69 rfl rfl (W7 (HO2.out.heap HZ.out z0)) ⟨rfl,(H0.out.trans HO2.out).set2 (.inr (Nat.le_refl _)) _ _⟩
  ·rw[if_neg hv,if_neg hv];have hb:(r.W c == X9 a k z)=false:=by simp[hv]
   rw[hb] at HH;clear h hM hm e1 e2 h0 hz hv hb a1;go_enter Tryz.func69,Tryz.ntmps69
   go_wp2_with (first
    | (go_at_call 65;refine HB.out.mono ?_;rintro e w1 ⟨rfl,ho⟩;obtain⟨q0,q1,q2,q3⟩:=Z7 ((ho.alloc (.cells #[.int .i64 a,.int .i64 k,.int .i64 z,.int .i64 x,.int .i64 t] 97)).heap HZ.out z0);have HO:=Z0 (ho.alloc (.cells #[.int .i64 a,.int .i64 k,.int .i64 z,.int .i64 x,.int .i64 t] 97));clear ho)
    | (go_at_call 121;refine(HH.out _ (H0.out.trans HO.out)).mono ?_;rintro e w2 ⟨rfl,ho⟩;obtain⟨q4,q5,q6,q7⟩:=Z7 ((HO.out.trans ho).heap HZ.out z0);have HO2:=Z0 (HO.out.trans ho);clear ho q0 q1 q2 q3))
   refine z4g Tryz.results69 rfl rfl (W7 (HO2.out.heap HZ.out z0)) ⟨rfl,(H0.out.trans HO2.out).set2 (.inr (Nat.le_refl _)) _ _⟩
def z4v (r:Raw) (a i:Int):Int:=match r.M a with | none=>22 | some b=>if r.W a.toNat=X9 a b.1 b.2.1 then (if i<1\/b.2.1<=i then 23 else 0) else 21
theorem wrdA (r:Raw) (a i:Int) (h:z8k r a ≠ 0):z4v r a i=z8k r a:=by
 unfold z4v;unfold z8k at h ⊢;cases hm:r.M a with
 | none=>rfl
 | some b=>
  rw[hm] at h;by_cases hv:r.W a.toNat=X9 a b.1 b.2.1
  ·exact absurd (by simp[hv]) h
  ·simp[hv]
theorem chk0 {r:Raw} {a:Int} (h:z8k r a=0):z3w r a=0/\∃ b,r.M a=some b/\r.W a.toNat=X9 a b.1 b.2.1:=by
 unfold z8k at h;unfold z3w;cases hm:r.M a with
 | none=>rw[hm] at h;simp at h
 | some b=>
  rw[hm] at h;by_cases hv:r.W a.toNat=X9 a b.1 b.2.1
  ·exact⟨by simp[hv],b,rfl,hv⟩
  ·simp[hv] at h
theorem z4u (h:RawAt w lo hi s n cap r) (hM:z5a n r) (a i:Int):Calls Tryz.prog 61 #[.pointer (some ⟨s 14,0,none⟩),.int .i64 a,.int .i64 i] w fun e w'=>e=.returned (z3l (z4v r a i) (z3w r a))/\Out 0 0 w w':=by
 have h0:Out 0 0 w (w.alloc (.cells #[.int .i64 0,.int .i64 0] 39)):=(Out.refl 0 0 w).alloc _;have hz:(w.alloc (.cells #[.int .i64 0,.int .i64 0] 39)).heap[w.heap.size]? = some (.cells #[.int .i64 0,.int .i64 0] 39 (0,0)):=heap_alloc_new _ _;have HZ:=Z0 hz;have H0:=Z0 h0;have HC:=Z0 (q1u (h.quiet h0) hM a);unfold z3l at HC;by_cases hc:z8k r a=0
 ·obtain⟨e2,⟨k,z,x,t⟩,hm,hv⟩:=chk0 hc;rw[hc,e2] at HC;rw[e2];have HB:=Z0 (fun w' (o:Out 0 0 w w')=>z5c (h.quiet o) hm);have e3:z4v r a i=if i<1\/z<=i then 23 else 0:=by unfold z4v;rw[hm];simp only;rw[if_pos hv]
  rw[e3];have e4:((0:Int) != 0)=false:=rfl;by_cases h1:i<1
  ·rw[if_pos (.inl h1)];clear h hM hm e2 e3 h0 hz hv hc;go_enter Tryz.func61,Tryz.ntmps61
   go_wp2_with (first
    | (go_at_call 69;refine HC.out.mono ?_;rintro e w1 ⟨rfl,ho⟩;have HO:=Z0 (ho.alloc (.cells #[.int .i64 0,.int .i64 0] 39));clear ho)
    | (go_at_call 65;refine(HB.out _ (H0.out.trans HO.out)).mono ?_;rintro e w2 ⟨rfl,ho⟩;obtain⟨q4,q5,q6,q7⟩:=Z7 (((HO.out.trans ho).alloc (.cells #[.int .i64 a,.int .i64 k,.int .i64 z,.int .i64 x,.int .i64 t] 97)).heap HZ.out z0);have HO2:=Z0 ((HO.out.trans ho).alloc (.cells #[.int .i64 a,.int .i64 k,.int .i64 z,.int .i64 x,.int .i64 t] 97));clear ho))
   refine z4g Tryz.results61 rfl rfl (W7 (HO2.out.heap HZ.out z0)) ⟨rfl,(H0.out.trans HO2.out).set2 (.inr (Nat.le_refl _)) _ _⟩
  ·have h1':1<=i:=by omega
   by_cases h2:z<=i
   ·rw[if_pos (.inr h2)];clear h hM hm e2 e3 h0 hz hv hc h1;go_enter Tryz.func61,Tryz.ntmps61
    go_wp2_with (first
     | (go_at_call 69;refine HC.out.mono ?_;rintro e w1 ⟨rfl,ho⟩;have HO:=Z0 (ho.alloc (.cells #[.int .i64 0,.int .i64 0] 39));clear ho)
     | (go_at_call 65;refine(HB.out _ (H0.out.trans HO.out)).mono ?_;rintro e w2 ⟨rfl,ho⟩;obtain⟨q4,q5,q6,q7⟩:=Z7 (((HO.out.trans ho).alloc (.cells #[.int .i64 a,.int .i64 k,.int .i64 z,.int .i64 x,.int .i64 t] 97)).heap HZ.out z0);have HO2:=Z0 ((HO.out.trans ho).alloc (.cells #[.int .i64 a,.int .i64 k,.int .i64 z,.int .i64 x,.int .i64 t] 97));clear ho))
    refine z4g Tryz.results61 rfl rfl (W7 (HO2.out.heap HZ.out z0)) ⟨rfl,(H0.out.trans HO2.out).set2 (.inr (Nat.le_refl _)) _ _⟩
   ·rw[if_neg (by omega)];have h2':i<z:=by omega
    clear h hM hm e2 e3 h0 hz hv hc h1 h2;go_enter Tryz.func61,Tryz.ntmps61
    go_wp2_with (first
     | (go_at_call 69;refine HC.out.mono ?_;rintro e w1 ⟨rfl,ho⟩;have HO:=Z0 (ho.alloc (.cells #[.int .i64 0,.int .i64 0] 39));clear ho)
     | (go_at_call 65;refine(HB.out _ (H0.out.trans HO.out)).mono ?_;rintro e w2 ⟨rfl,ho⟩;obtain⟨q4,q5,q6,q7⟩:=Z7 (((HO.out.trans ho).alloc (.cells #[.int .i64 a,.int .i64 k,.int .i64 z,.int .i64 x,.int .i64 t] 97)).heap HZ.out z0);have HO2:=Z0 ((HO.out.trans ho).alloc (.cells #[.int .i64 a,.int .i64 k,.int .i64 z,.int .i64 x,.int .i64 t] 97));clear ho))
    refine z4g Tryz.results61 rfl rfl (W7 (HO2.out.heap HZ.out z0)) ⟨rfl,(H0.out.trans HO2.out).set2 (.inr (Nat.le_refl _)) _ _⟩
 ·rw[wrdA r a i hc];have e4:(z8k r a != 0)=true:=by simpa using hc
  generalize z8k r a=u at *
  generalize z3w r a=v at *
  clear h hM h0 hz hc;go_enter Tryz.func61,Tryz.ntmps61
  go_wp2_with (first
   | (go_at_call 69;refine HC.out.mono ?_;rintro e w1 ⟨rfl,ho⟩;obtain⟨q4,q5,q6,q7⟩:=Z7 ((ho.alloc (.cells #[.int .i64 u,.int .i64 v] 39)).heap HZ.out z0);have HO:=Z0 (ho.alloc (.cells #[.int .i64 u,.int .i64 v] 39));clear ho))
  refine z4g Tryz.results61 rfl rfl (W7 (HO.out.heap HZ.out z0)) ⟨rfl,(H0.out.trans HO.out).set2 (.inr (Nat.le_refl _)) _ _⟩
end
end Go.Proofs.YtjbbkeoolodeaabGreatDoor
namespace Go.Proofs.YtjbbkeoolodeaabGreatDoor
open Go.RowKit
attribute [local go_sem] Oper.semAt_some
set_option linter.unusedVariables false
set_option maxRecDepth 100000
set_option maxHeartbeats 16000000
set_option linter.unusedSimpArgs false
theorem MapAt.only {w:World} {lo hi b n lo' hi':Nat} {S S':Nat->Bool} (h:MapAt w lo hi b n S) (h':MapAt w lo' hi' b n S'):S=S':=by
 obtain⟨bw,cap,hb,h1,h2,h3,h4,h5,h6,h7,h8,l1,l2,l3,hr⟩:=h;obtain⟨bw',cap',hb',k1,k2,k3,k4,k5,k6,k7,k8,m1,m2,m3,hr'⟩:=h';rw[hb] at hb';have e:bw=bw':=by simp at hb';exact hb'.1
 subst e;funext j
 by_cases hj:j<n
 ·have a:=hr.cell (z5n hj);have b:=hr'.cell (z5n hj);rw[a] at b;simp at b;have e1:=z0z S (j / 64) (j % 64);have e2:=z0z S' (j / 64) (j % 64);rw[show pk S (j / 64)=pk S' (j / 64) from by omega,e2,show 64*(j / 64)+j % 64=j from by omega,show decide (j % 64<64)=true from by simp;omega] at e1;simpa using e1.symm
 ·rw[h7 j (by omega),k7 j (by omega)]
theorem q0x (b:Nat) (c:Int) (w:World) :
  Calls Tryz.prog 128 #[.pointer (some ⟨b,0,none⟩),.int .i64 c] w fun e w'=>e=.returned (.func (.func 157) #[] #[.pointer (some ⟨w.heap.size,0,none⟩),.pointer (some ⟨w.heap.size+1,0,none⟩)]) ∧
   w'=(w.alloc (.cells #[.pointer (some ⟨b,0,none⟩)] 34)).alloc (.cells #[.int .i64 c] 3):=by
 go_enter Tryz.func128,Tryz.ntmps128
 go_wp2;go_ret;exact⟨rfl,rfl⟩
def Pend (S:Nat->Bool) (I:Nat->World->Prop) (p:Nat) (v:Int) (W:World):Prop:=
 (v = -1/\(∀ j,j<p->S j=false)/\I 0 W)\/∃ a:Nat,v=a/\a<p/\S a=true/\(∀ j,a<j->j<p->S j=false)/\I a W
theorem Pend.some {S:Nat->Bool} {I:Nat->World->Prop} {p:Nat} {v:Int} {W:World} (h:Pend S I p v W):∃ q,I q W:=by
 rcases h with ⟨_,_,h⟩ | ⟨a,_,_,_,_,h⟩
 ·exact⟨_,h⟩
 ·exact⟨_,h⟩
theorem Pend.map {S:Nat->Bool} {I:Nat->World->Prop} {p:Nat} {v:Int} {W W':World} (h:Pend S I p v W) (f:∀ q,I q W->I q W'):Pend S I p v W':=by
 rcases h with ⟨a,b,h⟩ | ⟨a,x1,x2,x3,x4,h⟩
 ·exact .inl ⟨a,b,f _ h⟩
 ·exact .inr ⟨a,x1,x2,x3,x4,f _ h⟩
theorem Pend.to_end {S:Nat->Bool} {I:Nat->World->Prop} {p N:Nat} {v:Int} {W:World} (h:Pend S I p v W) (hp:p<=N) (hz:∀ j,p<=j->j<N->S j=false):Pend S I N v W:=by
 rcases h with ⟨a,b,h⟩ | ⟨a,x1,x2,x3,x4,h⟩
 ·exact .inl ⟨a,(fun j hj=>by by_cases e:j<p;exact b j e;exact hz j (by omega) hj),h⟩
 ·exact .inr ⟨a,x1,by omega,x3,(fun j j1 j2=>by by_cases e:j<p;exact x4 j j1 e;exact hz j (by omega) j2),h⟩
theorem z3n {S:Nat->Bool} {N a k:Nat} (hk:k<N) (ha:a<=k) (hS:S k=true) (hz:∀ j,a<=j->j<k->S j=false):nxr S N a=(k:Int):=by
 have:=q8w S N a k ha (by omega) hz (fun _=>hS);unfold nxr;rw[this,if_pos hk]
theorem z7l {lo hi n cap g gc l c:Nat} {s:Nat->Nat} {S:Nat->Bool} (hc:c<8) (I:Nat->World->Prop) (J Jx:World->Prop) {w:World}
  (hm:∀ p w,I p w->∃ r,RawAt w lo hi s n cap r/\r.F c=S/\Box w g 34 (.pointer (some ⟨s 14,0,none⟩))/\Box w gc 3 (.int .i64 (c:Int)))
  (hq:∀ p w1 w2 x y,I p w1->Out x y w1 w2->(w.heap.size<=x\/y=0)->I p w2)
  (hs:∀ p q w1,I p w1->p<=q->(∀ j,p<=j->j<q->S j=false)->I q w1)
  (hqJ:∀ w1 w2 x y,J w1->Out x y w1 w2->w.heap.size<=x->J w2) (hqX:∀ w1 w2 x y,Jx w1->Out x y w1 w2->w.heap.size<=x->Jx w2)
  (hy:∀ (a:Nat) w1,I a w1->S a=true->a<64*n->YieldAt Fence.wide 0 Tryz.prog l #[.int .i64 (a:Int),.int .i64 (nxr S (64*n) (a+1))] w1 fun e w'=>Out 0 w.heap.size w1 w'/\((e=.returned (.bool true)/\I (a+1) w')\/(e=.returned (.bool false)/\Jx w')))
  (he:∀ p w1,I p w1->(∀ j,p<=j->j<64*n->S j=false)->J w1) (h0:I 0 w) :
  Calls Tryz.prog 157 #[.func (.yield l) #[] #[],.pointer (some ⟨g,0,none⟩),.pointer (some ⟨gc,0,none⟩)] w fun e w'=>(∃ v,e=.returned v)/\(J w'\/Jx w'):=by
 obtain⟨r0,hr0,_,hb0,hb1⟩:=hm 0 w h0;have hW0:Out 0 0 w ((w.alloc (.cells #[.func (.yield l) #[] #[]] 63)).alloc (.cells #[.int .i64 (-1)] 3)):=((Out.refl 0 0 w).alloc _).alloc _;have hr1:=hr0.quiet hW0;have c0:=(hb0.kept hW0 z0).cell;have c1:=(hb1.kept hW0 z0).cell;have cF:=hr1.cellF hc;have HM:=Z0 hm;have HQ:=Z0 hq;have HS:=Z0 hs;have HQJ:=Z0 hqJ;have HQX:=Z0 hqX;have HY:=Z0 hy;have HE:=Z0 he;have HI:=Z0 h0;have HG:Hid (g<w.heap.size/\gc<w.heap.size):=⟨hb0.lt,hb1.lt⟩
 have HT:Hid (hi<=w.heap.size/\4<=w.heap.size):=⟨hr0.top,hr0.tab.lt⟩
 have HC:=Z0 hc;have k0:(0:Int)<=(c:Int):=by omega
 have k1:(c:Int)<8:=by omega
 clear hm hq hs hy he h0 hb0 hb1 hr0 hr1 hqJ hqX hW0 hc;refine(callsIn_wide (n:=0)).1 ?_;refine callsIn_of_wp_marks Tryz.func157 rfl trivial ?_ rfl;simp only[Tryz.ntmps157,List.size_toArray,List.length_cons,List.length_nil,Nat.reduceAdd,Nat.reduceSub,Array.replicate_succ,Array.replicate_zero,List.push_toArray,List.append_toArray,List.nil_append,List.cons_append];gi_wp2_with fail;refine q1l ?_;go_region_held3 (fun w'=>w'.cell? ⟨g,0,none⟩=some (.pointer (some ⟨s 14,0,none⟩))/\w'.cell? ⟨gc,0,none⟩=some (.int .i64 (c:Int))/\w'.cell? ⟨s 14,4+c,none⟩=some (.pointer (some ⟨s c+1,0,none⟩))) (go_keep)
  (first | (go_at_call 127;refine(q0h _ _).mono ?_;rintro e w1 ⟨rfl,rfl⟩))
 obtain⟨W1,hW1⟩:∃ W1,(((w.alloc (.cells #[.func (.yield l) #[] #[]] 63)).alloc (.cells #[.int .i64 (-1)] 3)).alloc (.cells #[.pointer (some ⟨s c+1,0,none⟩)] 87)).drew=W1:=⟨_,rfl⟩
 have hs1:W1.heap.size=w.heap.size+3:=by rw[<-hW1];simp
 have ho1:Out 0 0 w W1:=by rw[<-hW1];exact((((Out.refl 0 0 w).alloc _).alloc _).alloc _).drew
 have hy1:Box W1 w.heap.size 63 (.func (.yield l) #[] #[]):=by rw[<-hW1];exact Box.kept (w:=((w.alloc (.cells #[.func (.yield l) #[] #[]] 63)).alloc (.cells #[.int .i64 (-1)] 3))) K4 (((Out.refl 0 0 _).alloc _).drew) z0
 have hx1:Box W1 (w.heap.size+1) 3 (.int .i64 (-1)):=by rw[<-hW1];exact Box.kept (w:=((w.alloc (.cells #[.func (.yield l) #[] #[]] 63)).alloc (.cells #[.int .i64 (-1)] 3))) (heap_alloc2_new _ _ _) (((Out.refl 0 0 _).alloc _).drew) z0
 have hz1:Box W1 (w.heap.size+1+1) 87 (.pointer (some ⟨s c+1,0,none⟩)):=by
  rw[<-hW1];have:=heap_alloc_new ((w.alloc (.cells #[.func (.yield l) #[] #[]] 63)).alloc (.cells #[.int .i64 (-1)] 3)) (.cells #[.pointer (some ⟨s c+1,0,none⟩)] 87);rw[World.size_alloc,World.size_alloc] at this;exact this
 rw[hW1];clear hW1;have HO1:=Z0 ho1;have HY1:=Z0 hy1;have HX1:=Z0 hx1;have HZ1:=Z0 hz1;clear ho1 hy1 hx1 hz1 c0 c1 cF;simp only[z8r];gi_wp2_with fail;refine z1a (gf:=156) (lb:=#[.pointer (some ⟨w.heap.size+1+1,0,none⟩)]) rfl (enters_of Tryz.func156 (by kernel_rfl) rfl)
  (fun W=>∃ v:Int,Box W (w.heap.size+1) 3 (.int .i64 v)/\Pend S I (64*n) v W/\Box W w.heap.size 63 (.func (.yield l) #[] #[])) (fun c W=>c=.ret/\Jx W) ?H ?done ?stop
 case H=>
  intro rec hrec W2 hW2;rw[hs1];have HR:=Z0 hrec;have ho2:Out 0 0 W1 W2:=by rw[hW2];exact((Out.refl 0 0 W1).alloc _).alloc _
  have hd2:W2.heap[w.heap.size+3]? = some (.deferred (some [])):=by rw[hW2,<-hs1];exact K4
  have hl2:W2.heap[w.heap.size+3+1]? = some (.loop (rec .ready none)):=by rw[hW2,<-hs1];exact heap_alloc2_new _ _ _
  refine(z5l (lo:=s c) (hi:=s c+2) (b:=s c+1) (n:=64*n) (g:=w.heap.size+1+1) (l:=w.heap.size+3+1)
   (fun p W=>p<=64*n/\(∃ v:Int,Box W (w.heap.size+1) 3 (.int .i64 v)/\Pend S I p v W)/\Box W w.heap.size 63 (.func (.yield l) #[] #[])/\Box W (w.heap.size+1+1) 87 (.pointer (some ⟨s c+1,0,none⟩))/\W.heap[w.heap.size+3]? = some (.deferred (some []))/\W.heap[w.heap.size+3+1]? = some (.loop (rec .ready none)))
   (fun W=>(∃ v:Int,Box W (w.heap.size+1) 3 (.int .i64 v)/\Pend S I (64*n) v W/\Box W w.heap.size 63 (.func (.yield l) #[] #[]))/\W.heap[w.heap.size+3]? = some (.deferred (some []))/\W.heap[w.heap.size+3+1]? = some (.loop (rec .ready none)))
   (fun W=>Jx W/\W.heap[w.heap.size+3]? = some (.deferred (some []))/\W.heap[w.heap.size+3+1]? = some (.loop (rec .done (some .ret)))) ?hm1 ?hq1 ?hy1 ?he1 (w:=W2) ?hz1).mono ?_
  case hm1=>
   rintro p W ⟨a0,⟨v,a1,a2⟩,a3,a4,a5,a6⟩;obtain⟨q,hIq⟩:=a2.some;obtain⟨r,b1,b2,b3,b4⟩:=HM.out q W hIq;exact⟨a0,S,by rw[<-b2];exact b1.free c HC.out,a4⟩
  case hq1=>
   rintro p W W' ⟨a0,⟨v,a1,a2⟩,a3,a4,a5,a6⟩ o;exact⟨a0,⟨v,a1.kept o z0,a2.map (fun q h=>HQ.out q W W' 0 0 h o (.inr rfl))⟩,a3.kept o z0,a4.kept o z0,o.heap a5 z0,o.heap a6 z0⟩
  case hz1=>
   exact⟨Nat.zero_le _,⟨-1,HX1.out.kept ho2 z0,.inl ⟨rfl,(fun j hj=>by omega),HQ.out 0 W1 W2 0 0 (HQ.out 0 w W1 0 0 HI.out HO1.out (.inr rfl)) ho2 (.inr rfl)⟩⟩,HY1.out.kept ho2 z0,HZ1.out.kept ho2 z0,hd2,hl2⟩
  case he1=>
   rintro p W S' ⟨a0,⟨v,a1,a2⟩,a3,a4,a5,a6⟩ hS hn;obtain⟨q,hIq⟩:=a2.some;obtain⟨r,b1,b2,b3,b4⟩:=HM.out q W hIq;have e:=hS.only (b1.free c HC.out);rw[b2] at e;rw[e] at hn;refine⟨⟨v,a1,a2.to_end a0 ?_,a3⟩,a5,a6⟩;rcases Q1 S (64*n) p with ⟨_,e2⟩ | ⟨k,e1,_⟩
   ·exact e2
   ·omega
  case hy1=>
   rintro p W S' k ⟨a0,⟨v,a1,a2⟩,a3,a4,a5,a6⟩ hS hn;obtain⟨q,hIq⟩:=a2.some;obtain⟨r,b1,b2,b3,b4⟩:=HM.out q W hIq;have e:=hS.only (b1.free c HC.out);rw[b2] at e;rw[e] at hn;have hk:k<64*n/\p<=k/\S k=true/\∀ j,p<=j->j<k->S j=false:=by
    rcases Q1 S (64*n) p with ⟨e1,_⟩ | ⟨i,e1,e2,e3,e4,e5⟩
    ·omega
    ·obtain rfl:k=i:=by omega
     exact⟨e2,e3 a0,e4,e5⟩
   have A:=Z0 (And.intro a1 (And.intro a3 (And.intro a4 a5)));have HP:=Z0 a2;have HK:=Z0 hk;have HL5:=Z0 a6;have hk0:(0:Int)<=(k:Int):=by omega
   refine z0y HR.out a6 rfl ?_;clear a0 a1 a2 a3 a4 a5 a6 b1 b2 b3 b4 hS hn hk hIq e;gi_wp2;refine⟨HL5.out,?_⟩;intro W3 ho3 hl3;have HO3:=Z0 ho3;have HL3:=Z0 hl3;have hb1:=A.out.1.kept ho3 (.inl (by omega));have c1:=hb1.cell;have c2:=(A.out.2.1.kept ho3 (.inl (by omega))).cell;have f1:=hb1.frozen;have HB1:=Z0 hb1;clear ho3 hl3 hb1;rcases HP.out with ⟨rfl,p2,p3⟩ | ⟨a,rfl,p1,p2,p3,p4⟩
   ·have HP2:=Z0 p2;have HP3:=Z0 p3;clear p2 p3;gi_wp2;refine⟨fun _ h=>(by cases h),?_⟩;gi_wp2;have ho5:Out (w.heap.size+1) (w.heap.size+1+1) W3 (W3.setCell ⟨w.heap.size+1,0,none⟩ (.int .i64 (k:Int))):=(Out.refl _ _ _).setCell z1 _;refine⟨ho5.heap HL3.out (.inr (by omega)),?_⟩;intro W5 ho6 hl6;refine .inl ⟨rfl,by have:=HK.out.1;omega,⟨(k:Int),(HB1.out.set _).kept ho6 (.inl (by omega)),.inr ⟨k,rfl,Nat.lt_succ_self _,HK.out.2.2.1,(fun j j1 j2=>by omega),HQ.out _ _ _ _ _ (HQ.out _ _ _ _ _ (HS.out 0 k W3 (HQ.out _ _ _ _ _ HP3.out HO3.out (.inl (by omega))) (Nat.zero_le _) (fun j _ j2=>by by_cases e:j<p;exact HP2.out j e;exact HK.out.2.2.2 j (by omega) j2)) ho5 (.inl (by omega))) ho6 (.inl (by omega))⟩⟩,
     ((A.out.2.1.kept HO3.out (.inl (by omega))).kept ho5 (.inl (by omega))).kept ho6 (.inl (by omega)),((A.out.2.2.1.kept HO3.out (.inl (by omega))).kept ho5 (.inr (by omega))).kept ho6 (.inl (by omega)),ho6.heap (ho5.heap (HO3.out.heap A.out.2.2.2 (.inl (by omega))) (.inr (by omega))) (.inl (by omega)),hl6⟩
   ·have hnx:nxr S (64*n) (a+1)=(k:Int):=z3n HK.out.1 (by have:=HK.out.2.1;omega) HK.out.2.2.1 (fun j j1 j2=>by by_cases e:j<p;exact p3 j (by omega) e;exact HK.out.2.2.2 j (by omega) j2);obtain⟨fn,tmps,assign,body,hy,hR⟩:=HY.out a W3 (HQ.out a W W3 _ _ p4 HO3.out (.inl (by omega))) p2 (by have:=HK.out;omega);rw[hnx] at hy;have HRR:=Z0 (z0h (m:=0) hR);have ha0:(0:Int)<=(a:Int):=by omega
    have HP3:=Z0 p3;have HP1:=Z0 p1;clear hR hnx p1 p2 p3 p4;gi_wp2;refine⟨rfl,RoundIn.mono (F:=Fence.wide.inRound (w.heap.size+3+1)) HRR.out ?_⟩;clear HRR hy;rintro e W4 ⟨ho4,⟨rfl,hI4⟩ | ⟨rfl,hx4⟩⟩
    ·have hb4:=HB1.out.kept ho4 (.inr (by omega));have c4:=hb4.cell;have f4:=hb4.frozen;have HB4:=Z0 hb4;have HO4:=Z0 ho4;have HI4:=Z0 hI4;clear hb4 ho4 hI4 c1 c2 f1;gi_wp2;have ho5:Out (w.heap.size+1) (w.heap.size+1+1) W4 (W4.setCell ⟨w.heap.size+1,0,none⟩ (.int .i64 (k:Int))):=(Out.refl _ _ _).setCell z1 _;refine⟨ho5.heap (HO4.out.heap HL3.out (.inr (by omega))) (.inr (by omega)),?_⟩;intro W5 ho6 hl6;refine .inl ⟨rfl,by have:=HK.out.1;omega,⟨(k:Int),(HB4.out.set _).kept ho6 (.inl (by omega)),.inr ⟨k,rfl,Nat.lt_succ_self _,HK.out.2.2.1,(fun j j1 j2=>by omega),HQ.out _ _ _ _ _ (HQ.out _ _ _ _ _ (HS.out (a+1) k W4 HI4.out (by have:=HP1.out;have:=HK.out.2.1;omega) (fun j j1 j2=>by by_cases e:j<p;exact HP3.out j (by omega) e;exact HK.out.2.2.2 j (by omega) j2)) ho5 (.inl (by omega))) ho6 (.inl (by omega))⟩⟩,
      (((A.out.2.1.kept HO3.out (.inl (by omega))).kept HO4.out (.inr (by omega))).kept ho5 (.inl (by omega))).kept ho6 (.inl (by omega)),(((A.out.2.2.1.kept HO3.out (.inl (by omega))).kept HO4.out (.inr (by omega))).kept ho5 (.inr (by omega))).kept ho6 (.inl (by omega)),ho6.heap (ho5.heap (HO4.out.heap (HO3.out.heap A.out.2.2.2 (.inl (by omega))) (.inr (by omega))) (.inr (by omega))) (.inl (by omega)),hl6⟩
    ·have HX4:=Z0 hx4;have HO4:=Z0 ho4;clear hx4 ho4;gi_wp2;refine⟨HO4.out.heap HL3.out (.inr (by omega)),?_⟩;intro W5 ho6 hl6;exact .inr ⟨rfl,HQX.out _ _ _ _ HX4.out ho6 (by omega),ho6.heap (HO4.out.heap (HO3.out.heap A.out.2.2.2 (.inl (by omega))) (.inr (by omega))) (.inl (by omega)),hl6⟩
  ·rintro e W ⟨hv,⟨a1,a2,a3⟩ | ⟨a1,a2,a3⟩⟩
   ·exact⟨hv,a2,.inl ⟨a1,a3⟩⟩
   ·exact⟨hv,a2,.inr ⟨.ret,⟨rfl,a1⟩,a3⟩⟩
 case done=>
  rintro W W' ⟨v,d1,d2,d3⟩ ho hd;have hb1:=d1.kept ho (.inl (by omega));have c1:=hb1.cell;have c2:=(d3.kept ho (.inl (by omega))).cell;have HD:=Z0 hd;have HO:=Z0 ho;have HP:=Z0 (d2.map (fun q h=>HQ.out q W W' _ _ h ho (.inl (by omega))));clear d1 d2 d3 ho hd hb1;rcases HP.out with ⟨rfl,p2,p3⟩ | ⟨a,rfl,p1,p2,p3,p4⟩
  ·have HJ:=Z0 (HE.out 0 W' p3 (fun j _ j2=>p2 j j2));clear p2 p3;gi_wp2;refine⟨by simp,.inl ⟨_,_,rfl,run_takeDeferred HD.out,?_⟩⟩;exact⟨_,results_none rfl _ _ _,⟨_,rfl⟩,.inl (HQJ.out _ _ _ _ HJ.out (Q2 _ _ _) (by omega))⟩
  ·have hnx:nxr S (64*n) (a+1) = -1:=by
    rcases Q1 S (64*n) (a+1) with ⟨e1,_⟩ | ⟨i,e1,e2,e3,e4,e5⟩
    ·exact e1
    ·have:=p3 i (by have:=e3 (by omega);omega) e2;rw[e4] at this;cases this
   obtain⟨fn,tmps,assign,body,hy,hR⟩:=HY.out a W' p4 p2 p1;rw[hnx] at hy;have HRR:=Z0 (z0h (m:=0) hR);have ha0:(0:Int)<=(a:Int):=by omega
   have HZ:=Z0 p3;clear hR hnx p1 p2 p3 p4;gi_wp2;refine⟨rfl,HRR.out.mono ?_⟩;clear HRR hy;rintro e W4 ⟨ho4,⟨rfl,hI4⟩ | ⟨rfl,hx4⟩⟩
   ·have HJ:=Z0 (HE.out _ _ hI4 (fun j j1 j2=>HZ.out j (by omega) j2));have HD4:=Z0 (ho4.heap HD.out (.inr (by omega)));clear ho4 hI4;gi_wp2;refine⟨by simp,.inl ⟨_,_,rfl,run_takeDeferred (by rw[<-hs1];exact HD4.out),?_⟩⟩;exact⟨_,results_none rfl _ _ _,⟨_,rfl⟩,.inl (HQJ.out _ _ _ _ HJ.out (Q2 _ _ _) (by omega))⟩
   ·have HJ:=Z0 hx4;have HD4:=Z0 (ho4.heap HD.out (.inr (by omega)));clear ho4 hx4;gi_wp2;refine⟨by simp,.inl ⟨_,_,rfl,run_takeDeferred (by rw[<-hs1];exact HD4.out),?_⟩⟩;exact⟨_,results_none rfl _ _ _,⟨_,rfl⟩,.inr (HQX.out _ _ _ _ HJ.out (Q2 _ _ _) (by omega))⟩
 case stop=>
  rintro c W W' ⟨rfl,hJ⟩ ho hd;have HJ:=Z0 (HQX.out W W' _ _ hJ ho (by omega));have HD:=Z0 hd;clear hJ ho hd;gi_wp2;refine⟨by simp,.inl ⟨_,_,rfl,run_takeDeferred HD.out,?_⟩⟩;exact⟨_,results_none rfl _ _ _,⟨_,rfl⟩,.inr (HQX.out _ _ _ _ HJ.out (Q2 _ _ _) (by omega))⟩
end Go.Proofs.YtjbbkeoolodeaabGreatDoor
