import Derived.Test.YtjbbkeoolodeaabGreatDoorB10
namespace Go.Proofs.YtjbbkeoolodeaabGreatDoor
open Go.RowKit
set_option linter.unusedVariables false
set_option maxRecDepth 100000
set_option maxHeartbeats 16000000
set_option linter.unusedSimpArgs false
section
variable {w:World} {lo hi n cap:Nat} {s:Nat->Nat} {r:Raw}
def tpF (r:Raw) (c p:Nat):Nat->Nat->Bool:=fun d=>if d=c then upd (fuR r c p) (64*p) false else r.F d
def tp4 (r:Raw) (c p:Nat):Raw:=⟨U9 r.W (64*p) 64,setC r.S p (c:Int),tpF r c p,r.P,r.M,r.R,r.last⟩
def tpR (n:Nat) (r:Raw) (c p:Nat):Raw:={ tp4 r c p with W:=z7b n (tp4 r c p) c }
theorem q0r (h:RawAt w lo hi s n cap r) {c:Nat} (hc:c<8) :
  Calls Tryz.prog 136 #[.pointer (some ⟨s 14,0,none⟩),.int .i64 (c:Int)] w fun e w'=>
   (match U2 r.S n 1 with
    | some p=>e=.returned (.tuple #[.int .i64 ((64*p:Nat):Int),.agg #[.int .i64 0,.int .i64 0]])/\RawAt w' lo hi s n cap (tpR n r c p)
    | none=>e=.returned (.tuple #[.int .i64 0,.agg #[.int .i64 20,.int .i64 0]])/\RawAt w' lo hi s n cap r)/\Out lo hi w w':=by
 have h0:Out 0 0 w (w.alloc (.cells #[.int .i64 0,.int .i64 0] 39)):=(Out.refl 0 0 w).alloc _;have HZ:=Z0 (q1h w);have H0:=Z0 h0;have HK:=Z0 (z9x (h.quiet h0) c hc);obtain⟨c0,c1,c2,c3,c4,c5⟩:=(h.quiet h0).cells;have HT:Hid (hi<=w.heap.size/\4<=w.heap.size/\n<=4096):=⟨h.top,h.tab.lt,h.n2⟩
 have k2:(0:Int)<=(c:Int):=by omega
 have k3:(c:Int)<8:=by omega
 have HC:=Z0 hc;cases hf:U2 r.S n 1 with
 | none=>
  rw[hf] at HK;simp only[Option.getD_none,Option.isSome_none] at HK;have e4:((20:Int) != 0)=true:=rfl;clear h h0 hf hc;go_enter Tryz.func136,Tryz.ntmps136
  go_wp2_with (first | (go_at_call 154;refine HK.out.mono ?_;rintro e w1 ⟨rfl,hr,ho⟩;obtain⟨q4,q5,q6,q7⟩:=Z7 (ho.heap HZ.out (.inr HT.out.1));have HR1:=Z0 hr;have HO:=Z0 ho;clear hr ho));refine z3s Tryz.results136 rfl rfl rfl (W7 (HO.out.heap HZ.out (.inr HT.out.1))) ⟨⟨rfl,HR1.out.kept ((Out.refl w.heap.size (w.heap.size+1) _).set2 z1 _ _) (.inl HT.out.1) (.inl HT.out.2.1)⟩,((H0.out.any lo hi).trans HO.out).set2 (.inr (Nat.le_refl _)) _ _⟩
 | some p=>
  rw[hf] at HK;simp only[Option.getD_some,Option.isSome_some,if_true] at HK;have hp:=G3 hf;have b0:(0:Int)<=(p:Int):=by omega
  have b1:(p:Int)<4096:=by have:=HT.out;omega
  have HP:Hid (p<n):=hp.1;have e4:((0:Int) != 0)=false:=rfl;obtain⟨o,cp,hsl,hol⟩:=z7k (s 11) (64*n) cap (p*64) (p*64+64) (by omega) (by have:=h.capn;omega);rw[show ((p*64:Nat):Int)=(p:Int)*64 from by omega,show ((p*64+64:Nat):Int)=(p:Int)*64+64 from by omega,show p*64+64-p*64=64 from by omega] at hsl;have HOL:Hid (o=p*64):=hol (by omega);have HA:Hid ((p:Int)*64=((64*p:Nat):Int)):=by show _=_;omega
  clear h h0 hf hp hol hc;go_enter Tryz.func136,Tryz.ntmps136
  go_wp2_with (first
   | (go_at_call 154;refine HK.out.mono ?_;rintro e w1 ⟨rfl,hr,ho⟩;have HO1:=Z0 ho;obtain⟨w2,hcl,hr2,ho2⟩:=hr.clear (a:=p*64) (k:=64) (o:=o) (cp:=cp) (by have:=HP.out;omega) (fun _=>HOL.out);have HR2:=Z0 hr2;have HO2:=Z0 (ho.trans (hr.wide (i:=11) (by omega) ho2));obtain⟨g0,g1,g2,g3,g4,g5⟩:=hr.cells;clear hr ho hr2 ho2)
   | (simp only[hcl])
   | (go_at_call 149;refine(z9d HR2.out HC.out HP.out).mono ?_;rintro e w3 ⟨⟨v3,rfl⟩,hr,ho⟩;have HR3:=Z0 hr;have HO3:=Z0 (HO2.out.trans ho);have gF:=hr.cellF HC.out;clear hr ho hcl g0 g1 g2 g3 g4 g5)
   | (go_at_call 137;refine(z7i (HR3.out.free c HC.out) _).mono ?_;rintro e w4 ⟨rfl,hm,ho⟩;have HR4:=Z0 (HR3.out.setF HC.out ho hm);have HO4:=Z0 (HO3.out.trans (HR3.out.wide (i:=c) (by have:=HC.out;omega) (by unfold ln;rw[if_pos (by have:=HC.out;omega)];exact ho)));clear hm ho gF)
   | (go_at_call 150;refine(z9e HR4.out HC.out).mono ?_;rintro e w5 ⟨⟨v5,rfl⟩,hr,ho⟩;have HR5:=Z0 hr;have HO5:=Z0 (HO4.out.trans ho);obtain⟨q4,q5,q6,q7⟩:=Z7 ((HO4.out.trans ho).heap HZ.out (.inr HT.out.1));clear hr ho))
  have hF:∀ d,(if d=c then q1r (if c=c then fuR r c p else r.F c) (64*n) ((p:Int)*64) false else if d=c then fuR r c p else r.F d)=tpF r c p d:=by
   intro d;unfold tpF;by_cases e:d=c
   ·rw[if_pos e,if_pos rfl,if_pos e,HA.out];unfold q1r;rw[if_pos (show inB (64*n) ((64*p:Nat):Int)=true from by unfold inB;simp;have:=HP.out;omega)];rfl
   ·rw[if_neg e,if_neg e,if_neg e]
  have e4:(⟨U9 r.W (p*64) 64,setC r.S p (c:Int),fun d=>if d=c then q1r (if c=c then fuR r c p else r.F c) (64*n) ((p:Int)*64) false else if d=c then fuR r c p else r.F d,r.P,r.M,r.R,r.last⟩:Raw)=tp4 r c p:=
   Raw.eq (by rw[Nat.mul_comm p 64];rfl) rfl (funext hF) rfl rfl rfl rfl
  have h5:=HR5.out;simp only[if_true] at h5 e4;have h6:RawAt w5 lo hi s n cap (tpR n r c p):=by
   unfold tpR;rw[<-e4];exact h5
  refine z3s Tryz.results136 rfl rfl rfl (W7 (HO5.out.heap HZ.out (.inr HT.out.1))) ⟨⟨j0b HA.out,h6.kept ((Out.refl w.heap.size (w.heap.size+1) _).set2 z1 _ _) (.inl HT.out.1) (.inl HT.out.2.1)⟩,((H0.out.any lo hi).trans HO5.out).set2 (.inr (Nat.le_refl _)) _ _⟩
theorem z9q (h:RawAt w lo hi s n cap r) {c:Nat} (hc:c<8) :
  Calls Tryz.prog 97 #[.pointer (some ⟨s 14,0,none⟩),.int .i64 (c:Int)] w fun e w'=>
   ((nxr (r.F c) (64*n) 0 = -1/\(match U2 r.S n 1 with
    | some p=>e=.returned (.tuple #[.int .i64 ((64*p:Nat):Int),.agg #[.int .i64 0,.int .i64 0]])/\RawAt w' lo hi s n cap (tpR n r c p)
    | none=>e=.returned (.tuple #[.int .i64 0,.agg #[.int .i64 20,.int .i64 0]])/\RawAt w' lo hi s n cap r)) ∨
   (∃ a:Nat,nxr (r.F c) (64*n) 0=a/\a<64*n/\r.F c a=true/\r.W a=Y7 (nxr (r.F c) (64*n) (a+1))/\e=.returned (.tuple #[.int .i64 (a:Int),.agg #[.int .i64 0,.int .i64 0]])/\RawAt w' lo hi s n cap { r with F:=fun d=>if d=c then upd (r.F c) a false else r.F d }) ∨
   (∃ a:Nat,nxr (r.F c) (64*n) 0=a/\a<64*n/\r.F c a=true/\r.W a ≠ Y7 (nxr (r.F c) (64*n) (a+1))/\e=.returned (.tuple #[.int .i64 0,.agg #[.int .i64 21,.int .i64 (a:Int)]])/\RawAt w' lo hi s n cap r))/\Out lo hi w w':=by
 have h0:Out 0 0 w (w.alloc (.cells #[.int .i64 0,.int .i64 0] 39)):=(Out.refl 0 0 w).alloc _;have HZ:=Z0 (q1h w);have H0:=Z0 h0;have hq:=h.quiet h0;have HQ:=Z0 hq;have cF:=hq.cellF hc;have HX:=Z0 (z2a (hq.free c hc) 0);rw[show (0:Int).toNat=0 from rfl] at HX;have HT:Hid (hi<=w.heap.size/\4<=w.heap.size/\n<=4096):=⟨h.top,h.tab.lt,h.n2⟩
 have k2:(0:Int)<=(c:Int):=by omega
 have k3:(c:Int)<8:=by omega
 have HC:=Z0 hc;rcases Q1 (r.F c) (64*n) 0 with ⟨e1,e2⟩ | ⟨a,e1,a1,a2,a3,a4⟩
 ·rw[e1] at HX;have HE:=Z0 e1;have HTP:=Z0 (fun w' (h':RawAt w' lo hi s n cap r)=>q0r h' hc);cases hf:U2 r.S n 1 with
  | none=>
   rw[hf] at HTP;clear h h0 hf hc hq e1 e2;go_enter Tryz.func97,Tryz.ntmps97
   go_wp2_with (first
    | (go_at_call 90;refine HX.out.mono ?_;rintro e w1 ⟨rfl,ho⟩;have HR1:=Z0 (HQ.out.quiet ho);have HO1:=Z0 (ho.any lo hi);clear ho)
    | (go_at_call 136;refine(HTP.out _ HR1.out).mono ?_;rintro e w2 ⟨⟨rfl,hr⟩,ho⟩;have HR2:=Z0 hr;have HO2:=Z0 (HO1.out.trans ho);obtain⟨q4,q5,q6,q7⟩:=Z7 ((HO1.out.trans ho).heap HZ.out (.inr HT.out.1));clear hr ho))
   refine z3s Tryz.results97 rfl rfl rfl (W7 (HO2.out.heap HZ.out (.inr HT.out.1))) ⟨.inl ⟨HE.out,rfl,HR2.out.kept ((Out.refl w.heap.size (w.heap.size+1) _).set2 z1 _ _) (.inl HT.out.1) (.inl HT.out.2.1)⟩,((H0.out.any lo hi).trans HO2.out).set2 (.inr (Nat.le_refl _)) _ _⟩
  | some p=>
   rw[hf] at HTP;clear h h0 hf hc hq e1 e2;go_enter Tryz.func97,Tryz.ntmps97
   go_wp2_with (first
    | (go_at_call 90;refine HX.out.mono ?_;rintro e w1 ⟨rfl,ho⟩;have HR1:=Z0 (HQ.out.quiet ho);have HO1:=Z0 (ho.any lo hi);clear ho)
    | (go_at_call 136;refine(HTP.out _ HR1.out).mono ?_;rintro e w2 ⟨⟨rfl,hr⟩,ho⟩;have HR2:=Z0 hr;have HO2:=Z0 (HO1.out.trans ho);obtain⟨q4,q5,q6,q7⟩:=Z7 ((HO1.out.trans ho).heap HZ.out (.inr HT.out.1));clear hr ho))
   refine z3s Tryz.results97 rfl rfl rfl (W7 (HO2.out.heap HZ.out (.inr HT.out.1))) ⟨.inl ⟨HE.out,j0b (by first | rfl | simp),HR2.out.kept ((Out.refl w.heap.size (w.heap.size+1) _).set2 z1 _ _) (.inl HT.out.1) (.inl HT.out.2.1)⟩,((H0.out.any lo hi).trans HO2.out).set2 (.inr (Nat.le_refl _)) _ _⟩
 ·rw[e1] at HX;have b0:(0:Int)<=(a:Int):=by omega
  have b1:(a:Int)<64*(n:Int):=by omega
  have b2:(a:Int)<((64*n:Nat):Int):=by omega
  have b3:((64*n:Nat):Int)<=262144:=by have:=HT.out;omega
  have HA:=Z0 (And.intro e1 (And.intro a1 a3));have HWR:Hid (IntKind.i64.wrap ((a:Int)+1)=(a:Int)+1):=by show _=_;simp[IntKind.wrap,IntKind.signed,IntKind.bits];omega
  obtain⟨z,hz⟩:∃ z,nxr (r.F c) (64*n) (a+1)=z:=⟨_,rfl⟩
  have HX2:=Z0 (fun w' (h':RawAt w' lo hi s n cap r)=>z2a (h'.free c hc) ((a:Int)+1));rw[show ((a:Int)+1).toNat=a+1 from by omega,hz] at HX2;have HZZ:=Z0 hz;by_cases hv:r.W a=Y7 z
  ·have hne:(r.W a != Y7 z)=false:=by simp[hv]
   have HV:=Z0 hv;clear h h0 hc hq e1 a1 a2 a3 a4 hz hv;go_enter Tryz.func97,Tryz.ntmps97
   go_wp2_with (first
    | (go_at_call 90;refine HX.out.mono ?_;rintro e w1 ⟨rfl,ho⟩;have HR1:=Z0 (HQ.out.quiet ho);have HO1:=Z0 (ho.any lo hi);have dF:=(HQ.out.quiet ho).cellF HC.out;obtain⟨d0,d1,d2,d3,d4,d5⟩:=(HQ.out.quiet ho).cells;have dW:=(HQ.out.quiet ho).words.cell HA.out.2.1;clear ho cF))
   refine wp_region_held_drew (S:=fun w'=>w'.cell? ⟨s 14,0,none⟩=some (.slice (some ⟨s 11,0,none⟩) (64*n) cap)/\w'.cell? ⟨s 11,a,none⟩=some (.int .i64 (r.W a))/\w'.cell? ⟨s 14,4+c,none⟩=some (.pointer (some ⟨s c+1,0,none⟩))) (by kernel_rfl) ?hS1 (fun hHeld=>?rest1)
   case hS1=>exact⟨d0,dW,dF⟩
   refine tk 0 ?_;refine tk 1 ?_;refine tk 2 ?_;refine tk 3 ?_;refine tk 4 ?_;refine tk 5 ?_;refine tk 6 ?_;refine tk 7 ?_;refine tk 8 ?_;refine tk 9 ?_;refine tk 10 ?_;refine tk 11 ?_;refine tk 12 ?_;refine tk 13 ?_;refine tk 14 ?_;refine rd1 15 fun KK hK=>?_
   simp only[xa,xb,xc];go_simp;rw[HWR.out];refine(HX2.out _ (HR1.out.quiet ((Out.refl 0 0 _).drew))).mono ?_;rintro e w2 ⟨rfl,hOO⟩;refine hK.out _ _ ?hS17 (fun hHeld2=>?rest17)
   case hS17=>exact⟨hOO.cell hHeld.1 z0,hOO.cell hHeld.2.1 z0,hOO.cell hHeld.2.2 z0⟩
   clear hK KK;replace hHeld:=hHeld2;clear hHeld2;refine rd1 16 fun KK hK=>?_
   simp only[xa,xb,xc];go_simp;refine(q0p z _).mono ?_;rintro e w3 ⟨rfl,rfl⟩;refine hK.out _ _ ?hS18 (fun hHeld2=>?rest18)
   case hS18=>exact hHeld
   clear hK KK;replace hHeld:=hHeld2;clear hHeld2;refine tk 17 ?_;refine dn ?_;clear hHeld d0 d1 d2 d3 d4 d5 dW dF;have HO2:=Z0 (HO1.out.trans (((Out.refl 0 0 w1).drew).trans hOO |>.any lo hi));have HR2:=Z0 (HR1.out.quiet (((Out.refl 0 0 w1).drew).trans hOO));have gF:=HR2.out.cellF HC.out;obtain⟨q4,q5,q6,q7⟩:=Z7 (HO2.out.heap HZ.out (.inr HT.out.1));clear hOO
   all_goals go_wp2_with (first
    | (go_at_call 137;refine(z7i (HR2.out.free c HC.out) _).mono ?_;rintro e w4 ⟨rfl,hm,ho⟩;have HR4:=Z0 (HR2.out.setF HC.out ho hm);have HO4:=Z0 (HO2.out.trans (HR2.out.wide (i:=c) (by have:=HC.out;omega) (by unfold ln;rw[if_pos (by have:=HC.out;omega)];exact ho)));obtain⟨t4,t5,t6,t7⟩:=Z7 (HO4.out.heap HZ.out (.inr HT.out.1));clear hm ho gF q4 q5 q6 q7))
   all_goals
    have h4:RawAt w4 lo hi s n cap { r with F:=fun d=>if d=c then upd (r.F c) a false else r.F d }:=by
     refine HR4.out.congr (Raw.eq rfl rfl (funext fun d=>?_) rfl rfl rfl rfl);by_cases e:d=c
     ·simp only[e,if_true];unfold q1r;rw[if_pos (show inB (64*n) (a:Int)=true from by unfold inB;simp;have:=HA.out.2.1;omega)];rfl
     ·simp only[e,if_false]
    refine z3s Tryz.results97 rfl rfl rfl (W7 (HO4.out.heap HZ.out (.inr HT.out.1))) ⟨.inr (.inl ⟨a,HA.out.1,HA.out.2.1,HA.out.2.2,by rw[HZZ.out];exact HV.out,rfl,h4.kept ((Out.refl w.heap.size (w.heap.size+1) _).set2 z1 _ _) (.inl HT.out.1) (.inl HT.out.2.1)⟩),((H0.out.any lo hi).trans HO4.out).set2 (.inr (Nat.le_refl _)) _ _⟩
  ·have hne:(r.W a != Y7 z)=true:=by simp[hv]
   have HV:=Z0 hv;clear h h0 hc hq e1 a1 a2 a3 a4 hz hv;go_enter Tryz.func97,Tryz.ntmps97
   go_wp2_with (first
    | (go_at_call 90;refine HX.out.mono ?_;rintro e w1 ⟨rfl,ho⟩;have HR1:=Z0 (HQ.out.quiet ho);have HO1:=Z0 (ho.any lo hi);have dF:=(HQ.out.quiet ho).cellF HC.out;obtain⟨d0,d1,d2,d3,d4,d5⟩:=(HQ.out.quiet ho).cells;have dW:=(HQ.out.quiet ho).words.cell HA.out.2.1;clear ho cF))
   refine wp_region_held_drew (S:=fun w'=>w'.cell? ⟨s 14,0,none⟩=some (.slice (some ⟨s 11,0,none⟩) (64*n) cap)/\w'.cell? ⟨s 11,a,none⟩=some (.int .i64 (r.W a))/\w'.cell? ⟨s 14,4+c,none⟩=some (.pointer (some ⟨s c+1,0,none⟩))) (by kernel_rfl) ?hS20 (fun hHeld=>?rest20)
   case hS20=>exact⟨d0,dW,dF⟩
   refine tk 0 ?_;refine tk 1 ?_;refine tk 2 ?_;refine tk 3 ?_;refine tk 4 ?_;refine tk 5 ?_;refine tk 6 ?_;refine tk 7 ?_;refine tk 8 ?_;refine tk 9 ?_;refine tk 10 ?_;refine tk 11 ?_;refine tk 12 ?_;refine tk 13 ?_;refine tk 14 ?_;refine rd1 15 fun KK hK=>?_
   simp only[xa,xb,xc];go_simp;rw[HWR.out];refine(HX2.out _ (HR1.out.quiet ((Out.refl 0 0 _).drew))).mono ?_;rintro e w2 ⟨rfl,hOO⟩;refine hK.out _ _ ?hS36 (fun hHeld2=>?rest36)
   case hS36=>exact⟨hOO.cell hHeld.1 z0,hOO.cell hHeld.2.1 z0,hOO.cell hHeld.2.2 z0⟩
   clear hK KK;replace hHeld:=hHeld2;clear hHeld2;refine rd1 16 fun KK hK=>?_
   simp only[xa,xb,xc];go_simp;refine(q0p z _).mono ?_;rintro e w3 ⟨rfl,rfl⟩;refine hK.out _ _ ?hS37 (fun hHeld2=>?rest37)
   case hS37=>exact hHeld
   clear hK KK;replace hHeld:=hHeld2;clear hHeld2;refine tk 17 ?_;refine dn ?_;clear hHeld d0 d1 d2 d3 d4 d5 dW dF;have HO2:=Z0 (HO1.out.trans (((Out.refl 0 0 w1).drew).trans hOO |>.any lo hi));have HR2:=Z0 (HR1.out.quiet (((Out.refl 0 0 w1).drew).trans hOO));have gF:=HR2.out.cellF HC.out;obtain⟨q4,q5,q6,q7⟩:=Z7 (HO2.out.heap HZ.out (.inr HT.out.1));clear hOO
   all_goals go_wp2
   all_goals
    refine z3s Tryz.results97 rfl rfl rfl (W7 (HO2.out.heap HZ.out (.inr HT.out.1))) ⟨.inr (.inr ⟨a,HA.out.1,HA.out.2.1,HA.out.2.2,by rw[HZZ.out];exact HV.out,rfl,HR2.out.kept ((Out.refl w.heap.size (w.heap.size+1) _).set2 z1 _ _) (.inl HT.out.1) (.inl HT.out.2.1)⟩),((H0.out.any lo hi).trans HO2.out).set2 (.inr (Nat.le_refl _)) _ _⟩
end
def enR (r:Raw) (a:Nat) (k z x t:Int):Raw:=
 { r with W:=z5b (U9 r.W a (J3 z)) a (X9 a k z),P:=upd r.P a true,M:=fun i=>if i=(a:Int) then some (k,z,x,t) else r.M i,R:=if 0<x then (fun i=>if i=x then some (a:Int) else r.R i) else r.R }
section
variable {w:World} {lo hi n cap:Nat} {s:Nat->Nat} {r:Raw}
theorem j5c (M:Int->Option Blk) (a:Int) (b:Blk):(fun y=>if y=a then some (q6a a b) else z6b M y)=z6b (fun i=>if i=a then some b else M i):=by
 funext y
 unfold z6b;by_cases e:y=a
 ·subst e;simp
 ·simp[e]
theorem j6j (R:Int->Option Int) (a:Int) (b:Int):(fun y=>if y=a then some (.int .i64 b) else j2t R y)=j2t (fun i=>if i=a then some b else R i):=by
 funext y
 unfold j2t;by_cases e:y=a
 ·subst e;simp
 ·simp[e]
theorem q9e (h:RawAt w lo hi s n cap r) {a:Nat} {k z x t:Int} (z1:1<=z) (z2:z<=1024) (hk:a+J3 z<=64*n) (ha:a<64*n) :
  Calls Tryz.prog 51 #[.pointer (some ⟨s 14,0,none⟩),.agg #[.int .i64 (a:Int),.int .i64 k,.int .i64 z,.int .i64 x,.int .i64 t]] w fun e w'=>(∃ v,e=.returned v)/\RawAt w' lo hi s n cap (enR r a k z x t)/\Out lo hi w w':=by
 have h0:Out 0 0 w (w.alloc (bo (a:Int) k z x t)):=(Out.refl 0 0 w).alloc _;have hq:=h.quiet h0;have HQ:=Z0 hq;have H0:=Z0 h0;have HBX:Hid ((w.alloc (bo (a:Int) k z x t)).heap[w.heap.size]? = some (bo (a:Int) k z x t)):=heap_alloc_new _ _;have HD:Hid (hi<=w.heap.size/\4<=w.heap.size/\n<=4096/\(s 12<hi/\s 13<hi/\s 11<hi/\s 8+2<=hi/\s 14<hi)/\(s 14<s 12\/s 12+1<=s 14)/\(s 14<s 13\/s 13+1<=s 14)/\(s 14<s 11\/s 11+1<=s 14)/\(s 14<s 8\/s 8+2<=s 14)):=by
  have i12:=h.inn 12 (by omega);have i13:=h.inn 13 (by omega);have i11:=h.inn 11 (by omega);have i8:=h.inn 8 (by omega);have i14:=h.inn 14 (by omega);have a12:=h.apart 12 14 (by omega) (by omega) (by omega);have a13:=h.apart 13 14 (by omega) (by omega) (by omega);have a11:=h.apart 11 14 (by omega) (by omega) (by omega);have a8:=h.apart 8 14 (by omega) (by omega) (by omega);simp[ln] at i12 i13 i11 i8 i14 a12 a13 a11 a8;exact⟨h.top,h.tab.lt,h.n2,by omega,by omega,by omega,by omega,by omega⟩
 obtain⟨o,cp,hsl,hol⟩:=z7k (s 11) (64*n) cap a (a+J3 z) (by omega) (by have:=h.capn;omega);have hwr:IntKind.i64.wrap ((a:Int)+((J3 z:Nat):Int))=((a+J3 z:Nat):Int):=by simp[IntKind.wrap,IntKind.signed,IntKind.bits];have:=HD.out.2.2.1;omega
 rw[<-hwr,show a+J3 z-a=J3 z from by omega] at hsl;have HK:Hid (a+J3 z<=64*n/\(0<J3 z->o=a)/\a<64*n):=⟨hk,(by rw[show a+J3 z-a=J3 z from by omega] at hol;exact hol),ha⟩
 have HRoom:=Z0 (fun w'=>q5t z z1 z2 w');have HM:=Z0 (fun w'=>q2x (a:Int) k z w');have b0:(0:Int)<=(a:Int):=by omega
 have b1:(a:Int)<64*(n:Int):=by omega
 have b2:(a:Int)<((64*n:Nat):Int):=by omega
 have b3:((64*n:Nat):Int)<=262144:=by have:=HD.out.2.2.1;omega
 obtain⟨d0,d1,d2,d3,d4,d5⟩:=hq.cells;obtain⟨q0,q1,q2,q3,q4⟩:=V7 HBX.out;have hqd:=hq.quiet ((Out.refl 0 0 _).drew);obtain⟨wM,hmu,hmM,hoM⟩:=j6s Tryz.underlying86 Tryz.underlying3 hqd.objs (a:Int) (.agg #[.int .i64 (a:Int),.int .i64 k,.int .i64 z,.int .i64 x,.int .i64 t]);have HRM0:=Z0 (hqd.setM (M':=fun i=>if i=(a:Int) then some (k,z,x,t) else r.M i) hoM (by rw[<-j5c];exact hmM));unfold bo at *;clear h h0 hq hqd hk ha z1 z2 hwr hol hmM;go_enter Tryz.func51,Tryz.ntmps51
 go_wp2_with fail;refine wp_region_held_drew (S:=fun w'=>w'.cell? ⟨s 14,2,none⟩=some (.map (some (s 12)))/\w'.cell? ⟨w.heap.size,0,none⟩=some (.int .i64 (a:Int))/\w'.cell? ⟨w.heap.size,1,none⟩=some (.int .i64 k)/\w'.cell? ⟨w.heap.size,2,none⟩=some (.int .i64 z)/\w'.cell? ⟨w.heap.size,3,none⟩=some (.int .i64 x)/\w'.cell? ⟨w.heap.size,4,none⟩=some (.int .i64 t)) (by kernel_rfl) ?hS1 (fun hHeld=>?rest1)
 case hS1=>exact⟨d2,q0,q1,q2,q3,q4⟩
 refine tk 0 ?_;refine tk 1 ?_;refine tk 2 ?_;refine tk 3 ?_;refine tk 4 ?_;refine tk 5 ?_;refine tk 6 ?_;refine rd1 7 fun KK hK=>?_
 simp only[xa,xb,xc];go_simp;refine hK.out _ _ ?hS9 (fun hHeld2=>?rest9)
 case hS9=>exact⟨hoM.cell hHeld.1 (by have:=HD.out;omega),hoM.cell hHeld.2.1 (by have:=HD.out;omega),hoM.cell hHeld.2.2.1 (by have:=HD.out;omega),hoM.cell hHeld.2.2.2.1 (by have:=HD.out;omega),hoM.cell hHeld.2.2.2.2.1 (by have:=HD.out;omega),hoM.cell hHeld.2.2.2.2.2 (by have:=HD.out;omega)⟩
 clear hK KK;replace hHeld:=hHeld2;clear hHeld2;refine dn ?_;clear hHeld;have ho1:Out lo hi (w.alloc (.cells #[.int .i64 (a:Int),.int .i64 k,.int .i64 z,.int .i64 x,.int .i64 t] 97)) wM:=(((Out.refl 0 0 _).drew).any lo hi).trans (HQ.out.quiet ((Out.refl 0 0 _).drew) |>.wide (i:=12) (by omega) hoM);have HO1:=Z0 ho1;have HRM:=Z0 (HRM0.out.quiet ((Out.refl 0 0 _).drew));have HBM:=Z0 (ho1.heap HBX.out (.inr HD.out.1));clear d0 d1 d2 d3 d4 d5 q0 q1 q2 q3 q4 hmu hoM ho1;obtain⟨d0,d1,d2,d3,d4,d5⟩:=HRM0.out.cells;obtain⟨q0,q1,q2,q3,q4⟩:=V7 HBM.out;go_wp2_with fail;refine wp_region_held_drew (S:=fun w'=>w'.cell? ⟨s 14,3,none⟩=some (.pointer (some ⟨s 8+1,0,none⟩))/\w'.cell? ⟨w.heap.size,0,none⟩=some (.int .i64 (a:Int))/\w'.cell? ⟨w.heap.size,1,none⟩=some (.int .i64 k)/\w'.cell? ⟨w.heap.size,2,none⟩=some (.int .i64 z)/\w'.cell? ⟨w.heap.size,3,none⟩=some (.int .i64 x)/\w'.cell? ⟨w.heap.size,4,none⟩=some (.int .i64 t)) (by kernel_rfl) ?hS10 (fun hHeld=>?rest10)
 case hS10=>exact⟨d3,q0,q1,q2,q3,q4⟩
 refine tk 0 ?_;refine tk 1 ?_;refine tk 2 ?_;refine tk 3 ?_;refine tk 4 ?_;refine tk 5 ?_;refine rd1 6 fun KK hK=>?_
 simp only[xa,xb,xc];go_simp;refine(q3t HRM.out.places (a:Int)).mono ?_;rintro e w2 ⟨rfl,hmp,hop⟩;refine hK.out _ _ ?hS17 (fun hHeld2=>?rest17)
 case hS17=>exact⟨hop.cell hHeld.1 (by have:=HD.out;omega),hop.cell hHeld.2.1 (by have:=HD.out;omega),hop.cell hHeld.2.2.1 (by have:=HD.out;omega),hop.cell hHeld.2.2.2.1 (by have:=HD.out;omega),hop.cell hHeld.2.2.2.2.1 (by have:=HD.out;omega),hop.cell hHeld.2.2.2.2.2 (by have:=HD.out;omega)⟩
 clear hK KK;replace hHeld:=hHeld2;clear hHeld2;refine dn ?_;clear hHeld;have ho2:=HO1.out.trans ((((Out.refl 0 0 wM).drew).any lo hi).trans (HRM.out.wide (i:=8) (by omega) hop));have HR2:=Z0 (HRM.out.setP hop hmp);have HO2:=Z0 ho2;have HB2:=Z0 (ho2.heap HBX.out (.inr HD.out.1));have hPe:Hid (q1r r.P (64*n) (a:Int) true=upd r.P a true):=by
  show _=_
  unfold q1r;rw[if_pos (show inB (64*n) (a:Int)=true from by unfold inB;simp;have:=HK.out.2.2;omega)];rfl
 clear d0 d1 d2 d3 d4 d5 q0 q1 q2 q3 q4 hmp hop ho2;obtain⟨d0,d1,d2,d3,d4,d5⟩:=HR2.out.cells;obtain⟨q0,q1,q2,q3,q4⟩:=V7 HB2.out;by_cases hx:0<x
 ·have hRe:Hid ((fun i=>if i=x then some (a:Int) else r.R i)=(if 0<x then (fun i=>if i=x then some (a:Int) else r.R i) else r.R)):=by show _=_;rw[if_pos hx]
  have hqd:=HR2.out.quiet ((Out.refl 0 0 _).drew);obtain⟨w3,hmu,hmR,hoR⟩:=j6s Tryz.underlying89 Tryz.underlying3 hqd.sers x (.int .i64 (a:Int));have HR3:=Z0 (hqd.setR (R':=fun i=>if i=x then some (a:Int) else r.R i) hoR (by rw[<-j6j];exact hmR));have ho3:=HO2.out.trans ((((Out.refl 0 0 w2).drew).any lo hi).trans (hqd.wide (i:=13) (by omega) hoR));have HO3:=Z0 ho3;have HB3:=Z0 (ho3.heap HBX.out (.inr HD.out.1));clear hqd hmR ho3;go_wp2_with fail;refine wp_region_held_drew (S:=fun w'=>w'.cell? ⟨s 14,12,none⟩=some (.map (some (s 13)))/\w'.cell? ⟨w.heap.size,0,none⟩=some (.int .i64 (a:Int))/\w'.cell? ⟨w.heap.size,1,none⟩=some (.int .i64 k)/\w'.cell? ⟨w.heap.size,2,none⟩=some (.int .i64 z)/\w'.cell? ⟨w.heap.size,3,none⟩=some (.int .i64 x)/\w'.cell? ⟨w.heap.size,4,none⟩=some (.int .i64 t)) (by kernel_rfl) ?hS18 (fun hHeld=>?rest18)
  case hS18=>exact⟨d4,q0,q1,q2,q3,q4⟩
  refine tk 0 ?_;refine tk 1 ?_;refine tk 2 ?_;refine tk 3 ?_;refine tk 4 ?_;refine tk 5 ?_;refine tk 6 ?_;refine tk 7 ?_;refine rd1 8 fun KK hK=>?_
  simp only[xa,xb,xc];go_simp;refine hK.out _ _ ?hS27 (fun hHeld2=>?rest27)
  case hS27=>exact⟨hoR.cell hHeld.1 (by have:=HD.out;omega),hoR.cell hHeld.2.1 (by have:=HD.out;omega),hoR.cell hHeld.2.2.1 (by have:=HD.out;omega),hoR.cell hHeld.2.2.2.1 (by have:=HD.out;omega),hoR.cell hHeld.2.2.2.2.1 (by have:=HD.out;omega),hoR.cell hHeld.2.2.2.2.2 (by have:=HD.out;omega)⟩
  clear hK KK;replace hHeld:=hHeld2;clear hHeld2;refine dn ?_;clear hHeld;clear d0 d1 d2 d3 d4 d5 q0 q1 q2 q3 q4 hmu hoR;obtain⟨d0,d1,d2,d3,d4,d5⟩:=HR3.out.cells;obtain⟨q0,q1,q2,q3,q4⟩:=V7 HB3.out;have HRR:=HR3;go_wp2_with fail;refine wp_region_held_drew (S:=fun w'=>w'.cell? ⟨s 14,0,none⟩=some (.slice (some ⟨s 11,0,none⟩) (64*n) cap)/\w'.cell? ⟨w.heap.size,0,none⟩=some (.int .i64 (a:Int))/\w'.cell? ⟨w.heap.size,1,none⟩=some (.int .i64 k)/\w'.cell? ⟨w.heap.size,2,none⟩=some (.int .i64 z)/\w'.cell? ⟨w.heap.size,3,none⟩=some (.int .i64 x)/\w'.cell? ⟨w.heap.size,4,none⟩=some (.int .i64 t)) (by kernel_rfl) ?hS28 (fun hHeld=>?rest28)
  case hS28=>exact⟨d0,q0,q1,q2,q3,q4⟩
  refine tk 0 ?_;refine tk 1 ?_;refine tk 2 ?_;refine tk 3 ?_;refine tk 4 ?_;refine tk 5 ?_;refine tk 6 ?_;refine tk 7 ?_;refine tk 8 ?_;refine tk 9 ?_;refine rd1 10 fun KK hK=>?_
  simp only[xa,xb,xc];go_simp;refine(HRoom.out _).mono ?_;rintro e w5 ⟨rfl,hoo⟩;obtain⟨w6,hcl,hr6,ho6⟩:=(HRR.out.quiet (((Out.refl 0 0 _).drew).trans hoo)).clear (a:=a) (k:=J3 z) (o:=o) (cp:=cp) HK.out.1 HK.out.2.1;refine hK.out _ _ ?hS39 (fun hHeld2=>?rest39)
  case hS39=>exact⟨hoo.cell hHeld.1 z0,hoo.cell hHeld.2.1 z0,hoo.cell hHeld.2.2.1 z0,hoo.cell hHeld.2.2.2.1 z0,hoo.cell hHeld.2.2.2.2.1 z0,hoo.cell hHeld.2.2.2.2.2 z0⟩
  clear hK KK;replace hHeld:=hHeld2;clear hHeld2;refine tk 11 ?_;refine tk 12 ?_;refine rd1 13 fun KK hK=>?_
  simp only[xa,xb,xc];go_simp;refine hK.out _ _ ?hS42 (fun hHeld2=>?rest42)
  case hS42=>exact⟨ho6.cell hHeld.1 (by have:=HD.out;omega),ho6.cell hHeld.2.1 (by have:=HD.out;omega),ho6.cell hHeld.2.2.1 (by have:=HD.out;omega),ho6.cell hHeld.2.2.2.1 (by have:=HD.out;omega),ho6.cell hHeld.2.2.2.2.1 (by have:=HD.out;omega),ho6.cell hHeld.2.2.2.2.2 (by have:=HD.out;omega)⟩
  clear hK KK;replace hHeld:=hHeld2;clear hHeld2;refine dn ?_;clear hHeld;have ho6':=HO3.out.trans ((((Out.refl 0 0 w3).drew).trans hoo).any lo hi |>.trans ((HRR.out.quiet (((Out.refl 0 0 _).drew).trans hoo)).wide (i:=11) (by omega) ho6));have HR6:=Z0 hr6;have HO6:=Z0 ho6';have HB6:=Z0 (ho6'.heap HBX.out (.inr HD.out.1));clear hoo hcl hr6 ho6 ho6' d0 d1 d2 d3 d4 d5 q0 q1 q2 q3 q4;obtain⟨d0,d1,d2,d3,d4,d5⟩:=HR6.out.cells;obtain⟨q0,q1,q2,q3,q4⟩:=V7 HB6.out;have e0:=HR6.out.words.cell HK.out.2.2;have e1:=HR6.out.words.frozen a;have ho9:∀ v,Out (s 11) (s 11+1) w6.drew (w6.drew.setCell ⟨s 11,a,none⟩ v):=fun v=>(Out.refl _ _ _).setCell (.inl ⟨Nat.le_refl _,Nat.lt_succ_self _⟩) _
  go_wp2_with fail;refine wp_region_held_drew (S:=fun w'=>w'.cell? ⟨s 14,0,none⟩=some (.slice (some ⟨s 11,0,none⟩) (64*n) cap)/\w'.cell? ⟨w.heap.size,0,none⟩=some (.int .i64 (a:Int))/\w'.cell? ⟨w.heap.size,1,none⟩=some (.int .i64 k)/\w'.cell? ⟨w.heap.size,2,none⟩=some (.int .i64 z)/\w'.cell? ⟨w.heap.size,3,none⟩=some (.int .i64 x)/\w'.cell? ⟨w.heap.size,4,none⟩=some (.int .i64 t)) (by kernel_rfl) ?hS43 (fun hHeld=>?rest43)
  case hS43=>exact⟨d0,q0,q1,q2,q3,q4⟩
  refine tk 0 ?_;refine tk 1 ?_;refine tk 2 ?_;refine tk 3 ?_;refine tk 4 ?_;refine tk 5 ?_;refine tk 6 ?_;refine tk 7 ?_;refine tk 8 ?_;refine tk 9 ?_;refine tk 10 ?_;refine tk 11 ?_;refine rd1 12 fun KK hK=>?_
  simp only[xa,xb,xc];go_simp;refine(HM.out _).mono ?_;rintro e w7 ⟨rfl,rfl⟩;refine hK.out _ _ ?hS56 (fun hHeld2=>?rest56)
  case hS56=>exact hHeld
  clear hK KK;replace hHeld:=hHeld2;clear hHeld2;refine tk 13 ?_;refine rd1 14 fun KK hK=>?_
  simp only[xa,xb,xc];go_simp;refine hK.out _ _ ?hS58 (fun hHeld2=>?rest58)
  case hS58=>exact⟨(ho9 _).cell hHeld.1 (by have:=HD.out;omega),(ho9 _).cell hHeld.2.1 (by have:=HD.out;omega),(ho9 _).cell hHeld.2.2.1 (by have:=HD.out;omega),(ho9 _).cell hHeld.2.2.2.1 (by have:=HD.out;omega),(ho9 _).cell hHeld.2.2.2.2.1 (by have:=HD.out;omega),(ho9 _).cell hHeld.2.2.2.2.2 (by have:=HD.out;omega)⟩
  clear hK KK;replace hHeld:=hHeld2;clear hHeld2;refine dn ?_;clear hHeld;go_wp2;have hp:=(HR6.out.quiet ((Out.refl 0 0 _).drew)).poke a (X9 (a:Int) k z);refine bodyPost_end (results_none Tryz.results51 _ _ _) rfl ⟨⟨_,rfl⟩,hp.1.congr ?_,((H0.out.any lo hi).trans HO6.out).trans ((((Out.refl 0 0 _).drew).any lo hi).trans ((HR6.out.quiet ((Out.refl 0 0 _).drew)).wide (i:=11) (by omega) hp.2))⟩;refine Raw.eq rfl rfl rfl ?_ rfl ?_ rfl
  ·exact hPe.out
  ·exact hRe.out
 ·have hRe:Hid (r.R=(if 0<x then (fun i=>if i=x then some (a:Int) else r.R i) else r.R)):=by show _=_;rw[if_neg hx]
  have hx':x<=0:=by omega
  obtain⟨w3,rfl⟩:∃ w3,w3=w2:=⟨_,rfl⟩
  have HO3:=HO2;have HRR:=HR2;clear hx;go_wp2_with fail;refine wp_region_held_drew (S:=fun w'=>w'.cell? ⟨s 14,0,none⟩=some (.slice (some ⟨s 11,0,none⟩) (64*n) cap)/\w'.cell? ⟨w.heap.size,0,none⟩=some (.int .i64 (a:Int))/\w'.cell? ⟨w.heap.size,1,none⟩=some (.int .i64 k)/\w'.cell? ⟨w.heap.size,2,none⟩=some (.int .i64 z)/\w'.cell? ⟨w.heap.size,3,none⟩=some (.int .i64 x)/\w'.cell? ⟨w.heap.size,4,none⟩=some (.int .i64 t)) (by kernel_rfl) ?hS59 (fun hHeld=>?rest59)
  case hS59=>exact⟨d0,q0,q1,q2,q3,q4⟩
  refine tk 0 ?_;refine tk 1 ?_;refine tk 2 ?_;refine tk 3 ?_;refine tk 4 ?_;refine tk 5 ?_;refine tk 6 ?_;refine tk 7 ?_;refine tk 8 ?_;refine tk 9 ?_;refine rd1 10 fun KK hK=>?_
  simp only[xa,xb,xc];go_simp;refine(HRoom.out _).mono ?_;rintro e w5 ⟨rfl,hoo⟩;obtain⟨w6,hcl,hr6,ho6⟩:=(HRR.out.quiet (((Out.refl 0 0 _).drew).trans hoo)).clear (a:=a) (k:=J3 z) (o:=o) (cp:=cp) HK.out.1 HK.out.2.1;refine hK.out _ _ ?hS70 (fun hHeld2=>?rest70)
  case hS70=>exact⟨hoo.cell hHeld.1 z0,hoo.cell hHeld.2.1 z0,hoo.cell hHeld.2.2.1 z0,hoo.cell hHeld.2.2.2.1 z0,hoo.cell hHeld.2.2.2.2.1 z0,hoo.cell hHeld.2.2.2.2.2 z0⟩
  clear hK KK;replace hHeld:=hHeld2;clear hHeld2;refine tk 11 ?_;refine tk 12 ?_;refine rd1 13 fun KK hK=>?_
  simp only[xa,xb,xc];go_simp;refine hK.out _ _ ?hS73 (fun hHeld2=>?rest73)
  case hS73=>exact⟨ho6.cell hHeld.1 (by have:=HD.out;omega),ho6.cell hHeld.2.1 (by have:=HD.out;omega),ho6.cell hHeld.2.2.1 (by have:=HD.out;omega),ho6.cell hHeld.2.2.2.1 (by have:=HD.out;omega),ho6.cell hHeld.2.2.2.2.1 (by have:=HD.out;omega),ho6.cell hHeld.2.2.2.2.2 (by have:=HD.out;omega)⟩
  clear hK KK;replace hHeld:=hHeld2;clear hHeld2;refine dn ?_;clear hHeld;have ho6':=HO3.out.trans ((((Out.refl 0 0 w3).drew).trans hoo).any lo hi |>.trans ((HRR.out.quiet (((Out.refl 0 0 _).drew).trans hoo)).wide (i:=11) (by omega) ho6));have HR6:=Z0 hr6;have HO6:=Z0 ho6';have HB6:=Z0 (ho6'.heap HBX.out (.inr HD.out.1));clear hoo hcl hr6 ho6 ho6' d0 d1 d2 d3 d4 d5 q0 q1 q2 q3 q4;obtain⟨d0,d1,d2,d3,d4,d5⟩:=HR6.out.cells;obtain⟨q0,q1,q2,q3,q4⟩:=V7 HB6.out;have e0:=HR6.out.words.cell HK.out.2.2;have e1:=HR6.out.words.frozen a;have ho9:∀ v,Out (s 11) (s 11+1) w6.drew (w6.drew.setCell ⟨s 11,a,none⟩ v):=fun v=>(Out.refl _ _ _).setCell (.inl ⟨Nat.le_refl _,Nat.lt_succ_self _⟩) _
  go_wp2_with fail;refine wp_region_held_drew (S:=fun w'=>w'.cell? ⟨s 14,0,none⟩=some (.slice (some ⟨s 11,0,none⟩) (64*n) cap)/\w'.cell? ⟨w.heap.size,0,none⟩=some (.int .i64 (a:Int))/\w'.cell? ⟨w.heap.size,1,none⟩=some (.int .i64 k)/\w'.cell? ⟨w.heap.size,2,none⟩=some (.int .i64 z)/\w'.cell? ⟨w.heap.size,3,none⟩=some (.int .i64 x)/\w'.cell? ⟨w.heap.size,4,none⟩=some (.int .i64 t)) (by kernel_rfl) ?hS74 (fun hHeld=>?rest74)
  case hS74=>exact⟨d0,q0,q1,q2,q3,q4⟩
  refine tk 0 ?_;refine tk 1 ?_;refine tk 2 ?_;refine tk 3 ?_;refine tk 4 ?_;refine tk 5 ?_;refine tk 6 ?_;refine tk 7 ?_;refine tk 8 ?_;refine tk 9 ?_;refine tk 10 ?_;refine tk 11 ?_;refine rd1 12 fun KK hK=>?_
  simp only[xa,xb,xc];go_simp;refine(HM.out _).mono ?_;rintro e w7 ⟨rfl,rfl⟩;refine hK.out _ _ ?hS87 (fun hHeld2=>?rest87)
  case hS87=>exact hHeld
  clear hK KK;replace hHeld:=hHeld2;clear hHeld2;refine tk 13 ?_;refine rd1 14 fun KK hK=>?_
  simp only[xa,xb,xc];go_simp;refine hK.out _ _ ?hS89 (fun hHeld2=>?rest89)
  case hS89=>exact⟨(ho9 _).cell hHeld.1 (by have:=HD.out;omega),(ho9 _).cell hHeld.2.1 (by have:=HD.out;omega),(ho9 _).cell hHeld.2.2.1 (by have:=HD.out;omega),(ho9 _).cell hHeld.2.2.2.1 (by have:=HD.out;omega),(ho9 _).cell hHeld.2.2.2.2.1 (by have:=HD.out;omega),(ho9 _).cell hHeld.2.2.2.2.2 (by have:=HD.out;omega)⟩
  clear hK KK;replace hHeld:=hHeld2;clear hHeld2;refine dn ?_;clear hHeld;go_wp2;have hp:=(HR6.out.quiet ((Out.refl 0 0 _).drew)).poke a (X9 (a:Int) k z);refine bodyPost_end (results_none Tryz.results51 _ _ _) rfl ⟨⟨_,rfl⟩,hp.1.congr ?_,((H0.out.any lo hi).trans HO6.out).trans ((((Out.refl 0 0 _).drew).any lo hi).trans ((HR6.out.quiet ((Out.refl 0 0 _).drew)).wide (i:=11) (by omega) hp.2))⟩;refine Raw.eq rfl rfl rfl ?_ rfl ?_ rfl
  ·exact hPe.out
  ·exact hRe.out
end
end Go.Proofs.YtjbbkeoolodeaabGreatDoor
