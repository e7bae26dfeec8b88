import Derived.Test.YtjgnogflgoihfaaGreatDoorP09
set_option linter.unusedSimpArgs false
set_option linter.unusedVariables false
set_option maxHeartbeats 16000000
set_option maxRecDepth 100000
namespace Go.Proofs.YtjgnogflgoihfaaGreatDoor
open Go.RowKit
section
variable {w:World} {lo hi n cap:Nat} {s:Nat->Nat} {r:Raw}
def tpF (r:Raw) (c p:Nat):Nat->Nat->Bool:=fun d=>if d=c then upd (fuR r c p) (64*p) false else r.F d
def tp4 (r:Raw) (c p:Nat):Raw:=⟨z0b r.W (64*p) 64,q2t r.S p (c:Int),tpF r c p,r.P,r.M,r.R,r.last⟩
def tpR (n:Nat) (r:Raw) (c p:Nat):Raw:={ tp4 r c p with W:=z5p n (tp4 r c p) c }
theorem q5j (h:RawAt w lo hi s n cap r) {c:Nat} (hc:c<8) :
  Kz 199 #[Pq (s 14),Iz (c:Int)] w fun e w'=>
   (match z0a r.S n 1 with
    | some p=>e=.returned (.tuple #[Iz ((64*p:Nat):Int),Vz 0 0])/\RawAt w' lo hi s n cap (tpR n r c p)
    | none=>e=.returned (.tuple #[Iz 0,Vz 20 0])/\RawAt w' lo hi s n cap r)/\Out lo hi w w':=by
 have h0:Out 0 0 w (w.alloc (Dz 0 0 46)):=(Out.refl 0 0 w).alloc _;have HZ:=Q3 (q3p w);have H0:=Q3 h0;have HK:=Q3 (q2l (h.quiet h0) c hc);obtain⟨c0,c1,c2,c3,c4,c5⟩:=(h.quiet h0).cells;have HT:Hid (hi<=w.heap.size/\4<=w.heap.size/\n<=4096):=⟨h.top,h.tab.lt,h.n2⟩
 have k2:(0:Int)<=(c:Int):=by omega
 have k3:(c:Int)<8:=by omega
 have HC:=Q3 hc;cases hf:z0a r.S n 1 with
 | none=>
  rw[hf] at HK;simp only[Option.getD_none,Option.isSome_none] at HK;have e4:((20:Int) != 0)=true:=rfl;clear h h0 hf hc;go_enter Tryz.func199,Tryz.ntmps199
  go_wp2_with (first | (go_at_call 213;refine HK.out.mono ?_;rintro e w1 ⟨rfl,hr,ho⟩;obtain⟨q4,q5,q6,q7⟩:=flt_facts (ho.heap HZ.out (.inr HT.out.1));have cD:=Q3 hr;have HO:=Q3 ho;clear hr ho));refine z6u Tryz.results199 rfl rfl rfl (J3 (HO.out.heap HZ.out (.inr HT.out.1))) ⟨⟨rfl,cD.out.kept ((Out.refl w.heap.size (w.heap.size+1) _).set2 z1 _ _) (.inl HT.out.1) (.inl HT.out.2.1)⟩,((H0.out.any lo hi).trans HO.out).set2 (.inr (Nat.le_refl _)) _ _⟩
 | some p=>
  rw[hf] at HK;simp only[Option.getD_some,Option.isSome_some,if_true] at HK;have hp:=z0v hf;have b0:(0:Int)<=(p:Int):=by omega
  have b1:(p:Int)<4096:=by have:=HT.out;omega
  have HP:Hid (p<n):=hp.1;have e4:((0:Int) != 0)=false:=rfl;obtain⟨o,cp,hsl,hol⟩:=z8x (s 11) (64*n) cap (p*64) (p*64+64) (by omega) (by have:=h.capn;omega);rw[show ((p*64:Nat):Int)=(p:Int)*64 from by omega,show ((p*64+64:Nat):Int)=(p:Int)*64+64 from by omega,show p*64+64-p*64=64 from by omega] at hsl;have HOL:Hid (o=p*64):=hol (by omega);have HA:Hid ((p:Int)*64=((64*p:Nat):Int)):=by show _=_;omega
  clear h h0 hf hp hol hc;go_enter Tryz.func199,Tryz.ntmps199
  go_wp2_with (first
   | (go_at_call 213;refine HK.out.mono ?_;rintro e w1 ⟨rfl,hr,ho⟩;have bM:=Q3 ho;obtain⟨w2,kT,lA,eH⟩:=hr.clear (a:=p*64) (k:=64) (o:=o) (cp:=cp) (by have:=HP.out;omega) (fun _=>HOL.out);have cV:=Q3 lA;have aH:=Q3 (ho.trans (hr.wide (i:=11) (by omega) eH));obtain⟨g0,g1,g2,g3,g4,g5⟩:=hr.cells;clear hr ho lA eH)
   | (simp only[kT])
   | (go_at_call 190;refine(q0n cV.out HC.out HP.out).mono ?_;rintro e w3 ⟨⟨v3,rfl⟩,hr,ho⟩;have fY:=Q3 hr;have bU:=Q3 (aH.out.trans ho);have gF:=hr.cellF HC.out;clear hr ho kT g0 g1 g2 g3 g4 g5)
   | (go_at_call 186;refine(z8o (fY.out.free c HC.out) _).mono ?_;rintro e w4 ⟨rfl,hm,ho⟩;have dY:=Q3 (fY.out.setF HC.out ho hm);have bJ:=Q3 (bU.out.trans (fY.out.wide (i:=c) (by have:=HC.out;omega) (by unfold ln;rw[if_pos (by have:=HC.out;omega)];exact ho)));clear hm ho gF)
   | (go_at_call 191;refine(q0z dY.out HC.out).mono ?_;rintro e w5 ⟨⟨v5,rfl⟩,hr,ho⟩;have eR:=Q3 hr;have bL:=Q3 (bJ.out.trans ho);obtain⟨q4,q5,q6,q7⟩:=flt_facts ((bJ.out.trans ho).heap HZ.out (.inr HT.out.1));clear hr ho))
  have hF:∀ d,(if d=c then q5c (if c=c then fuR r c p else r.F c) (64*n) ((p:Int)*64) false else if d=c then fuR r c p else r.F d)=tpF r c p d:=by
   intro d;unfold tpF;by_cases e:d=c
   ·rw[if_pos e,if_pos rfl,if_pos e,HA.out];unfold q5c;rw[if_pos (show inB (64*n) ((64*p:Nat):Int)=true from by unfold inB;simp;have:=HP.out;omega)];rfl
   ·rw[if_neg e,if_neg e,if_neg e]
  have e4:(⟨z0b r.W (p*64) 64,q2t r.S p (c:Int),fun d=>if d=c then q5c (if c=c then fuR r c p else r.F c) (64*n) ((p:Int)*64) false else if d=c then fuR r c p else r.F d,r.P,r.M,r.R,r.last⟩:Raw)=tp4 r c p:=
   Raw.eq (by rw[Nat.mul_comm p 64];rfl) rfl (funext hF) rfl rfl rfl rfl
  have h5:=eR.out;simp only[if_true] at h5 e4;have h6:RawAt w5 lo hi s n cap (tpR n r c p):=by
   unfold tpR;rw[<-e4];exact h5
  refine z6u Tryz.results199 rfl rfl rfl (J3 (bL.out.heap HZ.out (.inr HT.out.1))) ⟨⟨j6p HA.out,h6.kept ((Out.refl w.heap.size (w.heap.size+1) _).set2 z1 _ _) (.inl HT.out.1) (.inl HT.out.2.1)⟩,((H0.out.any lo hi).trans bL.out).set2 (.inr (Nat.le_refl _)) _ _⟩
theorem q2v (h:RawAt w lo hi s n cap r) {c:Nat} (hc:c<8) :
  Kz 177 #[Pq (s 14),Iz (c:Int)] w fun e w'=>
   ((nxr (r.F c) (64*n) 0 = -1/\(match z0a r.S n 1 with
    | some p=>e=.returned (.tuple #[Iz ((64*p:Nat):Int),Vz 0 0])/\RawAt w' lo hi s n cap (tpR n r c p)
    | none=>e=.returned (.tuple #[Iz 0,Vz 20 0])/\RawAt w' lo hi s n cap r)) ∨
   (∃ a:Nat,nxr (r.F c) (64*n) 0=a/\a<64*n/\r.F c a=true/\r.W a=z0e (nxr (r.F c) (64*n) (a+1))/\e=.returned (.tuple #[Iz (a:Int),Vz 0 0])/\RawAt w' lo hi s n cap { r with F:=fun d=>if d=c then upd (r.F c) a false else r.F d }) ∨
   (∃ a:Nat,nxr (r.F c) (64*n) 0=a/\a<64*n/\r.F c a=true/\r.W a ≠ z0e (nxr (r.F c) (64*n) (a+1))/\e=.returned (.tuple #[Iz 0,Vz 21 (a:Int)])/\RawAt w' lo hi s n cap r))/\Out lo hi w w':=by
 have h0:Out 0 0 w (w.alloc (Dz 0 0 46)):=(Out.refl 0 0 w).alloc _;have HZ:=Q3 (q3p w);have H0:=Q3 h0;have hq:=h.quiet h0;have HQ:=Q3 hq;have cF:=hq.cellF hc;have HX:=Q3 (z5q (hq.free c hc) 0);rw[show (0:Int).toNat=0 from rfl] at HX;have HT:Hid (hi<=w.heap.size/\4<=w.heap.size/\n<=4096):=⟨h.top,h.tab.lt,h.n2⟩
 have k2:(0:Int)<=(c:Int):=by omega
 have k3:(c:Int)<8:=by omega
 have HC:=Q3 hc;rcases U4 (r.F c) (64*n) 0 with ⟨e1,e2⟩ | ⟨a,e1,a1,a2,a3,a4⟩
 ·rw[e1] at HX;have HE:=Q3 e1;have HTP:=Q3 (fun w' (h':RawAt w' lo hi s n cap r)=>q5j h' hc);cases hf:z0a r.S n 1 with
  | none=>
   rw[hf] at HTP;clear h h0 hf hc hq e1 e2;go_enter Tryz.func177,Tryz.ntmps177
   go_wp2_with (first
    | (go_at_call 89;refine HX.out.mono ?_;rintro e w1 ⟨rfl,ho⟩;have cD:=Q3 (HQ.out.quiet ho);have bM:=Q3 (ho.any lo hi);clear ho)
    | (go_at_call 199;refine(HTP.out _ cD.out).mono ?_;rintro e w2 ⟨⟨rfl,hr⟩,ho⟩;have cV:=Q3 hr;have aH:=Q3 (bM.out.trans ho);obtain⟨q4,q5,q6,q7⟩:=flt_facts ((bM.out.trans ho).heap HZ.out (.inr HT.out.1));clear hr ho))
   refine z6u Tryz.results177 rfl rfl rfl (J3 (aH.out.heap HZ.out (.inr HT.out.1))) ⟨.inl ⟨HE.out,rfl,cV.out.kept ((Out.refl w.heap.size (w.heap.size+1) _).set2 z1 _ _) (.inl HT.out.1) (.inl HT.out.2.1)⟩,((H0.out.any lo hi).trans aH.out).set2 (.inr (Nat.le_refl _)) _ _⟩
  | some p=>
   rw[hf] at HTP;clear h h0 hf hc hq e1 e2;go_enter Tryz.func177,Tryz.ntmps177
   go_wp2_with (first
    | (go_at_call 89;refine HX.out.mono ?_;rintro e w1 ⟨rfl,ho⟩;have cD:=Q3 (HQ.out.quiet ho);have bM:=Q3 (ho.any lo hi);clear ho)
    | (go_at_call 199;refine(HTP.out _ cD.out).mono ?_;rintro e w2 ⟨⟨rfl,hr⟩,ho⟩;have cV:=Q3 hr;have aH:=Q3 (bM.out.trans ho);obtain⟨q4,q5,q6,q7⟩:=flt_facts ((bM.out.trans ho).heap HZ.out (.inr HT.out.1));clear hr ho))
   refine z6u Tryz.results177 rfl rfl rfl (J3 (aH.out.heap HZ.out (.inr HT.out.1))) ⟨.inl ⟨HE.out,j6p (by first | rfl | simp),cV.out.kept ((Out.refl w.heap.size (w.heap.size+1) _).set2 z1 _ _) (.inl HT.out.1) (.inl HT.out.2.1)⟩,((H0.out.any lo hi).trans aH.out).set2 (.inr (Nat.le_refl _)) _ _⟩
 ·rw[e1] at HX;have b0:(0:Int)<=(a:Int):=by omega
  have b1:(a:Int)<64*(n:Int):=by omega
  have b2:(a:Int)<((64*n:Nat):Int):=by omega
  have b3:((64*n:Nat):Int)<=262144:=by have:=HT.out;omega
  have HA:=Q3 (And.intro e1 (And.intro a1 a3));have HWR:Hid (IntKind.i64.wrap ((a:Int)+1)=(a:Int)+1):=by show _=_;simp[IntKind.wrap,IntKind.signed,IntKind.bits];omega
  obtain⟨z,hz⟩:∃ z,nxr (r.F c) (64*n) (a+1)=z:=⟨_,rfl⟩
  have HX2:=Q3 (fun w' (h':RawAt w' lo hi s n cap r)=>z5q (h'.free c hc) ((a:Int)+1));rw[show ((a:Int)+1).toNat=a+1 from by omega,hz] at HX2;have HZZ:=Q3 hz;by_cases hv:r.W a=z0e z
  ·have fG:(r.W a != z0e z)=false:=by simp[hv]
   have HV:=Q3 hv;clear h h0 hc hq e1 a1 a2 a3 a4 hz hv;go_enter Tryz.func177,Tryz.ntmps177
   go_wp2_with (first
    | (go_at_call 89;refine HX.out.mono ?_;rintro e w1 ⟨rfl,ho⟩;have cD:=Q3 (HQ.out.quiet ho);have bM:=Q3 (ho.any lo hi);have dF:=(HQ.out.quiet ho).cellF HC.out;obtain⟨d0,d1,d2,d3,d4,d5⟩:=(HQ.out.quiet ho).cells;have dW:=(HQ.out.quiet ho).words.cell HA.out.2.1;clear ho cF))
   refine wp_region_held_drew (S:=fun w'=>cq w' (s 14) 0=some (.slice (some ⟨s 11,0,none⟩) (64*n) cap)/\cq w' (s 11) a=some (Iz (r.W a))/\cq w' (s 14) (4+c)=some (.pointer (some ⟨s c+1,0,none⟩))) (by kernel_rfl) ?hS1 (fun aB=>?rest1)
   case hS1=>exact⟨d0,dW,dF⟩
   refine tk 0 ?_;refine tk 1 ?_;refine tk 2 ?_;refine tk 3 ?_;refine tk 4 ?_;refine tk 5 ?_;refine tk 6 ?_;refine tk 7 ?_;refine tk 8 ?_;refine tk 9 ?_;refine tk 10 ?_;refine tk 11 ?_;refine tk 12 ?_;refine tk 13 ?_;refine tk 14 ?_;refine rd1 15 fun KK hK=>?_
   go_simp;rw[HWR.out];refine(HX2.out _ (cD.out.quiet ((Out.refl 0 0 _).drew))).mono ?_;rintro e w2 ⟨rfl,mX⟩;refine hK.out _ _ ⟨mX.cell aB.1 z0,mX.cell aB.2.1 z0,mX.cell aB.2.2 z0⟩ fun aB=>?_
   clear hK KK;refine rd1 16 fun KK hK=>?_
   go_simp;refine(q7f z _).mono ?_;rintro e w3 ⟨rfl,rfl⟩;refine hK.out _ _ (aB) fun aB=>?_
   clear hK KK;refine tk 17 ?_;refine dn ?_;clear aB d0 d1 d2 d3 d4 d5 dW dF;have aH:=Q3 (bM.out.trans (((Out.refl 0 0 w1).drew).trans mX |>.any lo hi));have cV:=Q3 (cD.out.quiet (((Out.refl 0 0 w1).drew).trans mX));have gF:=cV.out.cellF HC.out;obtain⟨q4,q5,q6,q7⟩:=flt_facts (aH.out.heap HZ.out (.inr HT.out.1));clear mX
   all_goals go_wp2_with (first
    | (go_at_call 186;refine(z8o (cV.out.free c HC.out) _).mono ?_;rintro e w4 ⟨rfl,hm,ho⟩;have dY:=Q3 (cV.out.setF HC.out ho hm);have bJ:=Q3 (aH.out.trans (cV.out.wide (i:=c) (by have:=HC.out;omega) (by unfold ln;rw[if_pos (by have:=HC.out;omega)];exact ho)));obtain⟨t4,t5,t6,t7⟩:=flt_facts (bJ.out.heap HZ.out (.inr HT.out.1));clear hm ho gF q4 q5 q6 q7))
   all_goals
    have h4:RawAt w4 lo hi s n cap { r with F:=fun d=>if d=c then upd (r.F c) a false else r.F d }:=by
     refine dY.out.congr (Raw.eq rfl rfl (funext fun d=>?_) rfl rfl rfl rfl);by_cases e:d=c
     ·simp only[e,if_true];unfold q5c;rw[if_pos (show inB (64*n) (a:Int)=true from by unfold inB;simp;have:=HA.out.2.1;omega)];rfl
     ·simp only[e,if_false]
    refine z6u Tryz.results177 rfl rfl rfl (J3 (bJ.out.heap HZ.out (.inr HT.out.1))) ⟨.inr (.inl ⟨a,HA.out.1,HA.out.2.1,HA.out.2.2,by rw[HZZ.out];exact HV.out,rfl,h4.kept ((Out.refl w.heap.size (w.heap.size+1) _).set2 z1 _ _) (.inl HT.out.1) (.inl HT.out.2.1)⟩),((H0.out.any lo hi).trans bJ.out).set2 (.inr (Nat.le_refl _)) _ _⟩
  ·have fG:(r.W a != z0e z)=true:=by simp[hv]
   have HV:=Q3 hv;clear h h0 hc hq e1 a1 a2 a3 a4 hz hv;go_enter Tryz.func177,Tryz.ntmps177
   go_wp2_with (first
    | (go_at_call 89;refine HX.out.mono ?_;rintro e w1 ⟨rfl,ho⟩;have cD:=Q3 (HQ.out.quiet ho);have bM:=Q3 (ho.any lo hi);have dF:=(HQ.out.quiet ho).cellF HC.out;obtain⟨d0,d1,d2,d3,d4,d5⟩:=(HQ.out.quiet ho).cells;have dW:=(HQ.out.quiet ho).words.cell HA.out.2.1;clear ho cF))
   refine wp_region_held_drew (S:=fun w'=>cq w' (s 14) 0=some (.slice (some ⟨s 11,0,none⟩) (64*n) cap)/\cq w' (s 11) a=some (Iz (r.W a))/\cq w' (s 14) (4+c)=some (.pointer (some ⟨s c+1,0,none⟩))) (by kernel_rfl) ?hS20 (fun aB=>?rest20)
   case hS20=>exact⟨d0,dW,dF⟩
   refine tk 0 ?_;refine tk 1 ?_;refine tk 2 ?_;refine tk 3 ?_;refine tk 4 ?_;refine tk 5 ?_;refine tk 6 ?_;refine tk 7 ?_;refine tk 8 ?_;refine tk 9 ?_;refine tk 10 ?_;refine tk 11 ?_;refine tk 12 ?_;refine tk 13 ?_;refine tk 14 ?_;refine rd1 15 fun KK hK=>?_
   go_simp;rw[HWR.out];refine(HX2.out _ (cD.out.quiet ((Out.refl 0 0 _).drew))).mono ?_;rintro e w2 ⟨rfl,mX⟩;refine hK.out _ _ ⟨mX.cell aB.1 z0,mX.cell aB.2.1 z0,mX.cell aB.2.2 z0⟩ fun aB=>?_
   clear hK KK;refine rd1 16 fun KK hK=>?_
   go_simp;refine(q7f z _).mono ?_;rintro e w3 ⟨rfl,rfl⟩;refine hK.out _ _ (aB) fun aB=>?_
   clear hK KK;refine tk 17 ?_;refine dn ?_;clear aB d0 d1 d2 d3 d4 d5 dW dF;have aH:=Q3 (bM.out.trans (((Out.refl 0 0 w1).drew).trans mX |>.any lo hi));have cV:=Q3 (cD.out.quiet (((Out.refl 0 0 w1).drew).trans mX));have gF:=cV.out.cellF HC.out;obtain⟨q4,q5,q6,q7⟩:=flt_facts (aH.out.heap HZ.out (.inr HT.out.1));clear mX
   all_goals go_wp2
   all_goals
    refine z6u Tryz.results177 rfl rfl rfl (J3 (aH.out.heap HZ.out (.inr HT.out.1))) ⟨.inr (.inr ⟨a,HA.out.1,HA.out.2.1,HA.out.2.2,by rw[HZZ.out];exact HV.out,rfl,cV.out.kept ((Out.refl w.heap.size (w.heap.size+1) _).set2 z1 _ _) (.inl HT.out.1) (.inl HT.out.2.1)⟩),((H0.out.any lo hi).trans aH.out).set2 (.inr (Nat.le_refl _)) _ _⟩
end
def enR (r:Raw) (a:Nat) (k z x t:Int):Raw:=
 { r with W:=z2p (z0b r.W a (Y8 z)) a (B6 a k z),P:=upd r.P a true,M:=fun i=>if i=(a:Int) then some (k,z,x,t) else r.M i,R:=if 0<x then (fun i=>if i=x then some (a:Int) else r.R i) else r.R }
section
variable {w:World} {lo hi n cap:Nat} {s:Nat->Nat} {r:Raw}
theorem j9w (M:Int->Option Blk) (a:Int) (b:Blk):(fun y=>if y=a then some (j0t a b) else z7f M y)=z7f (fun i=>if i=a then some b else M i):=by
 funext y
 unfold z7f;by_cases e:y=a
 ·subst e;simp
 ·simp[e]
theorem j9y (R:Int->Option Int) (a:Int) (b:Int):(fun y=>if y=a then some (.int .i64 b) else j7v R y)=j7v (fun i=>if i=a then some b else R i):=by
 funext y
 unfold j7v;by_cases e:y=a
 ·subst e;simp
 ·simp[e]
theorem j4i (h:RawAt w lo hi s n cap r) {a:Nat} {k z x t:Int} (z1:1<=z) (z2:z<=1024) (hk:a+Y8 z<=64*n) (ha:a<64*n) :
  Kz 133 #[Pq (s 14),Wz (a:Int) k z x t] w fun e w'=>(∃ v,e=.returned v)/\RawAt w' lo hi s n cap (enR r a k z x t)/\Out lo hi w w':=by
 have h0:Out 0 0 w (w.alloc (bo (a:Int) k z x t)):=(Out.refl 0 0 w).alloc _;have hq:=h.quiet h0;have HQ:=Q3 hq;have H0:=Q3 h0;have HBX:Hid ((w.alloc (bo (a:Int) k z x t)).heap[w.heap.size]? = some (bo (a:Int) k z x t)):=heap_alloc_new _ _;have HD:Hid (hi<=w.heap.size/\4<=w.heap.size/\n<=4096/\(s 12<hi/\s 13<hi/\s 11<hi/\s 8+2<=hi/\s 14<hi)/\(s 14<s 12\/s 12+1<=s 14)/\(s 14<s 13\/s 13+1<=s 14)/\(s 14<s 11\/s 11+1<=s 14)/\(s 14<s 8\/s 8+2<=s 14)):=by
  have i12:=h.inn 12 (by omega);have i13:=h.inn 13 (by omega);have i11:=h.inn 11 (by omega);have i8:=h.inn 8 (by omega);have i14:=h.inn 14 (by omega);have a12:=h.apart 12 14 (by omega) (by omega) (by omega);have a13:=h.apart 13 14 (by omega) (by omega) (by omega);have a11:=h.apart 11 14 (by omega) (by omega) (by omega);have a8:=h.apart 8 14 (by omega) (by omega) (by omega);simp[ln] at i12 i13 i11 i8 i14 a12 a13 a11 a8;exact⟨h.top,h.tab.lt,h.n2,by omega,by omega,by omega,by omega,by omega⟩
 obtain⟨o,cp,hsl,hol⟩:=z8x (s 11) (64*n) cap a (a+Y8 z) (by omega) (by have:=h.capn;omega);have kO:IntKind.i64.wrap ((a:Int)+((Y8 z:Nat):Int))=((a+Y8 z:Nat):Int):=by simp[IntKind.wrap,IntKind.signed,IntKind.bits];have:=HD.out.2.2.1;omega
 rw[<-kO,show a+Y8 z-a=Y8 z from by omega] at hsl;have HK:Hid (a+Y8 z<=64*n/\(0<Y8 z->o=a)/\a<64*n):=⟨hk,(by rw[show a+Y8 z-a=Y8 z from by omega] at hol;exact hol),ha⟩
 have HRoom:=Q3 (fun w'=>j0d z z1 z2 w');have HM:=Q3 (fun w'=>q3w (a:Int) k z w');have b0:(0:Int)<=(a:Int):=by omega
 have b1:(a:Int)<64*(n:Int):=by omega
 have b2:(a:Int)<((64*n:Nat):Int):=by omega
 have b3:((64*n:Nat):Int)<=262144:=by have:=HD.out.2.2.1;omega
 obtain⟨d0,d1,d2,d3,d4,d5⟩:=hq.cells;obtain⟨q0,q1,q2,q3,q4⟩:=F0 HBX.out;have hqd:=hq.quiet ((Out.refl 0 0 _).drew);obtain⟨wM,hmu,hmM,oN⟩:=x2f Tryz.underlying136 Tryz.underlying3 hqd.objs (a:Int) (Wz (a:Int) k z x t);have HRM0:=Q3 (hqd.setM (M':=fun i=>if i=(a:Int) then some (k,z,x,t) else r.M i) oN (by rw[<-j9w];exact hmM));unfold bo at *;clear h h0 hq hqd hk ha z1 z2 kO hol hmM;go_enter Tryz.func133,Tryz.ntmps133
 go_wp2_with fail;refine wp_region_held_drew (S:=fun w'=>cq w' (s 14) 2=some (.map (some (s 12)))/\cq w' w.heap.size 0=some (Iz (a:Int))/\cq w' w.heap.size 1=some (Iz k)/\cq w' w.heap.size 2=some (Iz z)/\cq w' w.heap.size 3=some (Iz x)/\cq w' w.heap.size 4=some (Iz t)) (by kernel_rfl) ?hS1 (fun aB=>?rest1)
 case hS1=>exact⟨d2,q0,q1,q2,q3,q4⟩
 refine tk 0 ?_;refine tk 1 ?_;refine tk 2 ?_;refine tk 3 ?_;refine tk 4 ?_;refine tk 5 ?_;refine tk 6 ?_;refine rd1 7 fun KK hK=>?_
 go_simp;refine hK.out _ _ ⟨oN.cell aB.1 (by have:=HD.out;omega),oN.cell aB.2.1 (by have:=HD.out;omega),oN.cell aB.2.2.1 (by have:=HD.out;omega),oN.cell aB.2.2.2.1 (by have:=HD.out;omega),oN.cell aB.2.2.2.2.1 (by have:=HD.out;omega),oN.cell aB.2.2.2.2.2 (by have:=HD.out;omega)⟩ fun aB=>?_
 clear hK KK;refine dn ?_;clear aB;have gJ:Out lo hi (w.alloc (Ez (a:Int) k z x t 81)) wM:=(((Out.refl 0 0 _).drew).any lo hi).trans (HQ.out.quiet ((Out.refl 0 0 _).drew) |>.wide (i:=12) (by omega) oN);have bM:=Q3 gJ;have HRM:=Q3 (HRM0.out.quiet ((Out.refl 0 0 _).drew));have HBM:=Q3 (gJ.heap HBX.out (.inr HD.out.1));clear d0 d1 d2 d3 d4 d5 q0 q1 q2 q3 q4 hmu oN gJ;obtain⟨d0,d1,d2,d3,d4,d5⟩:=HRM0.out.cells;obtain⟨q0,q1,q2,q3,q4⟩:=F0 HBM.out;go_wp2_with fail;refine wp_region_held_drew (S:=fun w'=>cq w' (s 14) 3=some (.pointer (some ⟨s 8+1,0,none⟩))/\cq w' w.heap.size 0=some (Iz (a:Int))/\cq w' w.heap.size 1=some (Iz k)/\cq w' w.heap.size 2=some (Iz z)/\cq w' w.heap.size 3=some (Iz x)/\cq w' w.heap.size 4=some (Iz t)) (by kernel_rfl) ?hS10 (fun aB=>?rest10)
 case hS10=>exact⟨d3,q0,q1,q2,q3,q4⟩
 refine tk 0 ?_;refine tk 1 ?_;refine tk 2 ?_;refine tk 3 ?_;refine tk 4 ?_;refine tk 5 ?_;refine rd1 6 fun KK hK=>?_
 go_simp;refine(q8i HRM.out.places (a:Int)).mono ?_;rintro e w2 ⟨rfl,hmp,cL⟩;refine hK.out _ _ ⟨cL.cell aB.1 (by have:=HD.out;omega),cL.cell aB.2.1 (by have:=HD.out;omega),cL.cell aB.2.2.1 (by have:=HD.out;omega),cL.cell aB.2.2.2.1 (by have:=HD.out;omega),cL.cell aB.2.2.2.2.1 (by have:=HD.out;omega),cL.cell aB.2.2.2.2.2 (by have:=HD.out;omega)⟩ fun aB=>?_
 clear hK KK;refine dn ?_;clear aB;have eH:=bM.out.trans ((((Out.refl 0 0 wM).drew).any lo hi).trans (HRM.out.wide (i:=8) (by omega) cL));have cV:=Q3 (HRM.out.setP cL hmp);have aH:=Q3 eH;have jN:=Q3 (eH.heap HBX.out (.inr HD.out.1));have hPe:Hid (q5c r.P (64*n) (a:Int) true=upd r.P a true):=by
  show _=_
  unfold q5c;rw[if_pos (show inB (64*n) (a:Int)=true from by unfold inB;simp;have:=HK.out.2.2;omega)];rfl
 clear d0 d1 d2 d3 d4 d5 q0 q1 q2 q3 q4 hmp cL eH;obtain⟨d0,d1,d2,d3,d4,d5⟩:=cV.out.cells;obtain⟨q0,q1,q2,q3,q4⟩:=F0 jN.out;by_cases hx:0<x
 ·have hRe:Hid ((fun i=>if i=x then some (a:Int) else r.R i)=(if 0<x then (fun i=>if i=x then some (a:Int) else r.R i) else r.R)):=by show _=_;rw[if_pos hx]
  have hqd:=cV.out.quiet ((Out.refl 0 0 _).drew);obtain⟨w3,hmu,hmR,oM⟩:=x2f Tryz.underlying139 Tryz.underlying3 hqd.sers x (Iz (a:Int));have fY:=Q3 (hqd.setR (R':=fun i=>if i=x then some (a:Int) else r.R i) oM (by rw[<-j9y];exact hmR));have dU:=aH.out.trans ((((Out.refl 0 0 w2).drew).any lo hi).trans (hqd.wide (i:=13) (by omega) oM));have bU:=Q3 dU;have HB3:=Q3 (dU.heap HBX.out (.inr HD.out.1));clear hqd hmR dU;go_wp2_with fail;refine wp_region_held_drew (S:=fun w'=>cq w' (s 14) 12=some (.map (some (s 13)))/\cq w' w.heap.size 0=some (Iz (a:Int))/\cq w' w.heap.size 1=some (Iz k)/\cq w' w.heap.size 2=some (Iz z)/\cq w' w.heap.size 3=some (Iz x)/\cq w' w.heap.size 4=some (Iz t)) (by kernel_rfl) ?hS18 (fun aB=>?rest18)
  case hS18=>exact⟨d4,q0,q1,q2,q3,q4⟩
  refine tk 0 ?_;refine tk 1 ?_;refine tk 2 ?_;refine tk 3 ?_;refine tk 4 ?_;refine tk 5 ?_;refine tk 6 ?_;refine tk 7 ?_;refine rd1 8 fun KK hK=>?_
  go_simp;refine hK.out _ _ ⟨oM.cell aB.1 (by have:=HD.out;omega),oM.cell aB.2.1 (by have:=HD.out;omega),oM.cell aB.2.2.1 (by have:=HD.out;omega),oM.cell aB.2.2.2.1 (by have:=HD.out;omega),oM.cell aB.2.2.2.2.1 (by have:=HD.out;omega),oM.cell aB.2.2.2.2.2 (by have:=HD.out;omega)⟩ fun aB=>?_
  clear hK KK;refine dn ?_;clear aB d0 d1 d2 d3 d4 d5 q0 q1 q2 q3 q4 hmu oM;obtain⟨d0,d1,d2,d3,d4,d5⟩:=fY.out.cells;obtain⟨q0,q1,q2,q3,q4⟩:=F0 HB3.out;have pI:=fY;go_wp2_with fail;refine wp_region_held_drew (S:=fun w'=>cq w' (s 14) 0=some (.slice (some ⟨s 11,0,none⟩) (64*n) cap)/\cq w' w.heap.size 0=some (Iz (a:Int))/\cq w' w.heap.size 1=some (Iz k)/\cq w' w.heap.size 2=some (Iz z)/\cq w' w.heap.size 3=some (Iz x)/\cq w' w.heap.size 4=some (Iz t)) (by kernel_rfl) ?hS28 (fun aB=>?rest28)
  case hS28=>exact⟨d0,q0,q1,q2,q3,q4⟩
  refine tk 0 ?_;refine tk 1 ?_;refine tk 2 ?_;refine tk 3 ?_;refine tk 4 ?_;refine tk 5 ?_;refine tk 6 ?_;refine tk 7 ?_;refine tk 8 ?_;refine tk 9 ?_;refine rd1 10 fun KK hK=>?_
  go_simp;refine(HRoom.out _).mono ?_;rintro e w5 ⟨rfl,iS⟩;obtain⟨w6,kT,hr6,cZ⟩:=(pI.out.quiet (((Out.refl 0 0 _).drew).trans iS)).clear (a:=a) (k:=Y8 z) (o:=o) (cp:=cp) HK.out.1 HK.out.2.1;refine hK.out _ _ ⟨iS.cell aB.1 z0,iS.cell aB.2.1 z0,iS.cell aB.2.2.1 z0,iS.cell aB.2.2.2.1 z0,iS.cell aB.2.2.2.2.1 z0,iS.cell aB.2.2.2.2.2 z0⟩ fun aB=>?_
  clear hK KK;refine tk 11 ?_;refine tk 12 ?_;refine rd1 13 fun KK hK=>?_
  go_simp;refine hK.out _ _ ⟨cZ.cell aB.1 (by have:=HD.out;omega),cZ.cell aB.2.1 (by have:=HD.out;omega),cZ.cell aB.2.2.1 (by have:=HD.out;omega),cZ.cell aB.2.2.2.1 (by have:=HD.out;omega),cZ.cell aB.2.2.2.2.1 (by have:=HD.out;omega),cZ.cell aB.2.2.2.2.2 (by have:=HD.out;omega)⟩ fun aB=>?_
  clear hK KK;refine dn ?_;clear aB;have ho6':=bU.out.trans ((((Out.refl 0 0 w3).drew).trans iS).any lo hi |>.trans ((pI.out.quiet (((Out.refl 0 0 _).drew).trans iS)).wide (i:=11) (by omega) cZ));have HR6:=Q3 hr6;have cJ:=Q3 ho6';have HB6:=Q3 (ho6'.heap HBX.out (.inr HD.out.1));clear iS kT hr6 cZ ho6' d0 d1 d2 d3 d4 d5 q0 q1 q2 q3 q4;obtain⟨d0,d1,d2,d3,d4,d5⟩:=HR6.out.cells;obtain⟨q0,q1,q2,q3,q4⟩:=F0 HB6.out;have e0:=HR6.out.words.cell HK.out.2.2;have e1:=HR6.out.words.frozen a;have ho9:∀ v,Out (s 11) (s 11+1) w6.drew (w6.drew.setCell ⟨s 11,a,none⟩ v):=fun v=>(Out.refl _ _ _).setCell Lz _
  go_wp2_with fail;refine wp_region_held_drew (S:=fun w'=>cq w' (s 14) 0=some (.slice (some ⟨s 11,0,none⟩) (64*n) cap)/\cq w' w.heap.size 0=some (Iz (a:Int))/\cq w' w.heap.size 1=some (Iz k)/\cq w' w.heap.size 2=some (Iz z)/\cq w' w.heap.size 3=some (Iz x)/\cq w' w.heap.size 4=some (Iz t)) (by kernel_rfl) ?hS43 (fun aB=>?rest43)
  case hS43=>exact⟨d0,q0,q1,q2,q3,q4⟩
  refine tk 0 ?_;refine tk 1 ?_;refine tk 2 ?_;refine tk 3 ?_;refine tk 4 ?_;refine tk 5 ?_;refine tk 6 ?_;refine tk 7 ?_;refine tk 8 ?_;refine tk 9 ?_;refine tk 10 ?_;refine tk 11 ?_;refine rd1 12 fun KK hK=>?_
  go_simp;refine(HM.out _).mono ?_;rintro e w7 ⟨rfl,rfl⟩;refine hK.out _ _ (aB) fun aB=>?_
  clear hK KK;refine tk 13 ?_;refine rd1 14 fun KK hK=>?_
  go_simp;refine hK.out _ _ ⟨(ho9 _).cell aB.1 (by have:=HD.out;omega),(ho9 _).cell aB.2.1 (by have:=HD.out;omega),(ho9 _).cell aB.2.2.1 (by have:=HD.out;omega),(ho9 _).cell aB.2.2.2.1 (by have:=HD.out;omega),(ho9 _).cell aB.2.2.2.2.1 (by have:=HD.out;omega),(ho9 _).cell aB.2.2.2.2.2 (by have:=HD.out;omega)⟩ fun aB=>?_
  clear hK KK;refine dn ?_;clear aB;go_wp2;have hp:=(HR6.out.quiet ((Out.refl 0 0 _).drew)).poke a (B6 (a:Int) k z);refine bodyPost_end (results_none Tryz.results133 _ _ _) rfl ⟨⟨_,rfl⟩,hp.1.congr ?_,((H0.out.any lo hi).trans cJ.out).trans ((((Out.refl 0 0 _).drew).any lo hi).trans ((HR6.out.quiet ((Out.refl 0 0 _).drew)).wide (i:=11) (by omega) hp.2))⟩;refine Raw.eq rfl rfl rfl ?_ rfl ?_ rfl
  ·exact hPe.out
  ·exact hRe.out
 ·have hRe:Hid (r.R=(if 0<x then (fun i=>if i=x then some (a:Int) else r.R i) else r.R)):=by show _=_;rw[if_neg hx]
  have hx':x<=0:=by omega
  obtain⟨w3,rfl⟩:∃ w3,w3=w2:=⟨_,rfl⟩
  have bU:=aH;have pI:=cV;clear hx;go_wp2_with fail;refine wp_region_held_drew (S:=fun w'=>cq w' (s 14) 0=some (.slice (some ⟨s 11,0,none⟩) (64*n) cap)/\cq w' w.heap.size 0=some (Iz (a:Int))/\cq w' w.heap.size 1=some (Iz k)/\cq w' w.heap.size 2=some (Iz z)/\cq w' w.heap.size 3=some (Iz x)/\cq w' w.heap.size 4=some (Iz t)) (by kernel_rfl) ?hS59 (fun aB=>?rest59)
  case hS59=>exact⟨d0,q0,q1,q2,q3,q4⟩
  refine tk 0 ?_;refine tk 1 ?_;refine tk 2 ?_;refine tk 3 ?_;refine tk 4 ?_;refine tk 5 ?_;refine tk 6 ?_;refine tk 7 ?_;refine tk 8 ?_;refine tk 9 ?_;refine rd1 10 fun KK hK=>?_
  go_simp;refine(HRoom.out _).mono ?_;rintro e w5 ⟨rfl,iS⟩;obtain⟨w6,kT,hr6,cZ⟩:=(pI.out.quiet (((Out.refl 0 0 _).drew).trans iS)).clear (a:=a) (k:=Y8 z) (o:=o) (cp:=cp) HK.out.1 HK.out.2.1;refine hK.out _ _ ⟨iS.cell aB.1 z0,iS.cell aB.2.1 z0,iS.cell aB.2.2.1 z0,iS.cell aB.2.2.2.1 z0,iS.cell aB.2.2.2.2.1 z0,iS.cell aB.2.2.2.2.2 z0⟩ fun aB=>?_
  clear hK KK;refine tk 11 ?_;refine tk 12 ?_;refine rd1 13 fun KK hK=>?_
  go_simp;refine hK.out _ _ ⟨cZ.cell aB.1 (by have:=HD.out;omega),cZ.cell aB.2.1 (by have:=HD.out;omega),cZ.cell aB.2.2.1 (by have:=HD.out;omega),cZ.cell aB.2.2.2.1 (by have:=HD.out;omega),cZ.cell aB.2.2.2.2.1 (by have:=HD.out;omega),cZ.cell aB.2.2.2.2.2 (by have:=HD.out;omega)⟩ fun aB=>?_
  clear hK KK;refine dn ?_;clear aB;have ho6':=bU.out.trans ((((Out.refl 0 0 w3).drew).trans iS).any lo hi |>.trans ((pI.out.quiet (((Out.refl 0 0 _).drew).trans iS)).wide (i:=11) (by omega) cZ));have HR6:=Q3 hr6;have cJ:=Q3 ho6';have HB6:=Q3 (ho6'.heap HBX.out (.inr HD.out.1));clear iS kT hr6 cZ ho6' d0 d1 d2 d3 d4 d5 q0 q1 q2 q3 q4;obtain⟨d0,d1,d2,d3,d4,d5⟩:=HR6.out.cells;obtain⟨q0,q1,q2,q3,q4⟩:=F0 HB6.out;have e0:=HR6.out.words.cell HK.out.2.2;have e1:=HR6.out.words.frozen a;have ho9:∀ v,Out (s 11) (s 11+1) w6.drew (w6.drew.setCell ⟨s 11,a,none⟩ v):=fun v=>(Out.refl _ _ _).setCell Lz _
  go_wp2_with fail;refine wp_region_held_drew (S:=fun w'=>cq w' (s 14) 0=some (.slice (some ⟨s 11,0,none⟩) (64*n) cap)/\cq w' w.heap.size 0=some (Iz (a:Int))/\cq w' w.heap.size 1=some (Iz k)/\cq w' w.heap.size 2=some (Iz z)/\cq w' w.heap.size 3=some (Iz x)/\cq w' w.heap.size 4=some (Iz t)) (by kernel_rfl) ?hS74 (fun aB=>?rest74)
  case hS74=>exact⟨d0,q0,q1,q2,q3,q4⟩
  refine tk 0 ?_;refine tk 1 ?_;refine tk 2 ?_;refine tk 3 ?_;refine tk 4 ?_;refine tk 5 ?_;refine tk 6 ?_;refine tk 7 ?_;refine tk 8 ?_;refine tk 9 ?_;refine tk 10 ?_;refine tk 11 ?_;refine rd1 12 fun KK hK=>?_
  go_simp;refine(HM.out _).mono ?_;rintro e w7 ⟨rfl,rfl⟩;refine hK.out _ _ (aB) fun aB=>?_
  clear hK KK;refine tk 13 ?_;refine rd1 14 fun KK hK=>?_
  go_simp;refine hK.out _ _ ⟨(ho9 _).cell aB.1 (by have:=HD.out;omega),(ho9 _).cell aB.2.1 (by have:=HD.out;omega),(ho9 _).cell aB.2.2.1 (by have:=HD.out;omega),(ho9 _).cell aB.2.2.2.1 (by have:=HD.out;omega),(ho9 _).cell aB.2.2.2.2.1 (by have:=HD.out;omega),(ho9 _).cell aB.2.2.2.2.2 (by have:=HD.out;omega)⟩ fun aB=>?_
  clear hK KK;refine dn ?_;clear aB;go_wp2;have hp:=(HR6.out.quiet ((Out.refl 0 0 _).drew)).poke a (B6 (a:Int) k z);refine bodyPost_end (results_none Tryz.results133 _ _ _) rfl ⟨⟨_,rfl⟩,hp.1.congr ?_,((H0.out.any lo hi).trans cJ.out).trans ((((Out.refl 0 0 _).drew).any lo hi).trans ((HR6.out.quiet ((Out.refl 0 0 _).drew)).wide (i:=11) (by omega) hp.2))⟩;refine Raw.eq rfl rfl rfl ?_ rfl ?_ rfl
  ·exact hPe.out
  ·exact hRe.out
end
def TkB (lo hi:Nat) (s:Nat->Nat) (n cap:Nat) (r:Raw) (c:Nat) (v e1 e2:Int) (w':World):Prop:=
 (nxr (r.F c) (64*n) 0 = -1/\∃ p,z0a r.S n 1=some p/\v=((64*p:Nat):Int)/\e1=0/\e2=0/\RawAt w' lo hi s n cap (tpR n r c p)) ∨
 (nxr (r.F c) (64*n) 0 = -1/\z0a r.S n 1=none/\v=0/\e1=20/\e2=0/\RawAt w' lo hi s n cap r) ∨
 (∃ a:Nat,nxr (r.F c) (64*n) 0=a/\a<64*n/\r.F c a=true/\r.W a=z0e (nxr (r.F c) (64*n) (a+1))/\v=(a:Int)/\e1=0/\e2=0/\RawAt w' lo hi s n cap { r with F:=fun d=>if d=c then upd (r.F c) a false else r.F d }) ∨
 (∃ a:Nat,nxr (r.F c) (64*n) 0=a/\a<64*n/\r.F c a=true/\r.W a ≠ z0e (nxr (r.F c) (64*n) (a+1))/\v=0/\e1=21/\e2=(a:Int)/\RawAt w' lo hi s n cap r)
def TkR (lo hi:Nat) (s:Nat->Nat) (n cap:Nat) (r:Raw) (k:Nat) (v e1 e2:Int) (w':World):Prop:=
 (∃ p,z0a r.S n k=some p/\v=((64*p:Nat):Int)/\e1=0/\e2=0/\RawAt w' lo hi s n cap { r with S:=setR r.S p k })\/(z0a r.S n k=none/\v=0/\e1=20/\e2=0/\RawAt w' lo hi s n cap r)
section
variable {w w':World} {lo hi n cap:Nat} {s:Nat->Nat} {r:Raw}
theorem TkB.kept {c x y:Nat} {v e1 e2:Int} (h:TkB lo hi s n cap r c v e1 e2 w) (o:Out x y w w') (hd:hi<=x) (hg:4<=x):TkB lo hi s n cap r c v e1 e2 w':=by
 rcases h with ⟨h1,p,h2,h3,h4,h5,h6⟩ | ⟨h1,h2,h3,h4,h5,h6⟩ | ⟨a,h1,h2,h3,h4,h5,h6,h7,h8⟩ | ⟨a,h1,h2,h3,h4,h5,h6,h7,h8⟩
 ·exact .inl ⟨h1,p,h2,h3,h4,h5,h6.kept o (.inl hd) (.inl hg)⟩
 ·exact .inr (.inl ⟨h1,h2,h3,h4,h5,h6.kept o (.inl hd) (.inl hg)⟩)
 ·exact .inr (.inr (.inl ⟨a,h1,h2,h3,h4,h5,h6,h7,h8.kept o (.inl hd) (.inl hg)⟩))
 ·exact .inr (.inr (.inr ⟨a,h1,h2,h3,h4,h5,h6,h7,h8.kept o (.inl hd) (.inl hg)⟩))
theorem TkR.kept {k x y:Nat} {v e1 e2:Int} (h:TkR lo hi s n cap r k v e1 e2 w) (o:Out x y w w') (hd:hi<=x) (hg:4<=x):TkR lo hi s n cap r k v e1 e2 w':=by
 rcases h with ⟨p,h2,h3,h4,h5,h6⟩ | ⟨h2,h3,h4,h5,h6⟩
 ·exact .inl ⟨p,h2,h3,h4,h5,h6.kept o (.inl hd) (.inl hg)⟩
 ·exact .inr ⟨h2,h3,h4,h5,h6.kept o (.inl hd) (.inl hg)⟩
theorem q0b (h:RawAt w lo hi s n cap r) {c:Nat} (hc:c<8) :
  Calls Tryz.prog 177 #[.pointer (some ⟨s 14,0,none⟩),.int .i64 (c:Int)] w fun e w'=>∃ v e1 e2,e=.returned (.tuple #[.int .i64 v,.agg #[.int .i64 e1,.int .i64 e2]])/\TkB lo hi s n cap r c v e1 e2 w'/\Out lo hi w w':=by
 refine(q2v h hc).mono ?_;rintro e w' ⟨⟨h1,h2⟩ | ⟨a,h1,h2,h3,h4,rfl,h6⟩ | ⟨a,h1,h2,h3,h4,rfl,h6⟩,ho⟩
 ·cases hf:z0a r.S n 1 with
  | none=>
   rw[hf] at h2;obtain⟨rfl,h3⟩:=h2;exact⟨_,_,_,rfl,.inr (.inl ⟨h1,hf,rfl,rfl,rfl,h3⟩),ho⟩
  | some p=>
   rw[hf] at h2;obtain⟨rfl,h3⟩:=h2;exact⟨_,_,_,rfl,.inl ⟨h1,p,hf,rfl,rfl,rfl,h3⟩,ho⟩
 ·exact⟨_,_,_,rfl,.inr (.inr (.inl ⟨a,h1,h2,h3,h4,rfl,rfl,rfl,h6⟩)),ho⟩
 ·exact⟨_,_,_,rfl,.inr (.inr (.inr ⟨a,h1,h2,h3,h4,rfl,rfl,rfl,h6⟩)),ho⟩
theorem q5m (h:RawAt w lo hi s n cap r) (k:Nat) (h1:1<=k) (h2:k<=16) :
  Calls Tryz.prog 176 #[.pointer (some ⟨s 14,0,none⟩),.int .i64 (k:Int)] w fun e w'=>∃ v e1 e2,e=.returned (.tuple #[.int .i64 v,.agg #[.int .i64 e1,.int .i64 e2]])/\TkR lo hi s n cap r k v e1 e2 w'/\Out lo hi w w':=by
 refine(q2u h k h1 h2).mono ?_;rintro e w' ⟨h2,ho⟩;cases hf:z0a r.S n k with
 | none=>
  rw[hf] at h2;obtain⟨rfl,h3⟩:=h2;exact⟨_,_,_,rfl,.inr ⟨hf,rfl,rfl,rfl,h3⟩,ho⟩
 | some p=>
  rw[hf] at h2;obtain⟨rfl,h3⟩:=h2;exact⟨_,_,_,rfl,.inl ⟨p,hf,rfl,rfl,rfl,h3⟩,ho⟩
def TkS (lo hi:Nat) (s:Nat->Nat) (n cap:Nat) (r:Raw) (z:Int) (v e1 e2:Int) (w':World):Prop:=
 (32<z/\TkR lo hi s n cap r ((z+63) / 64).toNat v e1 e2 w')\/(z<=32/\TkB lo hi s n cap r (ofV z).toNat v e1 e2 w')
theorem x1e (h:RawAt w lo hi s n cap r) {z:Int} (z1:1<=z) (z2:z<=1024) :
  Kz 132 #[Pq (s 14),Iz z] w fun e w'=>∃ v e1 e2,e=.returned (.tuple #[Iz v,Vz e1 e2])/\TkS lo hi s n cap r z v e1 e2 w'/\Out lo hi w w':=by
 have h0:Out 0 0 w (w.alloc (Dz 0 0 46)):=(Out.refl 0 0 w).alloc _;have HZ:=Q3 (q3p w);have H0:=Q3 h0;have HQ:=Q3 (fun w' (o:Out 0 0 w w')=>h.quiet o);have HT:Hid (hi<=w.heap.size/\4<=w.heap.size/\n<=4096):=⟨h.top,h.tab.lt,h.n2⟩
 have HP:=Q3 (z0q (z9c z (w.alloc (Dz 0 0 46))) (Out.refl 0 0 _));by_cases hz:32<z
 ·obtain⟨k1,k2,k3⟩:=q4w hz z2;obtain⟨k,hk⟩:∃ k,((z+63) / 64).toNat=k:=⟨_,rfl⟩
  rw[hk] at k1 k2 k3;have hpz:B5 z=(k:Int):=by unfold B5;rw[if_pos ⟨hz,z2⟩];omega
  rw[hpz] at HP;have HR:=Q3 (fun w' (o:Out 0 0 w w')=>q5m (h.quiet o) k k1 k2);have b0:(0:Int)<(k:Int):=by omega
  have HE:Hid (32<z/\((z+63) / 64).toNat=k):=⟨hz,hk⟩
  clear h h0 hz hk k3 hpz z1 z2 k1 k2;go_enter Tryz.func132,Tryz.ntmps132
  go_wp2_with (first
   | (go_at_call 175;refine HP.out.mono ?_;rintro e w1 ⟨rfl,ho⟩;have bM:=Q3 (H0.out.trans ho);have HB1:=Q3 (ho.heap HZ.out z0);clear ho)
   | (go_at_call 176;refine(HR.out _ bM.out).mono ?_;rintro e w2 ⟨v,e1,e2,rfl,ht,ho⟩;have HT2:=Q3 ht;have aH:=Q3 ((bM.out.any lo hi).trans ho);obtain⟨q4,q5,q6,q7⟩:=flt_facts (ho.heap HB1.out (.inr HT.out.1));have jN:=Q3 (ho.heap HB1.out (.inr HT.out.1));clear ht ho))
  refine z6u Tryz.results132 rfl rfl rfl (J3 jN.out) ⟨v,e1,e2,rfl,.inl ⟨HE.out.1,by rw[HE.out.2];exact HT2.out.kept ((Out.refl w.heap.size (w.heap.size+1) _).set2 Lz _ _) HT.out.1 HT.out.2.1⟩,aH.out.set2 (.inr (Nat.le_refl _)) _ _⟩
 ·have hz':z<=32:=by omega
  obtain⟨c0,c7,_⟩:=H7 z1 hz';obtain⟨c,hc⟩:∃ c:Nat,ofV z=c:=⟨(ofV z).toNat,by omega⟩
  have hpz:B5 z=0:=(z9k z1 hz').2;rw[hpz] at HP;have HF:=Q3 (fun w' (o:Out 0 0 w w')=>z0q (q9s z w') o);rw[hc] at HF;have HR:=Q3 (fun w' (o:Out 0 0 w w')=>q0b (h.quiet o) (c:=c) (by omega));have HE:Hid (z<=32/\(ofV z).toNat=c):=⟨hz',by omega⟩
  have eJ:=Q3 (fun w'=>z0q (q9s z w') (Out.refl 0 0 w'));rw[hc] at eJ;clear h h0 hz hz' hpz z1 z2 c0 c7 hc;go_enter Tryz.func132,Tryz.ntmps132
  go_wp2_with (first
   | (go_at_call 175;refine HP.out.mono ?_;rintro e w1 ⟨rfl,ho⟩;have bM:=Q3 (H0.out.trans ho);have HB1:=Q3 (ho.heap HZ.out z0);clear ho)
   | (go_at_call 178;refine(eJ.out _).mono ?_;rintro e w3 ⟨rfl,ho⟩;have bU:=Q3 (bM.out.trans ho);have HB3:=Q3 (ho.heap HB1.out z0);clear ho)
   | (go_at_call 177;refine(HR.out _ bU.out).mono ?_;rintro e w2 ⟨v,e1,e2,rfl,ht,ho⟩;have HT2:=Q3 ht;have aH:=Q3 ((bU.out.any lo hi).trans ho);obtain⟨q4,q5,q6,q7⟩:=flt_facts (ho.heap HB3.out (.inr HT.out.1));have jN:=Q3 (ho.heap HB3.out (.inr HT.out.1));clear ht ho))
  refine z6u Tryz.results132 rfl rfl rfl (J3 jN.out) ⟨v,e1,e2,rfl,.inr ⟨HE.out.1,by rw[HE.out.2];exact HT2.out.kept ((Out.refl w.heap.size (w.heap.size+1) _).set2 Lz _ _) HT.out.1 HT.out.2.1⟩,aH.out.set2 (.inr (Nat.le_refl _)) _ _⟩
theorem j1t (h:RawAt w lo hi s n cap r) (k:Int) (hl:r.last<4611686018427387904) (hl0:0<=r.last) :
  Kz 134 #[Pq (s 14),Iz k] w fun e w'=>e=.returned (Iz (if q2d k then r.last+1 else 0))/\RawAt w' lo hi s n cap { r with last:=if q2d k then r.last+1 else r.last }/\Out lo hi w w':=by
 have HN:=Q3 (fun w'=>q4d k w');obtain⟨c0,c1,c2,c3,c4,c5⟩:=h.cells;have f5:=h.cellL;have HS:=Q3 (h.setL (r.last+1));have HW:=Q3 (h.wide (i:=14) (by omega) HS.out.2);have HR:=Q3 h;cases hb:q2d k with
 | true=>
  have e:(decide (1<=k) && decide (k<=11))=true:=hb;rw[e] at HN;simp only[if_true];clear h hb e;go_enter Tryz.func134,Tryz.ntmps134
  go_wp2_with (first | (go_at_call 181;refine Q4 (HN.out _) ?_));go_ret;exact⟨rfl,HS.out.1,HW.out⟩
 | false=>
  have e:(decide (1<=k) && decide (k<=11))=false:=hb;rw[e] at HN;simp only[Bool.false_eq_true,if_false];clear h hb e;go_enter Tryz.func134,Tryz.ntmps134
  go_wp2_with (first | (go_at_call 181;refine Q4 (HN.out _) ?_));go_ret;exact⟨rfl,HR.out,Out.refl _ _ _⟩
end
section
variable {n a:Nat} {st:Sp} {aR:Bool} {kd z t:Int}
theorem z9q:(F9 n st a aR kd z t).O=H8 st.O a (kd,z,Y0 st kd,t):=rfl
theorem q7l (hf:B7 kd z=true) (ha:a<64*n):upd (ob n st) a true=ob n (F9 n st a aR kd z t):=by
 have hk:=U3 hf;have hb:Y6 (kd,z,Y0 st kd,t)=true:=by unfold Y6;simp;omega
 funext i
 unfold upd ob;rw[z9q,q9g];by_cases e:i=a
 ·subst e;rw[if_pos rfl,if_pos rfl,hb];simp[ha]
 ·rw[if_neg e,if_neg e]
theorem q2e (hf:B7 kd z=true):(fun i=>if i=(a:Int) then some (kd,z,Y0 st kd,t) else obM st i)=obM (F9 n st a aR kd z t):=by
 have hk:=U3 hf;have hb:Y6 (kd,z,Y0 st kd,t)=true:=by unfold Y6;simp;omega
 funext i
 unfold obM;rw[z9q,q9g];by_cases e:i=(a:Int)
 ·subst e;rw[if_pos rfl,Int.toNat_natCast,if_pos rfl,if_pos ⟨by omega,hb⟩];unfold H8;rw[if_pos rfl]
 ·rw[if_neg e];by_cases h0:0<=i
  ·have e2:i.toNat ≠ a:=by omega
   rw[if_neg e2];unfold H8;rw[if_neg e2]
  ·rw[if_neg (by omega),if_neg (by omega)]
theorem z9l (hi:Inv n st) (hf:B7 kd z=true) (ha:a<64*n) (iJ:Y6 (st.O a)=false) :
  (if 0<Y0 st kd then (fun i=>if i=Y0 st kd then some (a:Int) else q5b n st i) else q5b n st)=q5b n (F9 n st a aR kd z t):=by
 have hk:=U3 hf;have hb:Y6 (kd,z,Y0 st kd,t)=true:=by unfold Y6;simp;omega
 have other:∀ x:Int,1<=x->x ≠ Y0 st kd->q5b n (F9 n st a aR kd z t) x=q5b n st x:=by
  intro x x1 x2;unfold q5b q4z;rw[if_pos x1,if_pos x1];congr 1
  congr 1
  refine congrArg (fun f=>List.find? f (List.range (64*n))) (funext fun i=>?_);rw[z9q];by_cases e:i=a
  ·subst e;rw[iJ];unfold H8;rw[if_pos rfl,hb];have:((kd,z,Y0 st kd,t):Blk).2.2.1=Y0 st kd:=rfl;rw[this,beq_eq_false_iff_ne.mpr (fun h=>x2 h.symm)];rfl
  ·unfold H8;rw[if_neg e]
 have low:∀ x:Int,x<1->∀ q:Sp,q5b n q x=none:=by
  intro x hx q;unfold q5b q4z;rw[if_neg (by omega)];rfl
 funext x
 by_cases hn:q2d kd=true
 ·have hs:Y0 st kd=st.last+1:=by unfold Y0;rw[if_pos hn]
  have h0:=hi.last0;rw[if_pos (by omega)];by_cases e:x=Y0 st kd
  ·rw[if_pos e];unfold q5b q4z;rw[if_pos (by omega)];rw[z3z (p:=a) ha]
   ·rfl
   ·rw[z9q];unfold H8;rw[if_pos rfl,hb,e];simp
   ·intro q hq;rw[z9q];unfold H8;rw[if_neg (by omega)];cases hq2:Y6 (st.O q) with
    | false=>rfl
    | true=>
     have:=hi.ser q hq2;rw[Bool.true_and,beq_eq_false_iff_ne];intro e2;cases hn2:q2d (st.O q).1 with
     | true=>have:=(this.1 hn2).2;omega
     | false=>have:=this.2 hn2;omega
  ·rw[if_neg e];by_cases x1:1<=x
   ·exact(other x x1 e).symm
   ·rw[low x (by omega),low x (by omega)]
 ·have hs:Y0 st kd=0:=by unfold Y0;rw[if_neg hn]
  rw[if_neg (by omega)];by_cases x1:1<=x
  ·exact(other x x1 (by omega)).symm
  ·rw[low x (by omega),low x (by omega)]
def x5t (r:Raw) (st:Sp) (kd:Int):Raw:={ r with last:=if q2d kd then st.last+1 else st.last }
theorem x5k {p:Nat} (hi:Inv n st) (hf:B7 kd z=true) (h32:32<z) (hr:z0a st.S n ((z+63) / 64).toNat=some p) :
  enR (x5t { Q6 n st with S:=setR st.S p ((z+63) / 64).toNat } st kd) (64*p) kd z (Y0 st kd) t=Q6 n (F9 n st (64*p) false kd z t):=by
 obtain⟨h1,h2,h3,h4⟩:=q2y (t:=t) hi hf h32 hr;have hp:=z0v hr;refine Raw.eq rfl ?_ ?_ (q7l hf (by omega)) (q2e hf) (z9l hi hf (by omega) h3) rfl
 ·show setR st.S p _=z0f st (64*p) false z
  unfold z0f;rw[if_pos h32,show 64*p / 64=p from by omega]
 ·funext c
  exact(h2 (c:Int)).symm
theorem j7k (hi:Inv n st) (hf:B7 kd z=true) (h32:z<=32) (ha:fr n st (ofV z) a=true) {c:Nat} (hc:ofV z=c) :
  enR (x5t { Q6 n st with F:=fun d=>if d=c then upd (fr n st (c:Int)) a false else fr n st (d:Int) } st kd) a kd z (Y0 st kd) t=Q6 n (F9 n st a false kd z t):=by
 obtain⟨h1,h2,h3⟩:=z6y (t:=t) hi hf h32 ha;obtain⟨f1,f2,f3,f4⟩:=fr_iff.1 ha;refine Raw.eq rfl ?_ ?_ (q7l hf f1) (q2e hf) (z9l hi hf f1 f4) rfl
 ·show st.S=z0f st a false z
  unfold z0f;rw[if_neg (by omega)];rfl
 ·funext d
  show (if d=c then upd (fr n st (c:Int)) a false else fr n st (d:Int))=fr n (F9 n st a false kd z t) (d:Int)
  rw[h2];by_cases e:d=c
  ·rw[if_pos e,e]
  ·rw[if_neg e];funext i
   unfold upd;by_cases e2:i=a
   ·rw[if_pos e2,e2];exact h3 _ (by omega)
   ·rw[if_neg e2]
theorem j7l {p:Nat} (hi:Inv n st) (hf:B7 kd z=true) (h32:z<=32) (hr:z0a st.S n 1=some p) {c:Nat} (hc:ofV z=c) (hc8:c<8) :
  enR (x5t (tpR n (Q6 n st) c p) st kd) (64*p) kd z (Y0 st kd) t=Q6 n (F9 n st (64*p) true kd z t):=by
 obtain⟨h1,h2,h3,h4,h5⟩:=z6z (t:=t) hi hf h32 hr;have hF:∀ d:Nat,tpF (Q6 n st) c p d=fr n (F9 n st (64*p) true kd z t) (d:Int):=by
  intro d;funext i
  rw[h2,hc];unfold tpF;by_cases e:i / 64=p
  ·rw[if_pos e];have ez:∀ q:Int,fr n st q i=false:=by
    intro q;cases hh:fr n st q i with
    | false=>rfl
    | true=>
     have:=(fr_iff.1 hh).2.1;rw[e,h5] at this;simp at this
   by_cases e2:d=c
   ·rw[if_pos e2,e2];unfold upd fuR
    show (if i=64*p then false else (fr n st (c:Int) i || (decide (i / 64=p) && F6 (c:Int) (i % 64) && !ob n st i)))=_
    have eo:ob n st i=false:=by rw[q4g hi];exact h3 i e
    rw[ez,eo];by_cases e3:i=64*p
    ·rw[if_pos e3];simp[e3]
    ·rw[if_neg e3];simp[e3,e]
   ·rw[if_neg e2]
    show fr n st (d:Int) i=_
    rw[ez,show decide ((d:Int)=(c:Int))=false from by simp;omega];rfl
  ·rw[if_neg e];by_cases e2:d=c
   ·rw[if_pos e2,e2];unfold upd fuR;rw[if_neg (by omega)]
    show (fr n st (c:Int) i || (decide (i / 64=p) && F6 (c:Int) (i % 64) && !ob n st i))=_
    simp[e]
   ·rw[if_neg e2];rfl
 refine Raw.eq ?_ ?_ (funext hF) (q7l hf (by omega)) (q2e hf) (z9l hi hf (by omega) (h3 _ (by omega))) rfl
 ·show z2p (z0b (z5p n (tp4 (Q6 n st) c p) c) (64*p) (Y8 z)) (64*p) (B6 ((64*p:Nat):Int) kd z)=(F9 n st (64*p) true kd z t).W
  have e1:z5p n (tp4 (Q6 n st) c p) c=q1z n ⟨z0b st.W (64*p) 64,z0f st (64*p) true z,H8 st.O (64*p) (kd,z,Y0 st kd,t),0⟩ (ofV z):=by
   have e2:(tp4 (Q6 n st) c p).F c=fr n ⟨z0b st.W (64*p) 64,z0f st (64*p) true z,H8 st.O (64*p) (kd,z,Y0 st kd,t),0⟩ (ofV z):=by
    rw[hc];exact hF c
   funext i
   unfold z5p q1z nf;rw[e2];rfl
  rw[e1];rfl
 ·show q2t st.S p (c:Int)=z0f st (64*p) true z
  unfold z0f;rw[if_neg (by omega),if_pos rfl,show 64*p / 64=p from by omega,hc]
end
theorem j7m {lo bQ n cap:Nat} {s:Nat->Nat} {st:Sp} {kd z t v e1 e2:Int} {w':World} (hi:Inv n st) (hf:B7 kd z=true) (h:TkS lo bQ s n cap (Q6 n st) z v e1 e2 w') :
  (e1 ≠ 0/\v=0/\RawAt w' lo bQ s n cap (Q6 n st)/\alF n st kd z t=(0,e1,e2,st)) ∨
  (e1=0/\e2=0/\∃ (a:Nat) (r1:Raw) (st':Sp),v=(a:Int)/\RawAt w' lo bQ s n cap r1/\r1.last=st.last/\a+Y8 z<=64*n/\a<64*n/\alF n st kd z t=((a:Int),0,0,st')/\enR (x5t r1 st kd) a kd z (Y0 st kd) t=Q6 n st'/\Inv n st'):=by
 have hz:=U3 hf;unfold alF;rw[if_pos hf];rcases h with ⟨h32,h⟩ | ⟨h32,h⟩
 ·have oL:z0n n st z=(z0a st.S n ((z+63) / 64).toNat).map fun p=>(64*p,false):=by unfold z0n;rw[if_pos h32]
  rw[oL];rcases h with ⟨p,h2,h3,h4,h5,h6⟩ | ⟨h2,h3,h4,h5,h6⟩
  ·have iD:z0a st.S n ((z+63) / 64).toNat=some p:=h2;obtain⟨t1,t2,t3,t4⟩:=q2y (t:=t) hi hf h32 iD;obtain⟨k1,k2,k3⟩:=q4w h32 hz.2.2.2;right
   refine⟨h4,h5,64*p,_,F9 n st (64*p) false kd z t,h3,h6,rfl,?_,?_,?_,x5k hi hf h32 iD,t1⟩
   ·unfold Y8;rw[if_pos h32];omega
   ·omega
   ·rw[iD];simp only[Option.map_some];rw[if_neg (by omega)]
  ·have iD:z0a st.S n ((z+63) / 64).toNat=none:=h2;left
   rw[iD];exact⟨by omega,h3,h6,by rw[h4,h5];rfl⟩
 ·obtain⟨c0,c7,cw⟩:=H7 hz.2.2.1 h32;obtain⟨c,hc⟩:∃ c:Nat,ofV z=c:=⟨(ofV z).toNat,by omega⟩
  rw[show (ofV z).toNat=c from by omega] at h;have lU:Y8 z=wN (c:Int):=by unfold Y8;rw[if_neg (by omega),hc]
  have hw:=q1a (c:=(c:Int)) (by omega) (by omega);have hFc:(Q6 n st).F c=fr n st (ofV z):=by rw[hc];rfl
  have oL:z0n n st z=if 0<=nf n st (ofV z) 0 then some ((nf n st (ofV z) 0).toNat,false) else (z0a st.S n 1).map fun p=>(64*p,true):=by unfold z0n;rw[if_neg (by omega)]
  rw[oL];have hnf:nf n st (ofV z) 0=nxr ((Q6 n st).F c) (64*n) 0:=by rw[hFc];rfl
  rcases h with ⟨h1,p,h2,h3,h4,h5,h6⟩ | ⟨h1,h2,h3,h4,h5,h6⟩ | ⟨a,h1,h2,h3,h4,h5,h6,h7,h8⟩ | ⟨a,h1,h2,h3,h4,h5,h6,h7,h8⟩
  ·have iD:z0a st.S n 1=some p:=h2;obtain⟨t1,t2,t3,t4,t5⟩:=z6z (t:=t) hi hf h32 iD;right
   refine⟨h4,h5,64*p,_,F9 n st (64*p) true kd z t,h3,h6,rfl,by omega,by omega,?_,j7l hi hf h32 iD hc (by omega),t1⟩;rw[hnf,h1,if_neg (by omega),iD];simp only[Option.map_some];rw[if_neg (by simp)]
  ·have iD:z0a st.S n 1=none:=h2;left
   refine⟨by omega,h3,h6,?_⟩;rw[hnf,h1,if_neg (by omega),iD,h4,h5];rfl
  ·rw[hFc] at h3;obtain⟨t1,t2,t3⟩:=z6y (t:=t) hi hf h32 h3;have gT:=(fr_iff.1 h3).2.2.1;unfold F6 at gT;rw[hc] at gT;simp at gT;right
   refine⟨h6,h7,a,_,F9 n st a false kd z t,h5,h8,rfl,by omega,h2,?_,j7k hi hf h32 h3 hc,t1⟩;rw[hnf,h1,if_pos (by omega)];simp only[Int.toNat_natCast];rw[if_neg];rintro⟨_,_,fG⟩;apply fG;unfold nf;rw[<-hFc];exact h4
  ·left
   refine⟨by omega,h5,h8,?_⟩;rw[hnf,h1,if_pos (by omega)];simp only[Int.toNat_natCast];rw[if_pos,h6,h7];refine⟨h32,by simp,?_⟩;unfold nf;rw[<-hFc];exact h4
section
variable {w:World} {lo hi n cap:Nat} {s:Nat->Nat} {st:Sp}
theorem z8j (h:SpAt w lo hi s n cap st) (k z t:Int) (z1:-9223372036854775808<=z) (z2:z<=9223372036854775807) (hl:st.last<4611686018427387904) :
  Kz 80 #[Pq (s 14),Iz k,Iz z,Iz t] w fun e w'=>
   e=.returned (.tuple #[Iz (alF n st k z t).1,.agg #[Iz (alF n st k z t).2.1,Iz (alF n st k z t).2.2.1]])/\SpAt w' lo hi s n cap (alF n st k z t).2.2.2/\Out lo hi w w':=by
 obtain⟨hr,bQ⟩:=h;have h0:Out 0 0 w (w.alloc (Dz 0 0 46)):=(Out.refl 0 0 w).alloc _;have HZ:=Q3 (q3p w);have H0:=Q3 h0;have HQ:=Q3 (hr.quiet h0);have HT:Hid (hi<=w.heap.size/\4<=w.heap.size/\n<=4096):=⟨hr.top,hr.tab.lt,hr.n2⟩
 have HF:=Q3 (fun w' (hT:Tab w')=>q1u k z hT z1 z2);have HI:=Q3 bQ;have HQ2:=Q3 (hr.quiet ((Out.refl 0 0 w).alloc (Dz 24 0 46)));have HL:=Q3 (And.intro hl bQ.last0);cases hf:B7 k z with
 | false=>
  have ha:alF n st k z t=(0,24,0,st):=by unfold alF;rw[hf];rfl
  rw[hf] at HF;rw[ha];clear hr h0 hf ha bQ hl z1 z2;go_enter Tryz.func80,Tryz.ntmps80
  go_wp2_with (first
   | (go_at_call 101;refine Q4 (HF.out _ HQ.out.tab) ?_))
  refine z6u Tryz.results80 rfl rfl rfl (heap_alloc_new _ _) ⟨rfl,⟨HQ2.out,HI.out⟩,(((Out.refl 0 0 w).alloc _).any lo hi)⟩
 | true=>
  rw[hf] at HF;have hz:=U3 hf;have HTk:=Q3 (x1e (hr.quiet h0) (z:=z) hz.2.2.1 hz.2.2.2);have HFt:=Q3 hf;clear hr h0 hf bQ hl z1 z2 hz;go_enter Tryz.func80,Tryz.ntmps80
  go_wp2_with (first
   | (go_at_call 101;refine Q4 (HF.out _ HQ.out.tab) ?_)
   | (go_at_call 85;refine Q4 (z2i _ _) ?_))
  refine HTk.out.mono ?_;rintro e w1 ⟨v,e1,e2,rfl,ht,ho⟩;have bM:=Q3 (ho.alloc (Dz e1 e2 46));obtain⟨q4,q5,q6,q7⟩:=flt_facts (bM.out.heap HZ.out (.inr HT.out.1));rcases j7m (t:=t) HI.out HFt.out ht with ⟨fG,rfl,iR,fU⟩ | ⟨rfl,rfl,a,r1,st',rfl,iR,hl1,ha1,ha2,fU,htie,hinv⟩
  ·have HAL:=Q3 fU;have hb:(e1 != 0)=true:=by simp[fG]
   have cD:=Q3 (iR.quiet ((Out.refl 0 0 w1).alloc (Dz e1 e2 46)));have qa:=flt_facts (heap_alloc_new w1 (Dz e1 e2 46));obtain⟨t4,t5,t6,t7⟩:=qa;have n1:w1.heap.size ≠ w.heap.size:=by have:=ho.size;simp at this;omega
   have n2:=Ne.symm n1;clear ht ho iR fU fG HTk;go_wp2_with fail;go_region_with fail
   all_goals (try go_wp2)
   all_goals
    refine z6u Tryz.results80 rfl rfl rfl (J3 (bM.out.heap HZ.out (.inr HT.out.1))) ?_;rw[HAL.out];exact⟨rfl,⟨(cD.out.kept ((Out.refl w.heap.size (w.heap.size+1) _).set2 Lz _ _) (.inl HT.out.1) (.inl HT.out.2.1)).quiet ((Out.refl 0 0 _).drew),HI.out⟩,(((H0.out.any lo hi).trans bM.out).set2 (.inr (Nat.le_refl _)) _ _).drew⟩
  ·have HAL:=Q3 fU;have cD:=Q3 (iR.quiet ((Out.refl 0 0 w1).alloc (Dz 0 0 46)));have HN:Hid (Kz 134 #[Pq (s 14),Iz k] (w1.alloc (Dz 0 0 46)) fun e w'=>e=.returned (Iz (Y0 st k))/\RawAt w' lo hi s n cap (x5t r1 st k)/\Out lo hi (w1.alloc (Dz 0 0 46)) w'):=by
    have:=j1t cD.out k (by rw[hl1];exact HL.out.1) (by rw[hl1];exact HL.out.2);rw[hl1] at this;exact this
   have HTie:=Q3 htie;have HInv:=Q3 hinv;have HA:=Q3 (And.intro ha1 ha2);have hz:=U3 HFt.out;have HE:=Q3 (fun w' (h':RawAt w' lo hi s n cap (x5t r1 st k))=>j4i h' (a:=a) (k:=k) (z:=z) (x:=Y0 st k) (t:=t) hz.2.2.1 hz.2.2.2 ha1 ha2);clear ht ho iR fU htie hinv hl1 ha1 ha2 hz HTk;go_wp2_with (first
    | (go_at_call 134;refine HN.out.mono ?_;rintro e w2 ⟨rfl,hr,ho⟩;have cV:=Q3 hr;have aH:=Q3 (bM.out.trans ho);clear hr ho)
    | (go_at_call 133;refine(HE.out _ cV.out).mono ?_;rintro e w3 ⟨⟨v3,rfl⟩,hr,ho⟩;have fY:=Q3 hr;have bU:=Q3 (aH.out.trans ho);obtain⟨s4,s5,s6,s7⟩:=flt_facts ((aH.out.trans ho).heap HZ.out (.inr HT.out.1));clear hr ho))
   refine z6u Tryz.results80 rfl rfl rfl (J3 (bU.out.heap HZ.out (.inr HT.out.1))) ?_;rw[HAL.out];have h3:=fY.out;rw[HTie.out] at h3;exact⟨rfl,⟨h3.kept ((Out.refl w.heap.size (w.heap.size+1) _).set2 Lz _ _) (.inl HT.out.1) (.inl HT.out.2.1),HInv.out⟩,((H0.out.any lo hi).trans bU.out).set2 (.inr (Nat.le_refl _)) _ _⟩
end
end Go.Proofs.YtjgnogflgoihfaaGreatDoor
