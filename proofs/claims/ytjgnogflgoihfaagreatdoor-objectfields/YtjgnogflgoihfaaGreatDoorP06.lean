import Derived.Test.YtjgnogflgoihfaaGreatDoorP05
set_option linter.unusedSimpArgs false
set_option linter.unusedVariables false
set_option maxHeartbeats 16000000
set_option maxRecDepth 100000
namespace Go.Proofs.YtjgnogflgoihfaaGreatDoor
open Go.RowKit
def rgB (r:Raw) (ba:Int) (b:Blk) (aK v:Int):Bool:=
 if aK=0\/aK=1 then aK == 1 else if Q8 (v % 8+1) (v / 8)=true then (if v % 8+1=2 then (match r.M (v / 8) with | some t=>z8y ba b aK (v / 8) t | none=>false) else z2v aK || (v % 8+1 == 3 && v / 8 == 0)) else false
theorem Q5 {w:World} {g:Nat} {k m:Int} (h:w.heap[g]? = some (.cells #[.int .i64 k,.int .i64 m] 32 (0,0))):w.cell? ⟨g,0,none⟩=some (.int .i64 k)/\w.cell? ⟨g,1,none⟩=some (.int .i64 m)/\w.frozen? ⟨g,0,none⟩=false/\w.frozen? ⟨g,1,none⟩=false:=by
 simp[World.cell?,World.frozen?,h]
theorem z5u {v k m:Int} (hk:v % 8+1=k) (hm:v / 8=m) (hv:Q8 k m=true) (w:World):Calls Tryz.prog 56 #[.int .i64 v] w fun e w'=>e=.returned (.tuple #[.agg #[.int .i64 k,.int .i64 m],.bool true])/\Out 0 0 w w':=by
 refine(q0u v w).mono ?_;rintro e w' ⟨rfl,h⟩;rw[hk,hm,hv];unfold z0t z0u;rw[if_pos hv,if_pos hv];exact⟨rfl,K8 h⟩
theorem x4t {v k m:Int} (hk:v % 8+1=k) (hm:v / 8=m) (hv:Q8 k m=false) (w:World):Calls Tryz.prog 56 #[.int .i64 v] w fun e w'=>e=.returned (.tuple #[.agg #[.int .i64 0,.int .i64 0],.bool false])/\Out 0 0 w w':=by
 refine(q0u v w).mono ?_;rintro e w' ⟨rfl,h⟩;rw[hk,hm,hv];unfold z0t z0u;rw[if_neg (by simp[hv]),if_neg (by simp[hv])];exact⟨rfl,K8 h⟩
theorem mk30:z0t 3 0=3/\z0u 3 0=0:=by decide
section
variable {w:World} {lo hi hb:Nat} {s:Nat->Nat} {n cap:Nat} {r:Raw}
theorem j6q (hb:Nat) (ba bk bz bx bt aK v:Int) (h:aK=0\/aK=1) (w:World):Kz 52 #[Pq hb,Wz ba bk bz bx bt,Iz aK,Iz v] w fun e w'=>e=.returned (.bool (aK == 1))/\Out 0 0 w w':=by
 rcases h with rfl | rfl <;>
 ·go_enter Tryz.func52,Tryz.ntmps52
  go_wp2;go_ret;exact⟨rfl,(Out.refl 0 0 w).alloc _⟩
theorem q8d (hb:Nat) (ba bk bz bx bt aK:Int) {v k m:Int} (h:aK ≠ 0/\aK ≠ 1) (hk:v % 8+1=k) (hm:v / 8=m) (hv:Q8 k m=false):Kz 52 #[Pq hb,Wz ba bk bz bx bt,Iz aK,Iz v] w fun e w'=>e=.returned (.bool false)/\Out 0 0 w w':=by
 have r0:(aK == 0)=false:=by simp;omega
 have r1:(aK == 1)=false:=by simp;omega
 have HF:=Q3 (heap_alloc_new w (Ez ba bk bz bx bt 81));have hU:=Q3 (fun V=>x4t hk hm hv V);have HW:=Q3 ((Out.refl 0 0 w).alloc (Ez ba bk bz bx bt 81));clear h hk hm hv;obtain⟨gb,bD⟩:∃ g,w.heap.size=g:=⟨_,rfl⟩
 obtain⟨W,hW⟩:∃ W,w.alloc (Ez ba bk bz bx bt 81)=W:=⟨_,rfl⟩
 rw[hW,bD] at HF;rw[hW] at HW;go_enter Tryz.func52,Tryz.ntmps52
 go_wp2_with fail;(try rw[hW]);(try rw[bD]);clear hW;refine(hU.out _).mono ?_;rintro e w1 ⟨rfl,o1⟩;go_wp2;go_ret;exact⟨rfl,(HW.out.trans o1).alloc _⟩
theorem z7r (hb:Nat) (ba bk bz bx bt aK:Int) {v k m:Int} (h:aK ≠ 0/\aK ≠ 1) (hk:v % 8+1=k) (hm:v / 8=m) (hv:Q8 k m=true) (h2:k ≠ 2) (hp:z2v aK=true):Kz 52 #[Pq hb,Wz ba bk bz bx bt,Iz aK,Iz v] w fun e w'=>e=.returned (.bool true)/\Out 0 0 w w':=by
 have k2:(k == 2)=false:=by simpa using h2
 have HPl:=Q3 (fun V=>z9e aK V);rw[hp] at HPl;clear hp h2;have r0:(aK == 0)=false:=by simp;omega
 have r1:(aK == 1)=false:=by simp;omega
 have HF:=Q3 (heap_alloc_new w (Ez ba bk bz bx bt 81));have hU:=Q3 (fun V=>z5u hk hm hv V);have HW:=Q3 ((Out.refl 0 0 w).alloc (Ez ba bk bz bx bt 81));clear h hk hm hv;obtain⟨gb,bD⟩:∃ g,w.heap.size=g:=⟨_,rfl⟩
 obtain⟨W,hW⟩:∃ W,w.alloc (Ez ba bk bz bx bt 81)=W:=⟨_,rfl⟩
 rw[hW,bD] at HF;rw[hW] at HW;go_enter Tryz.func52,Tryz.ntmps52
 go_wp2_with fail;(try rw[hW]);(try rw[bD]);clear hW;refine(hU.out _).mono ?_;rintro e w1 ⟨rfl,o1⟩;have fV:=Q3 (heap_alloc_new w1 (Dz k m 32));obtain⟨gv,aN⟩:∃ g,w1.heap.size=g:=⟨_,rfl⟩
 obtain⟨V2,aQ⟩:∃ V,w1.alloc (Dz k m 32)=V:=⟨_,rfl⟩
 have O2:Out 0 0 w V2:=by rw[<-aQ];exact(HW.out.trans o1).alloc _
 have oWV:Out 0 0 W V2:=by rw[<-aQ];exact o1.alloc _
 rw[aQ,aN] at fV;have aH:=Q3 O2;have HOW:=Q3 oWV;obtain⟨u0,u1,u2,u3⟩:=Q5 fV.out;clear O2 oWV o1;go_wp2_with fail;(try rw[aQ]);(try rw[aN]);clear aQ;refine wp_region_held_drew (S:=fun w'=>cq w' gv 0=some (Iz k)/\cq w' gv 1=some (Iz m)/\Out 0 0 w w') (by kernel_rfl) ?hS1 (fun aB=>?rest1)
 case hS1=>exact⟨u0,u1,aH.out.drew⟩
 refine tk 0 ?_;refine rd1 1 fun KK hK=>?_
 go_simp;refine(HPl.out _).mono ?_;rintro e w5 ⟨rfl,he⟩;rw[he];clear he w5;refine hK.out _ _ (aB) fun aB=>?_
 clear hK KK;refine tk 2 ?_;refine sk 3 ?_;refine sk 4 ?_;refine sk 5 ?_;refine tk 6 ?_;refine tk 7 ?_;refine dn ?_;have HE:=Q3 aB.2.2;clear aB;go_wp2;go_ret;exact⟨rfl,HE.out⟩
theorem z6v (hb:Nat) (ba bk bz bx bt aK:Int) {v k m:Int} (h:aK ≠ 0/\aK ≠ 1) (hk:v % 8+1=k) (hm:v / 8=m) (hv:Q8 k m=true) (h2:k ≠ 2) (hp:z2v aK=false):Kz 52 #[Pq hb,Wz ba bk bz bx bt,Iz aK,Iz v] w fun e w'=>e=.returned (.bool (k == 3 && m == 0))/\Out 0 0 w w':=by
 have k2:(k == 2)=false:=by simpa using h2
 have HPl:=Q3 (fun V=>z9e aK V);rw[hp] at HPl;clear hp h2;have r0:(aK == 0)=false:=by simp;omega
 have r1:(aK == 1)=false:=by simp;omega
 have HF:=Q3 (heap_alloc_new w (Ez ba bk bz bx bt 81));have hU:=Q3 (fun V=>z5u hk hm hv V);have HW:=Q3 ((Out.refl 0 0 w).alloc (Ez ba bk bz bx bt 81));clear h hk hm hv;obtain⟨gb,bD⟩:∃ g,w.heap.size=g:=⟨_,rfl⟩
 obtain⟨W,hW⟩:∃ W,w.alloc (Ez ba bk bz bx bt 81)=W:=⟨_,rfl⟩
 rw[hW,bD] at HF;rw[hW] at HW;go_enter Tryz.func52,Tryz.ntmps52
 go_wp2_with fail;(try rw[hW]);(try rw[bD]);clear hW;refine(hU.out _).mono ?_;rintro e w1 ⟨rfl,o1⟩;have fV:=Q3 (heap_alloc_new w1 (Dz k m 32));obtain⟨gv,aN⟩:∃ g,w1.heap.size=g:=⟨_,rfl⟩
 obtain⟨V2,aQ⟩:∃ V,w1.alloc (Dz k m 32)=V:=⟨_,rfl⟩
 have O2:Out 0 0 w V2:=by rw[<-aQ];exact(HW.out.trans o1).alloc _
 have oWV:Out 0 0 W V2:=by rw[<-aQ];exact o1.alloc _
 rw[aQ,aN] at fV;have aH:=Q3 O2;have HOW:=Q3 oWV;obtain⟨u0,u1,u2,u3⟩:=Q5 fV.out;clear O2 oWV o1;go_wp2_with fail;(try rw[aQ]);(try rw[aN]);clear aQ;have hE:∀ W,(binOp .eql 32 (Vz k m) (Vz 3 0)).run Tryz.prog W=.ok (.bool (k == 3 && m == 0)) W:=fun W=>eqv k m 3 0 W
 refine wp_region_held_drew (S:=fun w'=>cq w' gv 0=some (Iz k)/\cq w' gv 1=some (Iz m)/\Out 0 0 w w') (by kernel_rfl) ?hS10 (fun aB=>?rest10)
 case hS10=>exact⟨u0,u1,aH.out.drew⟩
 refine tk 0 ?_;refine rd1 1 fun KK hK=>?_
 go_simp;refine(HPl.out _).mono ?_;rintro e w5 ⟨rfl,he⟩;rw[he];clear he w5;refine hK.out _ _ (aB) fun aB=>?_
 clear hK KK;refine tk 2 ?_;refine tk 3 ?_;refine rd1 4 fun KK hK=>?_
 go_simp;refine(q3x 0 _).mono ?_;rintro e w6 ⟨rfl,q6⟩;rw[mk30.1,mk30.2];replace q6:=K8 q6;refine hK.out _ _ ⟨q6.cell aB.1 z0,q6.cell aB.2.1 z0,aB.2.2.trans q6⟩ fun aB=>?_
 clear q6 hK KK;refine tk 5 ?_;refine tk 6 ?_;refine tk 7 ?_;refine dn ?_;have HE:=Q3 aB.2.2;clear aB;go_wp2;go_ret;exact⟨rfl,HE.out⟩
theorem j2b (hr:RawAt w lo hi s n cap r) (hH:cq w hb 0=some (Pq (s 14))) (ba bk bz bx bt aK:Int) {v m:Int} (h:aK ≠ 0/\aK ≠ 1) (hk:v % 8+1=2) (hm:v / 8=m) (hv:Q8 2 m=true) (hM:r.M m=none):Kz 52 #[Pq hb,Wz ba bk bz bx bt,Iz aK,Iz v] w fun e w'=>e=.returned (.bool (false))/\Out 0 0 w w':=by
 have r0:(aK == 0)=false:=by simp;omega
 have r1:(aK == 1)=false:=by simp;omega
 have HF:=Q3 (heap_alloc_new w (Ez ba bk bz bx bt 81));have hU:=Q3 (fun V=>z5u hk hm hv V);have HW:=Q3 ((Out.refl 0 0 w).alloc (Ez ba bk bz bx bt 81));have Hr:=Q3 hr;have HM:=Q3 hM;have HH:=Q3 hH;clear h hk hm hv hr hM hH;obtain⟨gb,bD⟩:∃ g,w.heap.size=g:=⟨_,rfl⟩
 obtain⟨W,hW⟩:∃ W,w.alloc (Ez ba bk bz bx bt 81)=W:=⟨_,rfl⟩
 rw[hW,bD] at HF;rw[hW] at HW;go_enter Tryz.func52,Tryz.ntmps52
 go_wp2_with fail;(try rw[hW]);(try rw[bD]);clear hW;refine(hU.out _).mono ?_;rintro e w1 ⟨rfl,o1⟩;have fV:=Q3 (heap_alloc_new w1 (Dz 2 m 32));obtain⟨gv,aN⟩:∃ g,w1.heap.size=g:=⟨_,rfl⟩
 obtain⟨V2,aQ⟩:∃ V,w1.alloc (Dz 2 m 32)=V:=⟨_,rfl⟩
 have O2:Out 0 0 w V2:=by rw[<-aQ];exact(HW.out.trans o1).alloc _
 have oWV:Out 0 0 W V2:=by rw[<-aQ];exact o1.alloc _
 rw[aQ,aN] at fV;have aH:=Q3 O2;have HOW:=Q3 oWV;obtain⟨u0,u1,u2,u3⟩:=Q5 fV.out;clear O2 oWV o1;go_wp2_with fail;(try rw[aQ]);(try rw[aN]);clear aQ;have hH:=aH.out.cell HH.out z0;have aI:hb<V2.heap.size/\gv<V2.heap.size:=⟨Y4 hH,Y4 u1⟩
 have HB:Hid (∀ V,Out 0 0 V2 V->Kz 100 #[Pq (s 14),Iz m] V fun e w'=>e=.returned (.tuple #[Wz 0 0 0 0 0,.bool false])/\Out 0 0 V w'):=fun V o=>z6g (Hr.out.quiet (aH.out.trans o)) HM.out
 refine wp_region_held_drew (S:=fun w'=>cq w' hb 0=some (Pq (s 14))/\cq w' gv 1=some (Iz m)) (by kernel_rfl) ?hS19 (fun aB=>?rest19)
 case hS19=>exact⟨hH,u1⟩
 obtain⟨Z7,hZ⟩:∃ Z,V2.drew=Z:=⟨_,rfl⟩
 have O:Out 0 0 V2 Z7:=by rw[<-hZ];exact(Out.refl 0 0 _).drew
 rw[hZ] at aB ⊢;clear hZ;refine tk 0 ?_;refine tk 1 ?_;refine tk 2 ?_;refine tk 3 ?_;refine tk 4 ?_;refine tk 5 ?_;refine rd2 6 10 (fun KK hK=>?_) fun KK hK=>?_
 ·go_simp;refine(HB.out _ O).mono ?_;rintro e Z7C ⟨rfl,q1⟩;replace O:=O.trans q1;refine hK.out _ _ ⟨q1.cell aB.1 z0,q1.cell aB.2 z0⟩ fun aB=>?_
  clear q1 hK KK;refine tk 7 ?_;refine tk 8 ?_;refine tk 9 ?_;refine rd1 10 fun KK hK=>?_
  go_simp;obtain⟨gA,pB,aE,hY,qA,fA⟩:=alz Z7C (Ez 0 0 0 0 0 81)
  have aY:V2.heap.size<=gA:=by have:=O.size;omega
  (try rw[hY]);(try rw[aE]);clear hY aE;replace O:=O.trans qA;refine hK.out _ _ ⟨qA.cell aB.1 z0,qA.cell aB.2 z0⟩ fun aB=>?_
  clear qA hK KK;refine rd1 11 fun KK hK=>?_
  simp only[xa,xb,xc];obtain⟨y0,y1,y2,y3,y4,y5⟩:=K7 fA;go_simp;clear y0 y1 y2 y3 y4 y5;obtain⟨mG,hY,qS⟩:=s5z pB gA 0 0 0 0 0
  replace O:Out 0 0 V2 mG:=by rw[<-hY];exact O.zo5 (.inr aY) _ _ _ _ _
  have fB:mG.heap[gA]? = some (Ez 0 0 0 0 0 81):=by rw[<-hY];simp[World.setCell,Array.getElem?_modify,fA]
  (try rw[hY]);clear hY fA;refine hK.out _ _ ⟨qS.cell aB.1 (.inl (by have:=aI;omega)),qS.cell aB.2 (.inl (by have:=aI;omega))⟩ fun aB=>?_
  clear qS hK KK;refine tk 12 ?_;refine dn ?_;have HE:=Q3 (aH.out.trans O);clear O fB aB;go_wp2;go_ret;exact⟨rfl,HE.out⟩
 ·go_simp;obtain⟨gA,Z7A,aE,hY,qA,fA⟩:=alz Z7 (Ez 0 0 0 0 0 81)
  have aY:V2.heap.size<=gA:=by have:=O.size;omega
  (try rw[hY]);(try rw[aE]);clear hY aE;replace O:=O.trans qA;refine hK.out _ _ ⟨qA.cell aB.1 z0,qA.cell aB.2 z0⟩ fun aB=>?_
  clear qA hK KK;refine rd1 6 fun KK hK=>?_
  go_simp;refine(HB.out _ O).mono ?_;rintro e Z7AC ⟨rfl,q1⟩;replace O:=O.trans q1;replace fA:=q1.heap fA z0;refine hK.out _ _ ⟨q1.cell aB.1 z0,q1.cell aB.2 z0⟩ fun aB=>?_
  clear q1 hK KK;refine tk 7 ?_;refine tk 8 ?_;refine tk 9 ?_;refine rd1 11 fun KK hK=>?_
  simp only[xa,xb,xc];obtain⟨y0,y1,y2,y3,y4,y5⟩:=K7 fA;go_simp;clear y0 y1 y2 y3 y4 y5;obtain⟨mH,hY,qS⟩:=s5z Z7AC gA 0 0 0 0 0
  replace O:Out 0 0 V2 mH:=by rw[<-hY];exact O.zo5 (.inr aY) _ _ _ _ _
  have fB:mH.heap[gA]? = some (Ez 0 0 0 0 0 81):=by rw[<-hY];simp[World.setCell,Array.getElem?_modify,fA]
  (try rw[hY]);clear hY fA;refine hK.out _ _ ⟨qS.cell aB.1 (.inl (by have:=aI;omega)),qS.cell aB.2 (.inl (by have:=aI;omega))⟩ fun aB=>?_
  clear qS hK KK;refine tk 12 ?_;refine dn ?_;have HE:=Q3 (aH.out.trans O);clear O fB aB;go_wp2;go_ret;exact⟨rfl,HE.out⟩
theorem j2c (hr:RawAt w lo hi s n cap r) (hH:cq w hb 0=some (Pq (s 14))) (ba bk bz bx bt aK:Int) {v m:Int} (h:aK ≠ 0/\aK ≠ 1) (hk:v % 8+1=2) (hm:v / 8=m) (hv:Q8 2 m=true) {t1 t2 t3 t4:Int} (hM:r.M m=some (t1,t2,t3,t4)):Kz 52 #[Pq hb,Wz ba bk bz bx bt,Iz aK,Iz v] w fun e w'=>e=.returned (.bool (z8y ba (bk,bz,bx,bt) aK m (t1,t2,t3,t4)))/\Out 0 0 w w':=by
 have r0:(aK == 0)=false:=by simp;omega
 have r1:(aK == 1)=false:=by simp;omega
 have HF:=Q3 (heap_alloc_new w (Ez ba bk bz bx bt 81));have hU:=Q3 (fun V=>z5u hk hm hv V);have HW:=Q3 ((Out.refl 0 0 w).alloc (Ez ba bk bz bx bt 81));have Hr:=Q3 hr;have HM:=Q3 hM;have HH:=Q3 hH;clear h hk hm hv hr hM hH;obtain⟨gb,bD⟩:∃ g,w.heap.size=g:=⟨_,rfl⟩
 obtain⟨W,hW⟩:∃ W,w.alloc (Ez ba bk bz bx bt 81)=W:=⟨_,rfl⟩
 rw[hW,bD] at HF;rw[hW] at HW;go_enter Tryz.func52,Tryz.ntmps52
 go_wp2_with fail;(try rw[hW]);(try rw[bD]);clear hW;refine(hU.out _).mono ?_;rintro e w1 ⟨rfl,o1⟩;have fV:=Q3 (heap_alloc_new w1 (Dz 2 m 32));obtain⟨gv,aN⟩:∃ g,w1.heap.size=g:=⟨_,rfl⟩
 obtain⟨V2,aQ⟩:∃ V,w1.alloc (Dz 2 m 32)=V:=⟨_,rfl⟩
 have O2:Out 0 0 w V2:=by rw[<-aQ];exact(HW.out.trans o1).alloc _
 have oWV:Out 0 0 W V2:=by rw[<-aQ];exact o1.alloc _
 rw[aQ,aN] at fV;have aH:=Q3 O2;have HOW:=Q3 oWV;obtain⟨u0,u1,u2,u3⟩:=Q5 fV.out;clear O2 oWV o1;go_wp2_with fail;(try rw[aQ]);(try rw[aN]);clear aQ;have hH:=aH.out.cell HH.out z0;have aI:hb<V2.heap.size/\gv<V2.heap.size:=⟨Y4 hH,Y4 u1⟩
 have HB:Hid (∀ V,Out 0 0 V2 V->Kz 100 #[Pq (s 14),Iz m] V fun e w'=>e=.returned (.tuple #[Wz m t1 t2 t3 t4,.bool true])/\Out 0 0 V w'):=fun V o=>z0z (Hr.out.quiet (aH.out.trans o)) HM.out
 refine wp_region_held_drew (S:=fun w'=>cq w' hb 0=some (Pq (s 14))/\cq w' gv 1=some (Iz m)) (by kernel_rfl) ?hS40 (fun aB=>?rest40)
 case hS40=>exact⟨hH,u1⟩
 obtain⟨Z7,hZ⟩:∃ Z,V2.drew=Z:=⟨_,rfl⟩
 have O:Out 0 0 V2 Z7:=by rw[<-hZ];exact(Out.refl 0 0 _).drew
 rw[hZ] at aB ⊢;clear hZ;refine tk 0 ?_;refine tk 1 ?_;refine tk 2 ?_;refine tk 3 ?_;refine tk 4 ?_;refine tk 5 ?_;refine rd2 6 10 (fun KK hK=>?_) fun KK hK=>?_
 ·go_simp;refine(HB.out _ O).mono ?_;rintro e Z7C ⟨rfl,q1⟩;replace O:=O.trans q1;refine hK.out _ _ ⟨q1.cell aB.1 z0,q1.cell aB.2 z0⟩ fun aB=>?_
  clear q1 hK KK;refine tk 7 ?_;refine tk 8 ?_;refine tk 9 ?_;refine rd1 10 fun KK hK=>?_
  go_simp;obtain⟨gA,pB,aE,hY,qA,fA⟩:=alz Z7C (Ez 0 0 0 0 0 81)
  have aY:V2.heap.size<=gA:=by have:=O.size;omega
  (try rw[hY]);(try rw[aE]);clear hY aE;replace O:=O.trans qA;refine hK.out _ _ ⟨qA.cell aB.1 z0,qA.cell aB.2 z0⟩ fun aB=>?_
  clear qA hK KK;refine rd1 11 fun KK hK=>?_
  simp only[xa,xb,xc];obtain⟨y0,y1,y2,y3,y4,y5⟩:=K7 fA;go_simp;clear y0 y1 y2 y3 y4 y5;obtain⟨mG,hY,qS⟩:=s5z pB gA m t1 t2 t3 t4
  replace O:Out 0 0 V2 mG:=by rw[<-hY];exact O.zo5 (.inr aY) _ _ _ _ _
  have fB:mG.heap[gA]? = some (Ez m t1 t2 t3 t4 81):=by rw[<-hY];simp[World.setCell,Array.getElem?_modify,fA]
  (try rw[hY]);clear hY fA;refine hK.out _ _ ⟨qS.cell aB.1 (.inl (by have:=aI;omega)),qS.cell aB.2 (.inl (by have:=aI;omega))⟩ fun aB=>?_
  clear qS hK KK;refine tk 12 ?_;refine dn ?_;have HE:=Q3 (aH.out.trans O);obtain⟨y0,y1,y2,y3,y4,y5⟩:=K7 fB;obtain⟨x0,x1,x2,x3,x4,x5⟩:=K7 ((HOW.out.trans O).heap HF.out z0);clear O fB aB;go_wp2_with fail;refine(q4a _ _ _ _ _ _ _ _ _ _ _ _).mono ?_;rintro e V9 ⟨rfl,q9⟩;have pK:=Q3 (HE.out.trans q9);clear HE q9 y0 y1 y2 y3 y4 y5 x0 x1 x2 x3 x4 x5;go_wp2;go_ret;exact⟨rfl,pK.out⟩
 ·go_simp;obtain⟨gA,Z7A,aE,hY,qA,fA⟩:=alz Z7 (Ez 0 0 0 0 0 81)
  have aY:V2.heap.size<=gA:=by have:=O.size;omega
  (try rw[hY]);(try rw[aE]);clear hY aE;replace O:=O.trans qA;refine hK.out _ _ ⟨qA.cell aB.1 z0,qA.cell aB.2 z0⟩ fun aB=>?_
  clear qA hK KK;refine rd1 6 fun KK hK=>?_
  go_simp;refine(HB.out _ O).mono ?_;rintro e Z7AC ⟨rfl,q1⟩;replace O:=O.trans q1;replace fA:=q1.heap fA z0;refine hK.out _ _ ⟨q1.cell aB.1 z0,q1.cell aB.2 z0⟩ fun aB=>?_
  clear q1 hK KK;refine tk 7 ?_;refine tk 8 ?_;refine tk 9 ?_;refine rd1 11 fun KK hK=>?_
  simp only[xa,xb,xc];obtain⟨y0,y1,y2,y3,y4,y5⟩:=K7 fA;go_simp;clear y0 y1 y2 y3 y4 y5;obtain⟨mH,hY,qS⟩:=s5z Z7AC gA m t1 t2 t3 t4
  replace O:Out 0 0 V2 mH:=by rw[<-hY];exact O.zo5 (.inr aY) _ _ _ _ _
  have fB:mH.heap[gA]? = some (Ez m t1 t2 t3 t4 81):=by rw[<-hY];simp[World.setCell,Array.getElem?_modify,fA]
  (try rw[hY]);clear hY fA;refine hK.out _ _ ⟨qS.cell aB.1 (.inl (by have:=aI;omega)),qS.cell aB.2 (.inl (by have:=aI;omega))⟩ fun aB=>?_
  clear qS hK KK;refine tk 12 ?_;refine dn ?_;have HE:=Q3 (aH.out.trans O);obtain⟨y0,y1,y2,y3,y4,y5⟩:=K7 fB;obtain⟨x0,x1,x2,x3,x4,x5⟩:=K7 ((HOW.out.trans O).heap HF.out z0);clear O fB aB;go_wp2_with fail;refine(q4a _ _ _ _ _ _ _ _ _ _ _ _).mono ?_;rintro e V9 ⟨rfl,q9⟩;have pK:=Q3 (HE.out.trans q9);clear HE q9 y0 y1 y2 y3 y4 y5 x0 x1 x2 x3 x4 x5;go_wp2;go_ret;exact⟨rfl,pK.out⟩
theorem z5x (hr:RawAt w lo hi s n cap r) (hH:w.cell? ⟨hb,0,none⟩=some (.pointer (some ⟨s 14,0,none⟩))) (ba bk bz bx bt aK v:Int):Calls Tryz.prog 52 #[.pointer (some ⟨hb,0,none⟩),.agg #[.int .i64 ba,.int .i64 bk,.int .i64 bz,.int .i64 bx,.int .i64 bt],.int .i64 aK,.int .i64 v] w fun e w'=>e=.returned (.bool (rgB r ba (bk,bz,bx,bt) aK v))/\Out 0 0 w w':=by
 unfold rgB;by_cases h:aK=0\/aK=1
 ·rw[if_pos h];exact j6q hb ba bk bz bx bt aK v h w
 ·rw[if_neg h];have h':aK ≠ 0/\aK ≠ 1:=by omega
  cases hv:Q8 (v % 8+1) (v / 8)
  ·rw[if_neg (by simp)];exact q8d hb ba bk bz bx bt aK h' rfl rfl hv
  ·rw[if_pos rfl];by_cases h2:v % 8+1=2
   ·rw[if_pos h2];rw[h2] at hv;cases hM:r.M (v / 8) with
    | none=>exact j2b hr hH ba bk bz bx bt aK h' h2 rfl hv hM
    | some t=>
     obtain⟨t1,t2,t3,t4⟩:=t;exact j2c hr hH ba bk bz bx bt aK h' h2 rfl hv hM
   ·rw[if_neg h2];cases hp:z2v aK
    ·exact z6v hb ba bk bz bx bt aK h' rfl rfl hv h2 hp
    ·exact z7r hb ba bk bz bx bt aK h' rfl rfl hv h2 hp
end
end Go.Proofs.YtjgnogflgoihfaaGreatDoor
