import Derived.Test.YtjgnogflgoihfaaGreatDoorP06
set_option linter.unusedSimpArgs false
set_option linter.unusedVariables false
set_option maxHeartbeats 16000000
set_option maxRecDepth 100000
namespace Go.Proofs.YtjgnogflgoihfaaGreatDoor
open Go.RowKit
theorem q8c {fn:Func} {p:Tmp} {a:Act} {w:World} {g:Nat} {x1 x2 x3 x4 x5:Int} {post:Ending->World->Prop} (hr:fn.results = #[.cell p 81]) (hp:a.tmps.getD p undef=.pointer (some ⟨g,0,none⟩))
  (hd:a.defers=[]) (hg:w.heap[g]? = some (.cells #[.int .i64 x1,.int .i64 x2,.int .i64 x3,.int .i64 x4,.int .i64 x5] 81 (0,0))) (h:post (.returned (.agg #[.int .i64 x1,.int .i64 x2,.int .i64 x3,.int .i64 x4,.int .i64 x5])) w):bodyPost Tryz.prog fn post Exit.ret a w:=
 bodyPost_ret (v:=.agg #[.int .i64 x1,.int .i64 x2,.int .i64 x3,.int .i64 x4,.int .i64 x5]) (results_cell_row hr a.tmps _ g 81 _ (0,0) _ hp hg Tryz.underlying81 rfl (x3s x1 x2 x3 x4 x5)) hd h
theorem G1 {w:World} {g:Nat} {x1 x2 x3 x4 x5:Int} {y1 y2 y3 y4 y5:Value} (h:w.heap[g]? = some (.cells #[y1,y2,y3,y4,y5] 81 (0,0))):(((((w.setCell ⟨g,0,none⟩ (.int .i64 x1)).setCell ⟨g,1,none⟩ (.int .i64 x2)).setCell ⟨g,2,none⟩ (.int .i64 x3)).setCell ⟨g,3,none⟩ (.int .i64 x4)).setCell ⟨g,4,none⟩ (.int .i64 x5)).heap[g]? = some (.cells #[.int .i64 x1,.int .i64 x2,.int .i64 x3,.int .i64 x4,.int .i64 x5] 81 (0,0)):=by
 simp[World.setCell,Array.getElem?_modify,h]
theorem Out.set5 {lo hi:Nat} {a w:World} (h:Out lo hi a w) {g:Nat} (hp:(lo<=g/\g<hi)\/a.heap.size<=g) (x1 x2 x3 x4 x5:Value):Out lo hi a (((((w.setCell ⟨g,0,none⟩ x1).setCell ⟨g,1,none⟩ x2).setCell ⟨g,2,none⟩ x3).setCell ⟨g,3,none⟩ x4).setCell ⟨g,4,none⟩ x5):=
 ((((h.setCell (p:=⟨g,0,none⟩) hp _).setCell (p:=⟨g,1,none⟩) hp _).setCell (p:=⟨g,2,none⟩) hp _).setCell (p:=⟨g,3,none⟩) hp _).setCell (p:=⟨g,4,none⟩) hp _
theorem J4 {w:World} {o o2:Obj}:((w.alloc o).alloc o2).heap[w.heap.size+1]? = some o2:=by
 have q:=heap_alloc_new (w.alloc o) o2;simpa using q
def opE (r:Raw) (k m:Int):Int:=if k=2/\r.M m ≠ none then z6e r m else 30
def opA (r:Raw) (k m:Int):Int:=if k=2/\r.M m ≠ none then z4z r m else 0
section
variable {w:World} {lo hi hb:Nat} {s:Nat->Nat} {n cap:Nat} {r:Raw}
theorem j5u (hr:RawAt w lo hi s n cap r) (hA:U7 n r) (hH:cq w hb 0=some (Pq (s 14))) (k m:Int) (hM:r.M m=none):Kz 49 #[Pq hb,Vz k m] w fun e w'=>e=.panicked [z0o 30 0]/\Out 0 0 w w':=by
 have fV:=Q3 (J0 (w:=w) (o:=Dz k m 32) (o2:=Ez 0 0 0 0 0 81));have fR:=Q3 (J4 (w:=w) (o:=Dz k m 32) (o2:=Ez 0 0 0 0 0 81));have aH:=Q3 (((Out.refl 0 0 w).alloc (Dz k m 32)).alloc (Ez 0 0 0 0 0 81));have Hr:=Q3 hr;have HM:=Q3 hM;have HA:=Q3 hA;obtain⟨gv,aN⟩:∃ g,w.heap.size=g:=⟨_,rfl⟩
 have aW:=Q3 aN;obtain⟨V2,aQ⟩:∃ V,(w.alloc (Dz k m 32)).alloc (Ez 0 0 0 0 0 81)=V:=⟨_,rfl⟩
 rw[aQ,aN] at fV fR;rw[aQ] at aH;have eI:=aH.out.cell hH z0;clear hH hr hM hA;obtain⟨u0,u1,u2,u3⟩:=Q5 fV.out;have aI:hb<V2.heap.size/\gv<V2.heap.size:=⟨Y4 eI,Y4 u1⟩
 have Hlow:=Q3 aI;have HRlt:Hid (gv+1<V2.heap.size):=Q7 fR.out;go_enter Tryz.func49,Tryz.ntmps49
 go_wp2_with fail;(try rw[aQ]);(try rw[aN]);clear aQ aN;have HB:Hid (∀ V,Out 0 0 V2 V->Kz 100 #[Pq (s 14),Iz m] V fun e w'=>e=.returned (.tuple #[Wz 0 0 0 0 0,.bool false])/\Out 0 0 V w'):=fun V o=>z6g (Hr.out.quiet (aH.out.trans o)) HM.out
 refine wp_region_held_drew (S:=fun w'=>cq w' hb 0=some (Pq (s 14))/\cq w' gv 1=some (Iz m)) (by kernel_rfl) ?hS61 (fun aB=>?rest61)
 case hS61=>exact⟨eI,u1⟩
 obtain⟨Z1,hZ⟩:∃ Z,V2.drew=Z:=⟨_,rfl⟩
 have O:Out 0 0 V2 Z1:=by rw[<-hZ];exact(Out.refl 0 0 _).drew
 rw[hZ] at aB ⊢;clear hZ;refine tk 0 ?_;refine tk 1 ?_;refine tk 2 ?_;refine tk 3 ?_;refine tk 4 ?_;refine tk 5 ?_;refine rd2 6 10 (fun KK hK=>?_) fun KK hK=>?_
 ·go_simp;refine(HB.out _ O).mono ?_;rintro e Z1C ⟨rfl,q1⟩;replace O:=O.trans q1;refine hK.out _ _ ⟨q1.cell aB.1 z0,q1.cell aB.2 z0⟩ fun aB=>?_
  clear q1 hK KK;refine tk 7 ?_;refine tk 8 ?_;refine tk 9 ?_;refine rd1 10 fun KK hK=>?_
  go_simp;obtain⟨gA,bR,aE,hY,qA,fA⟩:=alz Z1C (Ez 0 0 0 0 0 81)
  have aY:V2.heap.size<=gA:=by have:=O.size;omega
  (try rw[hY]);(try rw[aE]);clear hY aE;replace O:=O.trans qA;refine hK.out _ _ ⟨qA.cell aB.1 z0,qA.cell aB.2 z0⟩ fun aB=>?_
  clear qA hK KK;refine rd1 11 fun KK hK=>?_
  simp only[xa,xb,xc];obtain⟨y0,y1,y2,y3,y4,y5⟩:=K7 fA;go_simp;clear y0 y1 y2 y3 y4 y5;obtain⟨bE,hY,qS⟩:=s5z bR gA 0 0 0 0 0
  replace O:Out 0 0 V2 bE:=by rw[<-hY];exact O.zo5 (.inr aY) _ _ _ _ _
  have fB:bE.heap[gA]? = some (Ez 0 0 0 0 0 81):=by rw[<-hY];simp[World.setCell,Array.getElem?_modify,fA]
  (try rw[hY]);clear hY fA;refine hK.out _ _ ⟨qS.cell aB.1 (.inl (by have:=aI;omega)),qS.cell aB.2 (.inl (by have:=aI;omega))⟩ fun aB=>?_
  clear qS hK KK;refine tk 12 ?_;refine dn ?_;have HE:=Q3 (aH.out.trans O);obtain⟨x0,x1,x2,x3⟩:=Q5 (O.heap fV.out z0);clear O fB aB;go_wp2_with fail;refine(z2o _ _).mono ?_;rintro e V9 ⟨rfl,rfl⟩;exact⟨rfl,rfl,HE.out⟩
 ·go_simp;obtain⟨gA,jF,aE,hY,qA,fA⟩:=alz Z1 (Ez 0 0 0 0 0 81)
  have aY:V2.heap.size<=gA:=by have:=O.size;omega
  (try rw[hY]);(try rw[aE]);clear hY aE;replace O:=O.trans qA;refine hK.out _ _ ⟨qA.cell aB.1 z0,qA.cell aB.2 z0⟩ fun aB=>?_
  clear qA hK KK;refine rd1 6 fun KK hK=>?_
  go_simp;refine(HB.out _ O).mono ?_;rintro e Z1AC ⟨rfl,q1⟩;replace O:=O.trans q1;replace fA:=q1.heap fA z0;refine hK.out _ _ ⟨q1.cell aB.1 z0,q1.cell aB.2 z0⟩ fun aB=>?_
  clear q1 hK KK;refine tk 7 ?_;refine tk 8 ?_;refine tk 9 ?_;refine rd1 11 fun KK hK=>?_
  simp only[xa,xb,xc];obtain⟨y0,y1,y2,y3,y4,y5⟩:=K7 fA;go_simp;clear y0 y1 y2 y3 y4 y5;obtain⟨bF,hY,qS⟩:=s5z Z1AC gA 0 0 0 0 0
  replace O:Out 0 0 V2 bF:=by rw[<-hY];exact O.zo5 (.inr aY) _ _ _ _ _
  have fB:bF.heap[gA]? = some (Ez 0 0 0 0 0 81):=by rw[<-hY];simp[World.setCell,Array.getElem?_modify,fA]
  (try rw[hY]);clear hY fA;refine hK.out _ _ ⟨qS.cell aB.1 (.inl (by have:=aI;omega)),qS.cell aB.2 (.inl (by have:=aI;omega))⟩ fun aB=>?_
  clear qS hK KK;refine tk 12 ?_;refine dn ?_;have HE:=Q3 (aH.out.trans O);obtain⟨x0,x1,x2,x3⟩:=Q5 (O.heap fV.out z0);clear O fB aB;go_wp2_with fail;refine(z2o _ _).mono ?_;rintro e V9 ⟨rfl,rfl⟩;exact⟨rfl,rfl,HE.out⟩
theorem j5t (hr:RawAt w lo hi s n cap r) (hA:U7 n r) (hH:cq w hb 0=some (Pq (s 14))) (k m:Int) {t1 t2 t3 t4:Int} (hM:r.M m=some (t1,t2,t3,t4)) (hk:k ≠ 2):Kz 49 #[Pq hb,Vz k m] w fun e w'=>e=.panicked [z0o 30 0]/\Out 0 0 w w':=by
 have k2:(k == 2)=false:=by simpa using hk
 clear hk;have fV:=Q3 (J0 (w:=w) (o:=Dz k m 32) (o2:=Ez 0 0 0 0 0 81));have fR:=Q3 (J4 (w:=w) (o:=Dz k m 32) (o2:=Ez 0 0 0 0 0 81));have aH:=Q3 (((Out.refl 0 0 w).alloc (Dz k m 32)).alloc (Ez 0 0 0 0 0 81));have Hr:=Q3 hr;have HM:=Q3 hM;have HA:=Q3 hA;obtain⟨gv,aN⟩:∃ g,w.heap.size=g:=⟨_,rfl⟩
 have aW:=Q3 aN;obtain⟨V2,aQ⟩:∃ V,(w.alloc (Dz k m 32)).alloc (Ez 0 0 0 0 0 81)=V:=⟨_,rfl⟩
 rw[aQ,aN] at fV fR;rw[aQ] at aH;have eI:=aH.out.cell hH z0;clear hH hr hM hA;obtain⟨u0,u1,u2,u3⟩:=Q5 fV.out;have aI:hb<V2.heap.size/\gv<V2.heap.size:=⟨Y4 eI,Y4 u1⟩
 have Hlow:=Q3 aI;have HRlt:Hid (gv+1<V2.heap.size):=Q7 fR.out;go_enter Tryz.func49,Tryz.ntmps49
 go_wp2_with fail;(try rw[aQ]);(try rw[aN]);clear aQ aN;have HB:Hid (∀ V,Out 0 0 V2 V->Kz 100 #[Pq (s 14),Iz m] V fun e w'=>e=.returned (.tuple #[Wz m t1 t2 t3 t4,.bool true])/\Out 0 0 V w'):=fun V o=>z0z (Hr.out.quiet (aH.out.trans o)) HM.out
 refine wp_region_held_drew (S:=fun w'=>cq w' hb 0=some (Pq (s 14))/\cq w' gv 1=some (Iz m)) (by kernel_rfl) ?hS82 (fun aB=>?rest82)
 case hS82=>exact⟨eI,u1⟩
 obtain⟨Z1,hZ⟩:∃ Z,V2.drew=Z:=⟨_,rfl⟩
 have O:Out 0 0 V2 Z1:=by rw[<-hZ];exact(Out.refl 0 0 _).drew
 rw[hZ] at aB ⊢;clear hZ;refine tk 0 ?_;refine tk 1 ?_;refine tk 2 ?_;refine tk 3 ?_;refine tk 4 ?_;refine tk 5 ?_;refine rd2 6 10 (fun KK hK=>?_) fun KK hK=>?_
 ·go_simp;refine(HB.out _ O).mono ?_;rintro e Z1C ⟨rfl,q1⟩;replace O:=O.trans q1;refine hK.out _ _ ⟨q1.cell aB.1 z0,q1.cell aB.2 z0⟩ fun aB=>?_
  clear q1 hK KK;refine tk 7 ?_;refine tk 8 ?_;refine tk 9 ?_;refine rd1 10 fun KK hK=>?_
  go_simp;obtain⟨gA,bR,aE,hY,qA,fA⟩:=alz Z1C (Ez 0 0 0 0 0 81)
  have aY:V2.heap.size<=gA:=by have:=O.size;omega
  (try rw[hY]);(try rw[aE]);clear hY aE;replace O:=O.trans qA;refine hK.out _ _ ⟨qA.cell aB.1 z0,qA.cell aB.2 z0⟩ fun aB=>?_
  clear qA hK KK;refine rd1 11 fun KK hK=>?_
  simp only[xa,xb,xc];obtain⟨y0,y1,y2,y3,y4,y5⟩:=K7 fA;go_simp;clear y0 y1 y2 y3 y4 y5;obtain⟨bE,hY,qS⟩:=s5z bR gA m t1 t2 t3 t4
  replace O:Out 0 0 V2 bE:=by rw[<-hY];exact O.zo5 (.inr aY) _ _ _ _ _
  have fB:bE.heap[gA]? = some (Ez m t1 t2 t3 t4 81):=by rw[<-hY];simp[World.setCell,Array.getElem?_modify,fA]
  (try rw[hY]);clear hY fA;refine hK.out _ _ ⟨qS.cell aB.1 (.inl (by have:=aI;omega)),qS.cell aB.2 (.inl (by have:=aI;omega))⟩ fun aB=>?_
  clear qS hK KK;refine tk 12 ?_;refine dn ?_;have HE:=Q3 (aH.out.trans O);obtain⟨x0,x1,x2,x3⟩:=Q5 (O.heap fV.out z0);clear O fB aB;go_wp2_with fail;refine(z2o _ _).mono ?_;rintro e V9 ⟨rfl,rfl⟩;exact⟨rfl,rfl,HE.out⟩
 ·go_simp;obtain⟨gA,jF,aE,hY,qA,fA⟩:=alz Z1 (Ez 0 0 0 0 0 81)
  have aY:V2.heap.size<=gA:=by have:=O.size;omega
  (try rw[hY]);(try rw[aE]);clear hY aE;replace O:=O.trans qA;refine hK.out _ _ ⟨qA.cell aB.1 z0,qA.cell aB.2 z0⟩ fun aB=>?_
  clear qA hK KK;refine rd1 6 fun KK hK=>?_
  go_simp;refine(HB.out _ O).mono ?_;rintro e Z1AC ⟨rfl,q1⟩;replace O:=O.trans q1;replace fA:=q1.heap fA z0;refine hK.out _ _ ⟨q1.cell aB.1 z0,q1.cell aB.2 z0⟩ fun aB=>?_
  clear q1 hK KK;refine tk 7 ?_;refine tk 8 ?_;refine tk 9 ?_;refine rd1 11 fun KK hK=>?_
  simp only[xa,xb,xc];obtain⟨y0,y1,y2,y3,y4,y5⟩:=K7 fA;go_simp;clear y0 y1 y2 y3 y4 y5;obtain⟨bF,hY,qS⟩:=s5z Z1AC gA m t1 t2 t3 t4
  replace O:Out 0 0 V2 bF:=by rw[<-hY];exact O.zo5 (.inr aY) _ _ _ _ _
  have fB:bF.heap[gA]? = some (Ez m t1 t2 t3 t4 81):=by rw[<-hY];simp[World.setCell,Array.getElem?_modify,fA]
  (try rw[hY]);clear hY fA;refine hK.out _ _ ⟨qS.cell aB.1 (.inl (by have:=aI;omega)),qS.cell aB.2 (.inl (by have:=aI;omega))⟩ fun aB=>?_
  clear qS hK KK;refine tk 12 ?_;refine dn ?_;have HE:=Q3 (aH.out.trans O);obtain⟨x0,x1,x2,x3⟩:=Q5 (O.heap fV.out z0);clear O fB aB;go_wp2_with fail;refine(z2o _ _).mono ?_;rintro e V9 ⟨rfl,rfl⟩;exact⟨rfl,rfl,HE.out⟩
theorem x4j (hr:RawAt w lo hi s n cap r) (hA:U7 n r) (hH:cq w hb 0=some (Pq (s 14))) (k m:Int) {t1 t2 t3 t4:Int} (hM:r.M m=some (t1,t2,t3,t4)) (hk:k=2) (hc:z6e r m=0):Kz 49 #[Pq hb,Vz k m] w fun e w'=>e=.returned (Wz m t1 t2 t3 t4)/\Out 0 0 w w':=by
 subst hk;have Hc:=Q3 hc;clear hc;have fV:=Q3 (J0 (w:=w) (o:=Dz 2 m 32) (o2:=Ez 0 0 0 0 0 81));have fR:=Q3 (J4 (w:=w) (o:=Dz 2 m 32) (o2:=Ez 0 0 0 0 0 81));have aH:=Q3 (((Out.refl 0 0 w).alloc (Dz 2 m 32)).alloc (Ez 0 0 0 0 0 81));have Hr:=Q3 hr;have HM:=Q3 hM;have HA:=Q3 hA;obtain⟨gv,aN⟩:∃ g,w.heap.size=g:=⟨_,rfl⟩
 have aW:=Q3 aN;obtain⟨V2,aQ⟩:∃ V,(w.alloc (Dz 2 m 32)).alloc (Ez 0 0 0 0 0 81)=V:=⟨_,rfl⟩
 rw[aQ,aN] at fV fR;rw[aQ] at aH;have eI:=aH.out.cell hH Oz;clear hH hr hM hA;obtain⟨u0,u1,u2,u3⟩:=Q5 fV.out;have aI:hb<V2.heap.size/\gv<V2.heap.size:=⟨Y4 eI,Y4 u1⟩
 have Hlow:=Q3 aI;have HRlt:Hid (gv+1<V2.heap.size):=Q7 fR.out;go_enter Tryz.func49,Tryz.ntmps49
 go_wp2_with fail;(try rw[aQ]);(try rw[aN]);clear aQ aN;have HB:Hid (∀ V,Out 0 0 V2 V->Kz 100 #[Pq (s 14),Iz m] V fun e w'=>e=.returned (.tuple #[Wz m t1 t2 t3 t4,.bool true])/\Out 0 0 V w'):=fun V o=>z0z (Hr.out.quiet (aH.out.trans o)) HM.out
 have HC:Hid (∀ V,Out 0 0 V2 V->Kz 107 #[Pq (s 14),Iz m] V fun e w'=>e=.returned (Vz 0 (z4z r m))/\Out 0 0 V w'):=fun V o=>by
  have q:=z8n (Hr.out.quiet (aH.out.trans o)) HA.out m;rw[Hc.out] at q;exact q
 refine wp_region_held_drew (S:=fun w'=>cq w' hb 0=some (Pq (s 14))/\cq w' gv 1=some (Iz m)) (by kernel_rfl) ?hS103 (fun aB=>?rest103)
 case hS103=>exact⟨eI,u1⟩
 obtain⟨Z1,hZ⟩:∃ Z,V2.drew=Z:=⟨_,rfl⟩
 have O:Out 0 0 V2 Z1:=by rw[<-hZ];exact(Out.refl 0 0 _).drew
 rw[hZ] at aB ⊢;clear hZ;refine tk 0 ?_;refine tk 1 ?_;refine tk 2 ?_;refine tk 3 ?_;refine tk 4 ?_;refine tk 5 ?_;refine rd2 6 10 (fun KK hK=>?_) fun KK hK=>?_
 ·go_simp;refine(HB.out _ O).mono ?_;rintro e Z1C ⟨rfl,q1⟩;replace O:=O.trans q1;refine hK.out _ _ ⟨q1.cell aB.1 Oz,q1.cell aB.2 Oz⟩ fun aB=>?_
  clear q1 hK KK;refine tk 7 ?_;refine tk 8 ?_;refine tk 9 ?_;refine rd1 10 fun KK hK=>?_
  go_simp;obtain⟨gA,bR,aE,hY,qA,fA⟩:=alz Z1C (Ez 0 0 0 0 0 81)
  have aY:V2.heap.size<=gA:=by have:=O.size;omega
  (try rw[hY]);(try rw[aE]);clear hY aE;replace O:=O.trans qA;refine hK.out _ _ ⟨qA.cell aB.1 Oz,qA.cell aB.2 Oz⟩ fun aB=>?_
  clear qA hK KK;refine rd1 11 fun KK hK=>?_
  simp only[xa,xb,xc];obtain⟨y0,y1,y2,y3,y4,y5⟩:=K7 fA;go_simp;clear y0 y1 y2 y3 y4 y5;obtain⟨bE,hY,qS⟩:=s5z bR gA m t1 t2 t3 t4
  replace O:Out 0 0 V2 bE:=by rw[<-hY];exact O.zo5 (.inr aY) _ _ _ _ _
  have fB:bE.heap[gA]? = some (Ez m t1 t2 t3 t4 81):=by rw[<-hY];simp[World.setCell,Array.getElem?_modify,fA]
  (try rw[hY]);clear hY fA;refine hK.out _ _ ⟨qS.cell aB.1 (.inl (by have:=aI;omega)),qS.cell aB.2 (.inl (by have:=aI;omega))⟩ fun aB=>?_
  clear qS hK KK;refine tk 12 ?_;refine dn ?_;have HE:=Q3 O;have lR:=Q3 fB;have HgA:=Q3 aY;obtain⟨x0,x1,x2,x3⟩:=Q5 (O.heap fV.out Oz);clear O fB aB aY;go_wp2_with fail;refine(z0k _ _).mono ?_;rintro e V9 ⟨rfl,he⟩;rw[he];clear he V9;go_wp2_with fail;clear x0 x1 x2 x3;obtain⟨y0,y1,y2,y3,y4,y5⟩:=K7 lR.out;have hH9:=HE.out.cell eI Oz;refine wp_region_held_drew (S:=fun w'=>cq w' hb 0=some (Pq (s 14))/\cq w' gA 0=some (Iz m)/\Out 0 0 bE w') (by kernel_rfl) ?hS117 (fun aB=>?rest117)
  case hS117=>exact⟨hH9,y0,(Out.refl 0 0 _).drew⟩
  refine tk 0 ?_;refine tk 1 ?_;refine tk 2 ?_;refine tk 3 ?_;refine tk 4 ?_;refine tk 5 ?_;refine rd1 6 fun KK hK=>?_
  go_simp;refine(HC.out _ (HE.out.trans aB.2.2)).mono ?_;rintro e V7 ⟨rfl,q7⟩;refine hK.out _ _ ⟨q7.cell aB.1 Oz,q7.cell aB.2.1 Oz,aB.2.2.trans q7⟩ fun aB=>?_
  clear q7 hK KK;refine rd1 7 fun KK hK=>?_
  go_simp;refine(q6w _ _).mono ?_;rintro e V8 ⟨rfl,q8⟩;refine hK.out _ _ ⟨q8.cell aB.1 Oz,q8.cell aB.2.1 Oz,aB.2.2.trans q8⟩ fun aB=>?_
  clear q8 hK KK;refine dn ?_;have fB2:=aB.2.2.heap lR.out Oz;have HE2:=Q3 (HE.out.trans aB.2.2);have fR2:=HE2.out.heap fR.out Oz;obtain⟨nC,mQ,mP,oI,z4',z5'⟩:=K7 fB2;obtain⟨v0,v1,v2,v3,v4,v5⟩:=K7 fR2;have cV:=Q3 fR2;clear aB fR2 fB2 y0 y1 y2 y3 y4 y5 hH9;go_wp2;refine q8c Tryz.results49 rfl rfl (G1 cV.out) ⟨rfl,(aH.out.trans HE2.out).set5 (.inr (by have:=aW.out;omega)) _ _ _ _ _⟩
 ·go_simp;obtain⟨gA,jF,aE,hY,qA,fA⟩:=alz Z1 (Ez 0 0 0 0 0 81)
  have aY:V2.heap.size<=gA:=by have:=O.size;omega
  (try rw[hY]);(try rw[aE]);clear hY aE;replace O:=O.trans qA;refine hK.out _ _ ⟨qA.cell aB.1 Oz,qA.cell aB.2 Oz⟩ fun aB=>?_
  clear qA hK KK;refine rd1 6 fun KK hK=>?_
  go_simp;refine(HB.out _ O).mono ?_;rintro e Z1AC ⟨rfl,q1⟩;replace O:=O.trans q1;replace fA:=q1.heap fA Oz;refine hK.out _ _ ⟨q1.cell aB.1 Oz,q1.cell aB.2 Oz⟩ fun aB=>?_
  clear q1 hK KK;refine tk 7 ?_;refine tk 8 ?_;refine tk 9 ?_;refine rd1 11 fun KK hK=>?_
  simp only[xa,xb,xc];obtain⟨y0,y1,y2,y3,y4,y5⟩:=K7 fA;go_simp;clear y0 y1 y2 y3 y4 y5;obtain⟨bF,hY,qS⟩:=s5z Z1AC gA m t1 t2 t3 t4
  replace O:Out 0 0 V2 bF:=by rw[<-hY];exact O.zo5 (.inr aY) _ _ _ _ _
  have fB:bF.heap[gA]? = some (Ez m t1 t2 t3 t4 81):=by rw[<-hY];simp[World.setCell,Array.getElem?_modify,fA]
  (try rw[hY]);clear hY fA;refine hK.out _ _ ⟨qS.cell aB.1 (.inl (by have:=aI;omega)),qS.cell aB.2 (.inl (by have:=aI;omega))⟩ fun aB=>?_
  clear qS hK KK;refine tk 12 ?_;refine dn ?_;have HE:=Q3 O;have lR:=Q3 fB;have HgA:=Q3 aY;obtain⟨x0,x1,x2,x3⟩:=Q5 (O.heap fV.out Oz);clear O fB aB aY;go_wp2_with fail;refine(z0k _ _).mono ?_;rintro e V9 ⟨rfl,he⟩;rw[he];clear he V9;go_wp2_with fail;clear x0 x1 x2 x3;obtain⟨y0,y1,y2,y3,y4,y5⟩:=K7 lR.out;have hH9:=HE.out.cell eI Oz;refine wp_region_held_drew (S:=fun w'=>cq w' hb 0=some (Pq (s 14))/\cq w' gA 0=some (Iz m)/\Out 0 0 bF w') (by kernel_rfl) ?hS133 (fun aB=>?rest133)
  case hS133=>exact⟨hH9,y0,(Out.refl 0 0 _).drew⟩
  refine tk 0 ?_;refine tk 1 ?_;refine tk 2 ?_;refine tk 3 ?_;refine tk 4 ?_;refine tk 5 ?_;refine rd1 6 fun KK hK=>?_
  go_simp;refine(HC.out _ (HE.out.trans aB.2.2)).mono ?_;rintro e V7 ⟨rfl,q7⟩;refine hK.out _ _ ⟨q7.cell aB.1 Oz,q7.cell aB.2.1 Oz,aB.2.2.trans q7⟩ fun aB=>?_
  clear q7 hK KK;refine rd1 7 fun KK hK=>?_
  go_simp;refine(q6w _ _).mono ?_;rintro e V8 ⟨rfl,q8⟩;refine hK.out _ _ ⟨q8.cell aB.1 Oz,q8.cell aB.2.1 Oz,aB.2.2.trans q8⟩ fun aB=>?_
  clear q8 hK KK;refine dn ?_;have fB2:=aB.2.2.heap lR.out Oz;have HE2:=Q3 (HE.out.trans aB.2.2);have fR2:=HE2.out.heap fR.out Oz;obtain⟨nC,mQ,mP,oI,z4',z5'⟩:=K7 fB2;obtain⟨v0,v1,v2,v3,v4,v5⟩:=K7 fR2;have cV:=Q3 fR2;clear aB fR2 fB2 y0 y1 y2 y3 y4 y5 hH9;go_wp2;refine q8c Tryz.results49 rfl rfl (G1 cV.out) ⟨rfl,(aH.out.trans HE2.out).set5 (.inr (by have:=aW.out;omega)) _ _ _ _ _⟩
theorem j1v (hr:RawAt w lo hi s n cap r) (hA:U7 n r) (hH:cq w hb 0=some (Pq (s 14))) (k m:Int) {t1 t2 t3 t4:Int} (hM:r.M m=some (t1,t2,t3,t4)) (hk:k=2) (hc:z6e r m ≠ 0):Kz 49 #[Pq hb,Vz k m] w fun e w'=>e=.panicked [z0o (z6e r m) (z4z r m)]/\Out 0 0 w w':=by
 subst hk;have HC0:=Q3 hc;clear hc;have fV:=Q3 (J0 (w:=w) (o:=Dz 2 m 32) (o2:=Ez 0 0 0 0 0 81));have fR:=Q3 (J4 (w:=w) (o:=Dz 2 m 32) (o2:=Ez 0 0 0 0 0 81));have aH:=Q3 (((Out.refl 0 0 w).alloc (Dz 2 m 32)).alloc (Ez 0 0 0 0 0 81));have Hr:=Q3 hr;have HM:=Q3 hM;have HA:=Q3 hA;obtain⟨gv,aN⟩:∃ g,w.heap.size=g:=⟨_,rfl⟩
 have aW:=Q3 aN;obtain⟨V2,aQ⟩:∃ V,(w.alloc (Dz 2 m 32)).alloc (Ez 0 0 0 0 0 81)=V:=⟨_,rfl⟩
 rw[aQ,aN] at fV fR;rw[aQ] at aH;have eI:=aH.out.cell hH z0;clear hH hr hM hA;obtain⟨u0,u1,u2,u3⟩:=Q5 fV.out;have aI:hb<V2.heap.size/\gv<V2.heap.size:=⟨Y4 eI,Y4 u1⟩
 have Hlow:=Q3 aI;have HRlt:Hid (gv+1<V2.heap.size):=Q7 fR.out;go_enter Tryz.func49,Tryz.ntmps49
 go_wp2_with fail;(try rw[aQ]);(try rw[aN]);clear aQ aN;have HB:Hid (∀ V,Out 0 0 V2 V->Kz 100 #[Pq (s 14),Iz m] V fun e w'=>e=.returned (.tuple #[Wz m t1 t2 t3 t4,.bool true])/\Out 0 0 V w'):=fun V o=>z0z (Hr.out.quiet (aH.out.trans o)) HM.out
 have HC:Hid (∀ V,Out 0 0 V2 V->Kz 107 #[Pq (s 14),Iz m] V fun e w'=>e=.returned (Vz (z6e r m) (z4z r m))/\Out 0 0 V w'):=fun V o=>by
  have q:=z8n (Hr.out.quiet (aH.out.trans o)) HA.out m;exact q
 refine wp_region_held_drew (S:=fun w'=>cq w' hb 0=some (Pq (s 14))/\cq w' gv 1=some (Iz m)) (by kernel_rfl) ?hS142 (fun aB=>?rest142)
 case hS142=>exact⟨eI,u1⟩
 obtain⟨Z1,hZ⟩:∃ Z,V2.drew=Z:=⟨_,rfl⟩
 have O:Out 0 0 V2 Z1:=by rw[<-hZ];exact(Out.refl 0 0 _).drew
 rw[hZ] at aB ⊢;clear hZ;refine tk 0 ?_;refine tk 1 ?_;refine tk 2 ?_;refine tk 3 ?_;refine tk 4 ?_;refine tk 5 ?_;refine rd2 6 10 (fun KK hK=>?_) fun KK hK=>?_
 ·go_simp;refine(HB.out _ O).mono ?_;rintro e Z1C ⟨rfl,q1⟩;replace O:=O.trans q1;refine hK.out _ _ ⟨q1.cell aB.1 z0,q1.cell aB.2 z0⟩ fun aB=>?_
  clear q1 hK KK;refine tk 7 ?_;refine tk 8 ?_;refine tk 9 ?_;refine rd1 10 fun KK hK=>?_
  go_simp;obtain⟨gA,bR,aE,hY,qA,fA⟩:=alz Z1C (Ez 0 0 0 0 0 81)
  have aY:V2.heap.size<=gA:=by have:=O.size;omega
  (try rw[hY]);(try rw[aE]);clear hY aE;replace O:=O.trans qA;refine hK.out _ _ ⟨qA.cell aB.1 z0,qA.cell aB.2 z0⟩ fun aB=>?_
  clear qA hK KK;refine rd1 11 fun KK hK=>?_
  simp only[xa,xb,xc];obtain⟨y0,y1,y2,y3,y4,y5⟩:=K7 fA;go_simp;clear y0 y1 y2 y3 y4 y5;obtain⟨bE,hY,qS⟩:=s5z bR gA m t1 t2 t3 t4
  replace O:Out 0 0 V2 bE:=by rw[<-hY];exact O.zo5 (.inr aY) _ _ _ _ _
  have fB:bE.heap[gA]? = some (Ez m t1 t2 t3 t4 81):=by rw[<-hY];simp[World.setCell,Array.getElem?_modify,fA]
  (try rw[hY]);clear hY fA;refine hK.out _ _ ⟨qS.cell aB.1 (.inl (by have:=aI;omega)),qS.cell aB.2 (.inl (by have:=aI;omega))⟩ fun aB=>?_
  clear qS hK KK;refine tk 12 ?_;refine dn ?_;have HE:=Q3 O;have lR:=Q3 fB;have HgA:=Q3 aY;obtain⟨x0,x1,x2,x3⟩:=Q5 (O.heap fV.out z0);clear O fB aB aY;go_wp2_with fail;refine(z0k _ _).mono ?_;rintro e V9 ⟨rfl,he⟩;rw[he];clear he V9;go_wp2_with fail;clear x0 x1 x2 x3;obtain⟨y0,y1,y2,y3,y4,y5⟩:=K7 lR.out;have hH9:=HE.out.cell eI z0;refine wp_region_held_drew (S:=fun w'=>cq w' hb 0=some (Pq (s 14))/\cq w' gA 0=some (Iz m)/\Out 0 0 bE w') (by kernel_rfl) ?hS156 (fun aB=>?rest156)
  case hS156=>exact⟨hH9,y0,(Out.refl 0 0 _).drew⟩
  refine tk 0 ?_;refine tk 1 ?_;refine tk 2 ?_;refine tk 3 ?_;refine tk 4 ?_;refine tk 5 ?_;refine rd1 6 fun KK hK=>?_
  go_simp;refine(HC.out _ (HE.out.trans aB.2.2)).mono ?_;rintro e V7 ⟨rfl,q7⟩;refine hK.out _ _ ⟨q7.cell aB.1 z0,q7.cell aB.2.1 z0,aB.2.2.trans q7⟩ fun aB=>?_
  clear q7 hK KK;refine rd1 7 fun KK hK=>?_
  go_simp;refine(q1t HC0.out _ _).mono ?_;rintro e V8 ⟨rfl,q8⟩;exact⟨rfl,rfl,(aH.out.trans (HE.out.trans aB.2.2)).trans q8⟩
 ·go_simp;obtain⟨gA,jF,aE,hY,qA,fA⟩:=alz Z1 (Ez 0 0 0 0 0 81)
  have aY:V2.heap.size<=gA:=by have:=O.size;omega
  (try rw[hY]);(try rw[aE]);clear hY aE;replace O:=O.trans qA;refine hK.out _ _ ⟨qA.cell aB.1 z0,qA.cell aB.2 z0⟩ fun aB=>?_
  clear qA hK KK;refine rd1 6 fun KK hK=>?_
  go_simp;refine(HB.out _ O).mono ?_;rintro e Z1AC ⟨rfl,q1⟩;replace O:=O.trans q1;replace fA:=q1.heap fA z0;refine hK.out _ _ ⟨q1.cell aB.1 z0,q1.cell aB.2 z0⟩ fun aB=>?_
  clear q1 hK KK;refine tk 7 ?_;refine tk 8 ?_;refine tk 9 ?_;refine rd1 11 fun KK hK=>?_
  simp only[xa,xb,xc];obtain⟨y0,y1,y2,y3,y4,y5⟩:=K7 fA;go_simp;clear y0 y1 y2 y3 y4 y5;obtain⟨bF,hY,qS⟩:=s5z Z1AC gA m t1 t2 t3 t4
  replace O:Out 0 0 V2 bF:=by rw[<-hY];exact O.zo5 (.inr aY) _ _ _ _ _
  have fB:bF.heap[gA]? = some (Ez m t1 t2 t3 t4 81):=by rw[<-hY];simp[World.setCell,Array.getElem?_modify,fA]
  (try rw[hY]);clear hY fA;refine hK.out _ _ ⟨qS.cell aB.1 (.inl (by have:=aI;omega)),qS.cell aB.2 (.inl (by have:=aI;omega))⟩ fun aB=>?_
  clear qS hK KK;refine tk 12 ?_;refine dn ?_;have HE:=Q3 O;have lR:=Q3 fB;have HgA:=Q3 aY;obtain⟨x0,x1,x2,x3⟩:=Q5 (O.heap fV.out z0);clear O fB aB aY;go_wp2_with fail;refine(z0k _ _).mono ?_;rintro e V9 ⟨rfl,he⟩;rw[he];clear he V9;go_wp2_with fail;clear x0 x1 x2 x3;obtain⟨y0,y1,y2,y3,y4,y5⟩:=K7 lR.out;have hH9:=HE.out.cell eI z0;refine wp_region_held_drew (S:=fun w'=>cq w' hb 0=some (Pq (s 14))/\cq w' gA 0=some (Iz m)/\Out 0 0 bF w') (by kernel_rfl) ?hS172 (fun aB=>?rest172)
  case hS172=>exact⟨hH9,y0,(Out.refl 0 0 _).drew⟩
  refine tk 0 ?_;refine tk 1 ?_;refine tk 2 ?_;refine tk 3 ?_;refine tk 4 ?_;refine tk 5 ?_;refine rd1 6 fun KK hK=>?_
  go_simp;refine(HC.out _ (HE.out.trans aB.2.2)).mono ?_;rintro e V7 ⟨rfl,q7⟩;refine hK.out _ _ ⟨q7.cell aB.1 z0,q7.cell aB.2.1 z0,aB.2.2.trans q7⟩ fun aB=>?_
  clear q7 hK KK;refine rd1 7 fun KK hK=>?_
  go_simp;refine(q1t HC0.out _ _).mono ?_;rintro e V8 ⟨rfl,q8⟩;exact⟨rfl,rfl,(aH.out.trans (HE.out.trans aB.2.2)).trans q8⟩
theorem q2g (hr:RawAt w lo hi s n cap r) (hA:U7 n r) (hH:w.cell? ⟨hb,0,none⟩=some (.pointer (some ⟨s 14,0,none⟩))) (k m:Int) (h:opE r k m ≠ 0):Calls Tryz.prog 49 #[.pointer (some ⟨hb,0,none⟩),.agg #[.int .i64 k,.int .i64 m]] w fun e w'=>e=.panicked [z0o (opE r k m) (opA r k m)]/\Out 0 0 w w':=by
 unfold opE at h;unfold opE opA;cases hM:r.M m with
 | none=>rw[if_neg (by simp),if_neg (by simp)];exact j5u hr hA hH k m hM
 | some t=>
  obtain⟨t1,t2,t3,t4⟩:=t;by_cases hk:k=2
  ·rw[if_pos ⟨hk,by rw[hM];simp⟩] at h;rw[if_pos ⟨hk,by simp⟩,if_pos ⟨hk,by simp⟩];exact j1v hr hA hH k m hM hk h
  ·rw[if_neg (fun x=>hk x.1),if_neg (fun x=>hk x.1)];exact j5t hr hA hH k m hM hk
theorem z1f (hr:RawAt w lo hi s n cap r) (hA:U7 n r) (hH:w.cell? ⟨hb,0,none⟩=some (.pointer (some ⟨s 14,0,none⟩))) (k m:Int) (h:opE r k m=0):∃ t1 t2 t3 t4,r.M m=some (t1,t2,t3,t4)/\Calls Tryz.prog 49 #[.pointer (some ⟨hb,0,none⟩),.agg #[.int .i64 k,.int .i64 m]] w fun e w'=>e=.returned (.agg #[.int .i64 m,.int .i64 t1,.int .i64 t2,.int .i64 t3,.int .i64 t4])/\Out 0 0 w w':=by
 unfold opE at h;by_cases c:k=2/\r.M m ≠ none
 ·rw[if_pos c] at h;obtain⟨hk,hm⟩:=c;cases hM:r.M m with
  | none=>exact absurd hM hm
  | some t=>
   obtain⟨t1,t2,t3,t4⟩:=t;exact⟨t1,t2,t3,t4,rfl,x4j hr hA hH k m hM hk h⟩
 ·rw[if_neg c] at h;omega
end
theorem J8 {w:World} {o o2 o3:Obj}:(((w.alloc o).alloc o2).alloc o3).heap[w.heap.size]? = some o:=by
 rw[Below.heap_alloc _ _ _ (by simp;omega)];exact J0
theorem J7 {w:World} {o o2 o3:Obj}:(((w.alloc o).alloc o2).alloc o3).heap[w.heap.size+1]? = some o2:=by
 rw[Below.heap_alloc _ _ _ (by simp)];exact J4
theorem J9 {w:World} {o o2 o3:Obj}:(((w.alloc o).alloc o2).alloc o3).heap[w.heap.size+2]? = some o3:=by
 have q:=heap_alloc_new ((w.alloc o).alloc o2) o3;simpa using q
theorem z3c {P:Program} {fn:Func} {t t':Array Value} {R:Ending->World->Prop} (h:results fn t=results fn t'):∀ (ds:List Deferred) (u:FrameMode) (w:World),Leaves P fn t R ds u w->Leaves P fn t' R ds u w
 | [],.run,w,hL=>hL
 | [],.returning,w,hL=>by
  obtain⟨v,a,b⟩:=hL;exact⟨v,by rw[<-h];exact a,b⟩
 | [],.panicking c,w,hL=>hL
 | d :: ds,u,w,hL=>by
  obtain⟨hu,fv,cap,f,args,h1,h2,h3⟩:=hL;refine⟨hu,fv,cap,f,args,h1,h2,h3.mono ?_⟩;intro e u' w' q;cases e with
  | returned v=>exact z3c h ds _ _ q
  | panicked c=>exact z3c h ds _ _ q
  | outgrown=>exact q
theorem q4t {fn:Func} {p q:Tmp} {a b:TypeId} (hr:fn.results = #[.cell p a,.cell q b]) {d:Tmp} (h1:d ≠ p) (h2:d ≠ q) (t:Array Value) (v:Value):results fn (t.setIfInBounds d v)=results fn t:=by
 simp only[results,hr];simp[Array.getElem?_setIfInBounds_ne h1,Array.getElem?_setIfInBounds_ne h2]
theorem q4s {fn:Func} {p:Tmp} {a:TypeId} (hr:fn.results = #[.cell p a]) {d:Tmp} (h1:d ≠ p) (t:Array Value) (v:Value):results fn (t.setIfInBounds d v)=results fn t:=by
 simp only[results,hr];simp[Array.getElem?_setIfInBounds_ne h1]
theorem tq {fn:Func} {p q:Tmp} {c d:TypeId} (he:fn.results = #[.cell p c,.cell q d]) (i:Nat) {P:Program} {md:Region.Mode} {ops:Array Oper} {Q:Exit->Act->World->Prop} {S:World->Prop} {oi:Oper} {v:Value} {fuel:Nat} {done l':Array Bool} {a a':Act} {w:World}
  (h:wpAnyH P md ops Q S fuel l' a' w) (hi:ops[i]? = some oi:=by exact rfl) (hs:Region.noSelect ops=true:=by kernel_rfl) (hf:Region.free md ops done i=true:=by kernel_rfl) (hr:(Region.ready md ops done).contains i=true:=by kernel_rfl)
  (hw:Region.wanted oi (yielded ops a.tmps)=true:=by rfl)
  (hy:∀ w,S w->(execOp a.eval oi).run P w=.ok (.value v) w:=by intro w hSw;(try dsimp only at hSw);go_simp;(try with_reducible rfl))
  (hS:S w:=by assumption)
  (hl:done.setIfInBounds i true=l':=by (try simp only[List.setIfInBounds_toArray,List.set_cons_zero,List.set_cons_succ]);exact rfl)
  (ha:a.put oi.dst v=a':=by (try simp only[Act.put,xa,xb,xc,xd,xe,xf]);exact rfl)
  (h1:oi.dst ≠ some p:=by decide) (h2:oi.dst ≠ some q:=by decide) (hQ:∀ c a w,results fn (a.put oi.dst v).tmps=results fn a.tmps->Q (.panic c) (a.put oi.dst v) w->Q (.panic c) a w:=by exact fun _ _ _ e h=>z3c e _ _ _ h):wpAnyH P md ops Q S (fuel+1) done a w:=
 tk i h hi hs hf hr hw hy hS hl ha fun c a w=>hQ c a w (by
  generalize oi.dst=o at h1 h2 ⊢
  cases o with
  | none=>rfl
  | some d=>exact q4t he (by simpa using h1) (by simpa using h2) _ _)
theorem tp {fn:Func} {p:Tmp} {c:TypeId} (he:fn.results = #[.cell p c]) (i:Nat) {P:Program} {md:Region.Mode} {ops:Array Oper} {Q:Exit->Act->World->Prop} {S:World->Prop} {oi:Oper} {v:Value} {fuel:Nat} {done l':Array Bool} {a a':Act} {w:World}
  (h:wpAnyH P md ops Q S fuel l' a' w) (hi:ops[i]? = some oi:=by exact rfl) (hs:Region.noSelect ops=true:=by kernel_rfl) (hf:Region.free md ops done i=true:=by kernel_rfl) (hr:(Region.ready md ops done).contains i=true:=by kernel_rfl)
  (hw:Region.wanted oi (yielded ops a.tmps)=true:=by rfl)
  (hy:∀ w,S w->(execOp a.eval oi).run P w=.ok (.value v) w:=by intro w hSw;(try dsimp only at hSw);go_simp;(try with_reducible rfl))
  (hS:S w:=by assumption)
  (hl:done.setIfInBounds i true=l':=by (try simp only[List.setIfInBounds_toArray,List.set_cons_zero,List.set_cons_succ]);exact rfl)
  (ha:a.put oi.dst v=a':=by (try simp only[Act.put,xa,xb,xc,xd,xe,xf]);exact rfl)
  (h1:oi.dst ≠ some p:=by decide) (hQ:∀ c a w,results fn (a.put oi.dst v).tmps=results fn a.tmps->Q (.panic c) (a.put oi.dst v) w->Q (.panic c) a w:=by exact fun _ _ _ e h=>z3c e _ _ _ h):wpAnyH P md ops Q S (fuel+1) done a w:=
 tk i h hi hs hf hr hw hy hS hl ha fun c a w=>hQ c a w (by
  generalize oi.dst=o at h1 ⊢
  cases o with
  | none=>rfl
  | some d=>exact q4s he (by simpa using h1) _ _)
theorem J2 {P:Program} {fn:Func} {p q:Tmp} {a b:TypeId} {t:Array Value} {w:World} {v1 v2:Value} {A1 A2:Addr} (hr:fn.results = #[.cell p a,.cell q b]) (hp:t.getD p undef=.pointer (some A1)) (hq:t.getD q undef=.pointer (some A2)) (r1:(loadVar a A1).run P w=.ok v1 w) (r2:(loadVar b A2).run P w=.ok v2 w):(results fn t).run P w=.ok (.tuple #[v1,v2]) w:=by
 have hp':t[p]?.getD undef=.pointer (some A1):=by simpa using hp
 have hq':t[q]?.getD undef=.pointer (some A2):=by simpa using hq
 simp only[results,hr];simp[Sem.run_bind,hp',hq',asAddr,r1,r2,Result.andThen]
theorem Out.trans' {a b c:World} {g h:Nat} (o:Out 0 0 a b) (q:Out g h b c) (hg:a.heap.size<=g):Out 0 0 a c:=
 ⟨q.1.trans o.1,q.2.1.trans o.2.1,q.2.2.1.trans o.2.2.1,Nat.le_trans o.size q.size,fun k hk hn=>(q.block (Nat.lt_of_lt_of_le hk o.size) (by omega)).trans (o.block hk hn)⟩
theorem F5 {w:World} {g:Nat} {x1 x2 x3 x4 x5:Int} (hg:w.heap[g]? = some (.cells #[.int .i64 x1,.int .i64 x2,.int .i64 x3,.int .i64 x4,.int .i64 x5] 81 (0,0))):(loadVar 81 ⟨g,0,none⟩).run Tryz.prog w=.ok (.agg #[.int .i64 x1,.int .i64 x2,.int .i64 x3,.int .i64 x4,.int .i64 x5]) w:=
 run_loadVar_row w g 81 81 _ (0,0) _ hg Tryz.underlying81 rfl (x3s x1 x2 x3 x4 x5)
theorem J5 {w:World} {g:Nat} {x1 x2:Int} (hg:w.heap[g]? = some (.cells #[.int .i64 x1,.int .i64 x2] 46 (0,0))):(loadVar 46 ⟨g,0,none⟩).run Tryz.prog w=.ok (.agg #[.int .i64 x1,.int .i64 x2]) w:=
 run_loadVar_row w g 46 46 _ (0,0) _ hg Tryz.underlying46 rfl (x3t x1 x2)
theorem Y7 {P:Program} {fn:Func} {t:Array Value} {R:Ending->World->Prop} {w:World} {v:Value} (h:(results fn t).run P w=.ok v w) (hR:R (.returned v) w):Leaves P fn t R [] .returning w:=⟨v,h,hR⟩
section
variable {w:World} {lo hi hb:Nat} {s:Nat->Nat} {n cap:Nat} {r:Raw}
theorem j8b (hr:RawAt w lo hi s n cap r) (hA:U7 n r) (hH:cq w hb 0=some (Pq (s 14))) (k m:Int) {t1 t2 t3 t4:Int} (hM:r.M m=some (t1,t2,t3,t4)) (cL:opE r k m=0):Kz 71 #[Pq hb,Vz k m] w fun e w'=>e=.returned (.tuple #[Wz m t1 t2 t3 t4,Vz 0 0])/\Out 0 0 w w':=by
 have nI:∀ (fn:Fn) (first cap:Array Value) (w:World),(Instr.makeFunc fn first cap).run Tryz.prog w=.ok (.func fn first cap) w:=fun _ _ _ _=>rfl
 have fV:=Q3 (J8 (w:=w) (o:=Dz k m 32) (o2:=Ez 0 0 0 0 0 81) (o3:=Dz 0 0 46));have fR:=Q3 (J7 (w:=w) (o:=Dz k m 32) (o2:=Ez 0 0 0 0 0 81) (o3:=Dz 0 0 46));have fF:=Q3 (J9 (w:=w) (o:=Dz k m 32) (o2:=Ez 0 0 0 0 0 81) (o3:=Dz 0 0 46));have aH:=Q3 ((((Out.refl 0 0 w).alloc (Dz k m 32)).alloc (Ez 0 0 0 0 0 81)).alloc (Dz 0 0 46));have Hr:=Q3 hr;have HA:=Q3 hA;obtain⟨gv,aN⟩:∃ g,w.heap.size=g:=⟨_,rfl⟩
 have aW:=Q3 aN;obtain⟨V2,aQ⟩:∃ V,((w.alloc (Dz k m 32)).alloc (Ez 0 0 0 0 0 81)).alloc (Dz 0 0 46)=V:=⟨_,rfl⟩
 rw[aQ,aN] at fV fR fF;rw[aQ] at aH;have iF:=Q3 (aH.out.cell hH z0);clear hH hr hA;obtain⟨u0,u1,u2,u3⟩:=Q5 fV.out;have kW:=Q3 cL;have HM:=Q3 hM;clear cL hM;have kY:Hid (∀ V,Out 0 0 V2 V->Kz 49 #[Pq hb,Vz k m] V fun e w'=>e=.returned (Wz m t1 t2 t3 t4)/\Out 0 0 V w'):=fun V o=>by
  obtain⟨a1,a2,a3,a4,h1,h2⟩:=z1f (Hr.out.quiet (aH.out.trans o)) HA.out (o.cell iF.out z0) k m kW.out;rw[HM.out] at h1;simp only[Option.some.injEq,Prod.mk.injEq] at h1;obtain⟨rfl,rfl,rfl,rfl⟩:=h1;exact h2
 go_enter_defers Tryz.func71,Tryz.ntmps71
 go_wp2_with fail;(try rw[aQ]);(try rw[aN]);clear aQ aN;refine wp_region_held_drew (S:=fun w'=>cq w' gv 0=some (Iz k)/\cq w' gv 1=some (Iz m)) (by kernel_rfl) ?hS181 (fun aB=>?rest181)
 case hS181=>exact⟨u0,u1⟩
 obtain⟨Z0,hZ⟩:∃ Z,V2.drew=Z:=⟨_,rfl⟩
 have O:Out 0 0 V2 Z0:=by rw[<-hZ];exact(Out.refl 0 0 _).drew
 rw[hZ] at aB ⊢;clear hZ;refine tq Tryz.results71 0 ?_;refine tq Tryz.results71 2 ?_;refine tq Tryz.results71 4 ?_;refine rd1 1 fun KK hK=>?_
 go_simp;refine(U2 _ _).mono ?_;rintro e w5 ⟨rfl,he⟩;rw[he];clear he w5;refine hK.out _ _ (aB) fun aB=>?_
 clear hK KK;refine rd1 3 fun KK hK=>?_
 go_simp;refine(kY.out _ O).mono ?_;rintro e X3 ⟨rfl,q3⟩;replace O:=O.trans q3;refine hK.out _ _ ⟨q3.cell aB.1 z0,q3.cell aB.2 z0⟩ fun aB=>?_
 clear q3 hK KK;refine rd1 5 fun KK hK=>?_
 simp only[xa,xb,xc];have fR3:=O.heap fR.out z0;obtain⟨y0,y1,y2,y3,y4,y5⟩:=K7 fR3;go_simp;clear y0 y1 y2 y3 y4 y5;obtain⟨X5,hY⟩:∃ V,(((((X3.setCell ⟨gv+1,0,none⟩ (Iz m)).setCell ⟨gv+1,1,none⟩ (Iz t1)).setCell ⟨gv+1,2,none⟩ (Iz t2)).setCell ⟨gv+1,3,none⟩ (Iz t3)).setCell ⟨gv+1,4,none⟩ (Iz t4))=V:=⟨_,rfl⟩
 have q5:Out (gv+1) (gv+2) X3 X5:=by rw[<-hY];exact(Out.refl _ _ _).set5 z1 _ _ _ _ _
 have eR:Hid (X5.heap[gv+1]? = some (Ez m t1 t2 t3 t4 81)):=by rw[<-hY];exact G1 fR3
 have HP5:Hid (Out 0 0 w X5):=by rw[<-hY];exact(aH.out.trans O).set5 (.inr (by have:=aW.out;omega)) _ _ _ _ _
 have fC:=Q3 (q5.heap (O.heap fF.out z0) (.inr (Nat.le_refl _)));(try rw[hY]);clear hY O fR3;refine hK.out _ _ ⟨q5.cell aB.1 (.inl (Nat.lt_succ_self _)),q5.cell aB.2 (.inl (Nat.lt_succ_self _))⟩ fun aB=>?_
 clear q5 hK KK;refine rd1 6 fun KK hK=>?_
 simp only[xa,xb,xc];obtain⟨y0,y1,y2,y3⟩:=flt_facts fC.out;go_simp;clear y0 y1 y2 y3;obtain⟨X6,hY⟩:∃ V,(X5.setCell ⟨gv+2,0,none⟩ (Iz 0)).setCell ⟨gv+2,1,none⟩ (Iz 0)=V:=⟨_,rfl⟩
 have q6:Out (gv+2) (gv+3) X5 X6:=by rw[<-hY];exact(Out.refl _ _ _).set2 z1 _ _
 have HR6:=Q3 (q6.heap eR.out (.inl (Nat.lt_succ_self _)));have HP6:Hid (Out 0 0 w X6):=by rw[<-hY];exact HP5.out.set2 (.inr (by have:=aW.out;omega)) _ _
 have iA:Hid (X6.heap[gv+2]? = some (Dz 0 0 46)):=by rw[<-hY];exact J3 fC.out
 (try rw[hY]);clear hY;refine hK.out _ _ ⟨q6.cell aB.1 (.inl (by omega)),q6.cell aB.2 (.inl (by omega))⟩ fun aB=>?_
 clear q6 hK KK;refine dn ?_;clear aB;go_wp2;refine leaves_cons (f:=126) (args:=#[.pointer (some ⟨gv+2,0,none⟩)]) (by simp) (by simp[go_sem]) ?_;refine(z9u iA.out).mono ?_;rintro e u' w9 ⟨rfl,rfl,f9,q9⟩;exact Y7 (J2 Tryz.results71 rfl rfl (F5 (q9.heap HR6.out (.inl (Nat.lt_succ_self _)))) (J5 f9)) ⟨rfl,HP6.out.trans' q9 (by have:=aW.out;omega)⟩
theorem x2r (hr:RawAt w lo hi s n cap r) (hA:U7 n r) (hH:cq w hb 0=some (Pq (s 14))) (k m:Int) (cL:opE r k m ≠ 0):Kz 71 #[Pq hb,Vz k m] w fun e w'=>e=.returned (.tuple #[Wz 0 0 0 0 0,Vz (opE r k m) (opA r k m)])/\Out 0 0 w w':=by
 have nI:∀ (fn:Fn) (first cap:Array Value) (w:World),(Instr.makeFunc fn first cap).run Tryz.prog w=.ok (.func fn first cap) w:=fun _ _ _ _=>rfl
 have fV:=Q3 (J8 (w:=w) (o:=Dz k m 32) (o2:=Ez 0 0 0 0 0 81) (o3:=Dz 0 0 46));have fR:=Q3 (J7 (w:=w) (o:=Dz k m 32) (o2:=Ez 0 0 0 0 0 81) (o3:=Dz 0 0 46));have fF:=Q3 (J9 (w:=w) (o:=Dz k m 32) (o2:=Ez 0 0 0 0 0 81) (o3:=Dz 0 0 46));have aH:=Q3 ((((Out.refl 0 0 w).alloc (Dz k m 32)).alloc (Ez 0 0 0 0 0 81)).alloc (Dz 0 0 46));have Hr:=Q3 hr;have HA:=Q3 hA;obtain⟨gv,aN⟩:∃ g,w.heap.size=g:=⟨_,rfl⟩
 have aW:=Q3 aN;obtain⟨V2,aQ⟩:∃ V,((w.alloc (Dz k m 32)).alloc (Ez 0 0 0 0 0 81)).alloc (Dz 0 0 46)=V:=⟨_,rfl⟩
 rw[aQ,aN] at fV fR fF;rw[aQ] at aH;have iF:=Q3 (aH.out.cell hH z0);clear hH hr hA;obtain⟨u0,u1,u2,u3⟩:=Q5 fV.out;have kW:=Q3 cL;clear cL;have kY:Hid (∀ V,Out 0 0 V2 V->Kz 49 #[Pq hb,Vz k m] V fun e w'=>e=.panicked [z0o (opE r k m) (opA r k m)]/\Out 0 0 V w'):=fun V o=>q2g (Hr.out.quiet (aH.out.trans o)) HA.out (o.cell iF.out z0) k m kW.out
 go_enter_defers Tryz.func71,Tryz.ntmps71
 go_wp2_with fail;(try rw[aQ]);(try rw[aN]);clear aQ aN;refine wp_region_held_drew (S:=fun w'=>cq w' gv 0=some (Iz k)/\cq w' gv 1=some (Iz m)) (by kernel_rfl) ?hS189 (fun aB=>?rest189)
 case hS189=>exact⟨u0,u1⟩
 obtain⟨Z0,hZ⟩:∃ Z,V2.drew=Z:=⟨_,rfl⟩
 have O:Out 0 0 V2 Z0:=by rw[<-hZ];exact(Out.refl 0 0 _).drew
 rw[hZ] at aB ⊢;clear hZ;refine tq Tryz.results71 0 ?_;refine tq Tryz.results71 2 ?_;refine tq Tryz.results71 4 ?_;refine rd1 1 fun KK hK=>?_
 go_simp;refine(U2 _ _).mono ?_;rintro e w5 ⟨rfl,he⟩;rw[he];clear he w5;refine hK.out _ _ (aB) fun aB=>?_
 clear hK KK;refine rd1 3 fun KK hK=>?_
 go_simp;refine(kY.out _ O).mono ?_;rintro e X3 ⟨rfl,q3⟩;simp;refine leaves_cons (f:=126) (args:=#[.pointer (some ⟨gv+2,0,none⟩)]) (by simp) (by simp[go_sem]) ?_;have O3:=O.trans q3;refine(z9v (O3.heap fF.out z0)).mono ?_;rintro e u' w9 ⟨rfl,rfl,f9,q9⟩;exact Y7 (J2 Tryz.results71 rfl rfl (F5 (q9.heap (O3.heap fR.out z0) (.inl (Nat.lt_succ_self _)))) (J5 f9)) ⟨rfl,(aH.out.trans O3).trans' q9 (by have:=aW.out;omega)⟩
end
end Go.Proofs.YtjgnogflgoihfaaGreatDoor
