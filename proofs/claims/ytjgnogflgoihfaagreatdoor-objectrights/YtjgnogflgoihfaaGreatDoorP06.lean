import Derived.Test.YtjgnogflgoihfaaGreatDoorP05
namespace Go.Proofs.YtjgnogflgoihfaaGreatDoor
open Go.RowKit
set_option linter.unusedVariables false
set_option maxRecDepth 100000
set_option maxHeartbeats 16000000
set_option linter.unusedSimpArgs false
theorem q8w {fn:Func} {p:Tmp} {a:Act} {w:World} {g:Nat} {x1 x2 x3 x4 x5:Int} {post:Ending->World->Prop} (hr:fn.results = #[.cell p 81]) (hp:a.tmps.getD p undef=.pointer (some ⟨g,0,none⟩))
  (hd:a.defers=[]) (hg:w.heap[g]? = some (.cells #[.int .i64 x1,.int .i64 x2,.int .i64 x3,.int .i64 x4,.int .i64 x5] 81 (0,0))) (h:post (.returned (.agg #[.int .i64 x1,.int .i64 x2,.int .i64 x3,.int .i64 x4,.int .i64 x5])) w):bodyPost Tryz.prog fn post Exit.ret a w:=
 bodyPost_ret (v:=.agg #[.int .i64 x1,.int .i64 x2,.int .i64 x3,.int .i64 x4,.int .i64 x5]) (results_cell_row hr a.tmps _ g 81 _ (0,0) _ hp hg Tryz.underlying81 rfl (x4e x1 x2 x3 x4 x5)) hd h
theorem G6 {w:World} {g:Nat} {x1 x2 x3 x4 x5:Int} {y1 y2 y3 y4 y5:Value} (h:w.heap[g]? = some (.cells #[y1,y2,y3,y4,y5] 81 (0,0))):(((((w.setCell ⟨g,0,none⟩ (.int .i64 x1)).setCell ⟨g,1,none⟩ (.int .i64 x2)).setCell ⟨g,2,none⟩ (.int .i64 x3)).setCell ⟨g,3,none⟩ (.int .i64 x4)).setCell ⟨g,4,none⟩ (.int .i64 x5)).heap[g]? = some (.cells #[.int .i64 x1,.int .i64 x2,.int .i64 x3,.int .i64 x4,.int .i64 x5] 81 (0,0)):=by
 simp[World.setCell,Array.getElem?_modify,h]
theorem Out.set5 {lo hi:Nat} {a w:World} (h:Out lo hi a w) {g:Nat} (hp:(lo<=g/\g<hi)\/a.heap.size<=g) (x1 x2 x3 x4 x5:Value):Out lo hi a (((((w.setCell ⟨g,0,none⟩ x1).setCell ⟨g,1,none⟩ x2).setCell ⟨g,2,none⟩ x3).setCell ⟨g,3,none⟩ x4).setCell ⟨g,4,none⟩ x5):=
 ((((h.setCell (p:=⟨g,0,none⟩) hp _).setCell (p:=⟨g,1,none⟩) hp _).setCell (p:=⟨g,2,none⟩) hp _).setCell (p:=⟨g,3,none⟩) hp _).setCell (p:=⟨g,4,none⟩) hp _
theorem J7 {w:World} {o o2:Obj}:((w.alloc o).alloc o2).heap[w.heap.size+1]? = some o2:=by
 have q:=heap_alloc_new (w.alloc o) o2;simpa using q
def opE (r:Raw) (k m:Int):Int:=if k=2/\r.M m ≠ none then z6u r m else 30
def opA (r:Raw) (k m:Int):Int:=if k=2/\r.M m ≠ none then z5m r m else 0
section
variable {w:World} {lo hi hb:Nat} {s:Nat->Nat} {n cap:Nat} {r:Raw}
theorem j6o (hr:RawAt w lo hi s n cap r) (hA:U6 n r) (hH:cq w hb 0=some (Pq (s 14))) (k m:Int) (hM:r.M m=none):Kz 49 #[Pq hb,Vz k m] w fun e w'=>e=.panicked [z0u 30 0]/\Out 0 0 w w':=by
 have fV:=Q3 (J3 (w:=w) (o:=Dz k m 32) (o2:=Ez 0 0 0 0 0 81));have fR:=Q3 (J7 (w:=w) (o:=Dz k m 32) (o2:=Ez 0 0 0 0 0 81));have aI:=Q3 (((Out.refl 0 0 w).alloc (Dz k m 32)).alloc (Ez 0 0 0 0 0 81));have Hr:=Q3 hr;have HM:=Q3 hM;have HA:=Q3 hA;obtain⟨gv,aR⟩:∃ g,w.heap.size=g:=⟨_,rfl⟩
 have bD:=Q3 aR;obtain⟨V2,aS⟩:∃ V,(w.alloc (Dz k m 32)).alloc (Ez 0 0 0 0 0 81)=V:=⟨_,rfl⟩
 rw[aS,aR] at fV fR;rw[aS] at aI;have gO:=aI.out.cell hH z0;clear hH hr hM hA;obtain⟨u0,u1,u2,u3⟩:=Q5 fV.out;have aL:hb<V2.heap.size/\gv<V2.heap.size:=⟨Y7 gO,Y7 u1⟩
 have Hlow:=Q3 aL;have HRlt:Hid (gv+1<V2.heap.size):=Q8 fR.out;go_enter Tryz.func49,Tryz.ntmps49
 go_wp2_with fail;(try rw[aS]);(try rw[aR]);clear aS aR;have HB:Hid (∀ V,Out 0 0 V2 V->Kz 100 #[Pq (s 14),Iz m] V fun e w'=>e=.returned (.tuple #[Wz 0 0 0 0 0,.bool false])/\Out 0 0 V w'):=fun V o=>z5c (Hr.out.quiet (aI.out.trans o)) HM.out
 refine wp_region_held_drew (S:=fun w'=>cq w' hb 0=some (Pq (s 14))/\cq w' gv 1=some (Iz m)) (by kernel_rfl) ?hS61 (fun aB=>?rest61)
 case hS61=>exact⟨gO,u1⟩
 obtain⟨Z1,hZ⟩:∃ Z,V2.drew=Z:=⟨_,rfl⟩
 have O:Out 0 0 V2 Z1:=by rw[<-hZ];exact(Out.refl 0 0 _).drew
 rw[hZ] at aB ⊢;clear hZ;refine tk 0 ?_;refine tk 1 ?_;refine tk 2 ?_;refine tk 3 ?_;refine tk 4 ?_;refine tk 5 ?_;refine rd2 6 10 (fun KK hK=>?_) fun KK hK=>?_
 ·simp only[xa,xb,xc];go_simp;refine(HB.out _ O).mono ?_;rintro e Z1C ⟨rfl,q1⟩;replace O:=O.trans q1;refine hK.out _ _ ⟨q1.cell aB.1 z0,q1.cell aB.2 z0⟩ fun aB=>?_
  clear q1 hK KK;refine tk 7 ?_;refine tk 8 ?_;refine tk 9 ?_;refine rd1 10 fun KK hK=>?_
  simp only[xa,xb,xc];go_simp;obtain⟨gA,aG⟩:∃ g,Z1C.heap.size=g:=⟨_,rfl⟩
  obtain⟨bX,hY⟩:∃ V,Z1C.alloc (Ez 0 0 0 0 0 81)=V:=⟨_,rfl⟩
  have qA:Out 0 0 Z1C bX:=by rw[<-hY];exact(Out.refl 0 0 _).alloc _
  have fA:bX.heap[gA]? = some (Ez 0 0 0 0 0 81):=by rw[<-hY,<-aG];exact heap_alloc_new _ _
  have bF:V2.heap.size<=gA:=by have:=O.size;omega
  (try rw[hY]);(try rw[aG]);clear hY aG;replace O:=O.trans qA;refine hK.out _ _ ⟨qA.cell aB.1 z0,qA.cell aB.2 z0⟩ fun aB=>?_
  clear qA hK KK;refine rd1 11 fun KK hK=>?_
  simp only[xa,xb,xc];obtain⟨y0,y1,y2,y3,y4,y5⟩:=W7 fA;go_simp;clear y0 y1 y2 y3 y4 y5;obtain⟨bL,hY⟩:∃ V,(((((bX.setCell ⟨gA,0,none⟩ (Iz 0)).setCell ⟨gA,1,none⟩ (Iz 0)).setCell ⟨gA,2,none⟩ (Iz 0)).setCell ⟨gA,3,none⟩ (Iz 0)).setCell ⟨gA,4,none⟩ (Iz 0))=V:=⟨_,rfl⟩
  have qS:Out gA (gA+1) bX bL:=by rw[<-hY];exact(Out.refl _ _ _).zo5 z1 _ _ _ _ _
  replace O:Out 0 0 V2 bL:=by rw[<-hY];exact O.zo5 (.inr bF) _ _ _ _ _
  have fB:bL.heap[gA]? = some (Ez 0 0 0 0 0 81):=by rw[<-hY];simp[World.setCell,Array.getElem?_modify,fA]
  (try rw[hY]);clear hY fA;refine hK.out _ _ ⟨qS.cell aB.1 (.inl (by have:=aL;omega)),qS.cell aB.2 (.inl (by have:=aL;omega))⟩ fun aB=>?_
  clear qS hK KK;refine tk 12 ?_;refine dn ?_;have HE:=Q3 (aI.out.trans O);obtain⟨x0,x1,x2,x3⟩:=Q5 (O.heap fV.out z0);clear O fB aB;go_wp2_with fail;refine(z2z _ _).mono ?_;rintro e V9 ⟨rfl,rfl⟩;exact⟨rfl,rfl,HE.out⟩
 ·simp only[xa,xb,xc];go_simp;obtain⟨gA,aG⟩:∃ g,Z1.heap.size=g:=⟨_,rfl⟩
  obtain⟨kS,hY⟩:∃ V,Z1.alloc (Ez 0 0 0 0 0 81)=V:=⟨_,rfl⟩
  have qA:Out 0 0 Z1 kS:=by rw[<-hY];exact(Out.refl 0 0 _).alloc _
  have fA:kS.heap[gA]? = some (Ez 0 0 0 0 0 81):=by rw[<-hY,<-aG];exact heap_alloc_new _ _
  have bF:V2.heap.size<=gA:=by have:=O.size;omega
  (try rw[hY]);(try rw[aG]);clear hY aG;replace O:=O.trans qA;refine hK.out _ _ ⟨qA.cell aB.1 z0,qA.cell aB.2 z0⟩ fun aB=>?_
  clear qA hK KK;refine rd1 6 fun KK hK=>?_
  simp only[xa,xb,xc];go_simp;refine(HB.out _ O).mono ?_;rintro e Z1AC ⟨rfl,q1⟩;replace O:=O.trans q1;replace fA:=q1.heap fA z0;refine hK.out _ _ ⟨q1.cell aB.1 z0,q1.cell aB.2 z0⟩ fun aB=>?_
  clear q1 hK KK;refine tk 7 ?_;refine tk 8 ?_;refine tk 9 ?_;refine rd1 11 fun KK hK=>?_
  simp only[xa,xb,xc];obtain⟨y0,y1,y2,y3,y4,y5⟩:=W7 fA;go_simp;clear y0 y1 y2 y3 y4 y5;obtain⟨bM,hY⟩:∃ V,(((((Z1AC.setCell ⟨gA,0,none⟩ (Iz 0)).setCell ⟨gA,1,none⟩ (Iz 0)).setCell ⟨gA,2,none⟩ (Iz 0)).setCell ⟨gA,3,none⟩ (Iz 0)).setCell ⟨gA,4,none⟩ (Iz 0))=V:=⟨_,rfl⟩
  have qS:Out gA (gA+1) Z1AC bM:=by rw[<-hY];exact(Out.refl _ _ _).zo5 z1 _ _ _ _ _
  replace O:Out 0 0 V2 bM:=by rw[<-hY];exact O.zo5 (.inr bF) _ _ _ _ _
  have fB:bM.heap[gA]? = some (Ez 0 0 0 0 0 81):=by rw[<-hY];simp[World.setCell,Array.getElem?_modify,fA]
  (try rw[hY]);clear hY fA;refine hK.out _ _ ⟨qS.cell aB.1 (.inl (by have:=aL;omega)),qS.cell aB.2 (.inl (by have:=aL;omega))⟩ fun aB=>?_
  clear qS hK KK;refine tk 12 ?_;refine dn ?_;have HE:=Q3 (aI.out.trans O);obtain⟨x0,x1,x2,x3⟩:=Q5 (O.heap fV.out z0);clear O fB aB;go_wp2_with fail;refine(z2z _ _).mono ?_;rintro e V9 ⟨rfl,rfl⟩;exact⟨rfl,rfl,HE.out⟩
theorem j6n (hr:RawAt w lo hi s n cap r) (hA:U6 n r) (hH:cq w hb 0=some (Pq (s 14))) (k m:Int) {t1 t2 t3 t4:Int} (hM:r.M m=some (t1,t2,t3,t4)) (hk:k ≠ 2):Kz 49 #[Pq hb,Vz k m] w fun e w'=>e=.panicked [z0u 30 0]/\Out 0 0 w w':=by
 have k2:(k == 2)=false:=by simpa using hk
 clear hk;have fV:=Q3 (J3 (w:=w) (o:=Dz k m 32) (o2:=Ez 0 0 0 0 0 81));have fR:=Q3 (J7 (w:=w) (o:=Dz k m 32) (o2:=Ez 0 0 0 0 0 81));have aI:=Q3 (((Out.refl 0 0 w).alloc (Dz k m 32)).alloc (Ez 0 0 0 0 0 81));have Hr:=Q3 hr;have HM:=Q3 hM;have HA:=Q3 hA;obtain⟨gv,aR⟩:∃ g,w.heap.size=g:=⟨_,rfl⟩
 have bD:=Q3 aR;obtain⟨V2,aS⟩:∃ V,(w.alloc (Dz k m 32)).alloc (Ez 0 0 0 0 0 81)=V:=⟨_,rfl⟩
 rw[aS,aR] at fV fR;rw[aS] at aI;have gO:=aI.out.cell hH z0;clear hH hr hM hA;obtain⟨u0,u1,u2,u3⟩:=Q5 fV.out;have aL:hb<V2.heap.size/\gv<V2.heap.size:=⟨Y7 gO,Y7 u1⟩
 have Hlow:=Q3 aL;have HRlt:Hid (gv+1<V2.heap.size):=Q8 fR.out;go_enter Tryz.func49,Tryz.ntmps49
 go_wp2_with fail;(try rw[aS]);(try rw[aR]);clear aS aR;have HB:Hid (∀ V,Out 0 0 V2 V->Kz 100 #[Pq (s 14),Iz m] V fun e w'=>e=.returned (.tuple #[Wz m t1 t2 t3 t4,.bool true])/\Out 0 0 V w'):=fun V o=>z0q (Hr.out.quiet (aI.out.trans o)) HM.out
 refine wp_region_held_drew (S:=fun w'=>cq w' hb 0=some (Pq (s 14))/\cq w' gv 1=some (Iz m)) (by kernel_rfl) ?hS82 (fun aB=>?rest82)
 case hS82=>exact⟨gO,u1⟩
 obtain⟨Z1,hZ⟩:∃ Z,V2.drew=Z:=⟨_,rfl⟩
 have O:Out 0 0 V2 Z1:=by rw[<-hZ];exact(Out.refl 0 0 _).drew
 rw[hZ] at aB ⊢;clear hZ;refine tk 0 ?_;refine tk 1 ?_;refine tk 2 ?_;refine tk 3 ?_;refine tk 4 ?_;refine tk 5 ?_;refine rd2 6 10 (fun KK hK=>?_) fun KK hK=>?_
 ·simp only[xa,xb,xc];go_simp;refine(HB.out _ O).mono ?_;rintro e Z1C ⟨rfl,q1⟩;replace O:=O.trans q1;refine hK.out _ _ ⟨q1.cell aB.1 z0,q1.cell aB.2 z0⟩ fun aB=>?_
  clear q1 hK KK;refine tk 7 ?_;refine tk 8 ?_;refine tk 9 ?_;refine rd1 10 fun KK hK=>?_
  simp only[xa,xb,xc];go_simp;obtain⟨gA,aG⟩:∃ g,Z1C.heap.size=g:=⟨_,rfl⟩
  obtain⟨bX,hY⟩:∃ V,Z1C.alloc (Ez 0 0 0 0 0 81)=V:=⟨_,rfl⟩
  have qA:Out 0 0 Z1C bX:=by rw[<-hY];exact(Out.refl 0 0 _).alloc _
  have fA:bX.heap[gA]? = some (Ez 0 0 0 0 0 81):=by rw[<-hY,<-aG];exact heap_alloc_new _ _
  have bF:V2.heap.size<=gA:=by have:=O.size;omega
  (try rw[hY]);(try rw[aG]);clear hY aG;replace O:=O.trans qA;refine hK.out _ _ ⟨qA.cell aB.1 z0,qA.cell aB.2 z0⟩ fun aB=>?_
  clear qA hK KK;refine rd1 11 fun KK hK=>?_
  simp only[xa,xb,xc];obtain⟨y0,y1,y2,y3,y4,y5⟩:=W7 fA;go_simp;clear y0 y1 y2 y3 y4 y5;obtain⟨bL,hY⟩:∃ V,(((((bX.setCell ⟨gA,0,none⟩ (Iz m)).setCell ⟨gA,1,none⟩ (Iz t1)).setCell ⟨gA,2,none⟩ (Iz t2)).setCell ⟨gA,3,none⟩ (Iz t3)).setCell ⟨gA,4,none⟩ (Iz t4))=V:=⟨_,rfl⟩
  have qS:Out gA (gA+1) bX bL:=by rw[<-hY];exact(Out.refl _ _ _).zo5 z1 _ _ _ _ _
  replace O:Out 0 0 V2 bL:=by rw[<-hY];exact O.zo5 (.inr bF) _ _ _ _ _
  have fB:bL.heap[gA]? = some (Ez m t1 t2 t3 t4 81):=by rw[<-hY];simp[World.setCell,Array.getElem?_modify,fA]
  (try rw[hY]);clear hY fA;refine hK.out _ _ ⟨qS.cell aB.1 (.inl (by have:=aL;omega)),qS.cell aB.2 (.inl (by have:=aL;omega))⟩ fun aB=>?_
  clear qS hK KK;refine tk 12 ?_;refine dn ?_;have HE:=Q3 (aI.out.trans O);obtain⟨x0,x1,x2,x3⟩:=Q5 (O.heap fV.out z0);clear O fB aB;go_wp2_with fail;refine(z2z _ _).mono ?_;rintro e V9 ⟨rfl,rfl⟩;exact⟨rfl,rfl,HE.out⟩
 ·simp only[xa,xb,xc];go_simp;obtain⟨gA,aG⟩:∃ g,Z1.heap.size=g:=⟨_,rfl⟩
  obtain⟨kS,hY⟩:∃ V,Z1.alloc (Ez 0 0 0 0 0 81)=V:=⟨_,rfl⟩
  have qA:Out 0 0 Z1 kS:=by rw[<-hY];exact(Out.refl 0 0 _).alloc _
  have fA:kS.heap[gA]? = some (Ez 0 0 0 0 0 81):=by rw[<-hY,<-aG];exact heap_alloc_new _ _
  have bF:V2.heap.size<=gA:=by have:=O.size;omega
  (try rw[hY]);(try rw[aG]);clear hY aG;replace O:=O.trans qA;refine hK.out _ _ ⟨qA.cell aB.1 z0,qA.cell aB.2 z0⟩ fun aB=>?_
  clear qA hK KK;refine rd1 6 fun KK hK=>?_
  simp only[xa,xb,xc];go_simp;refine(HB.out _ O).mono ?_;rintro e Z1AC ⟨rfl,q1⟩;replace O:=O.trans q1;replace fA:=q1.heap fA z0;refine hK.out _ _ ⟨q1.cell aB.1 z0,q1.cell aB.2 z0⟩ fun aB=>?_
  clear q1 hK KK;refine tk 7 ?_;refine tk 8 ?_;refine tk 9 ?_;refine rd1 11 fun KK hK=>?_
  simp only[xa,xb,xc];obtain⟨y0,y1,y2,y3,y4,y5⟩:=W7 fA;go_simp;clear y0 y1 y2 y3 y4 y5;obtain⟨bM,hY⟩:∃ V,(((((Z1AC.setCell ⟨gA,0,none⟩ (Iz m)).setCell ⟨gA,1,none⟩ (Iz t1)).setCell ⟨gA,2,none⟩ (Iz t2)).setCell ⟨gA,3,none⟩ (Iz t3)).setCell ⟨gA,4,none⟩ (Iz t4))=V:=⟨_,rfl⟩
  have qS:Out gA (gA+1) Z1AC bM:=by rw[<-hY];exact(Out.refl _ _ _).zo5 z1 _ _ _ _ _
  replace O:Out 0 0 V2 bM:=by rw[<-hY];exact O.zo5 (.inr bF) _ _ _ _ _
  have fB:bM.heap[gA]? = some (Ez m t1 t2 t3 t4 81):=by rw[<-hY];simp[World.setCell,Array.getElem?_modify,fA]
  (try rw[hY]);clear hY fA;refine hK.out _ _ ⟨qS.cell aB.1 (.inl (by have:=aL;omega)),qS.cell aB.2 (.inl (by have:=aL;omega))⟩ fun aB=>?_
  clear qS hK KK;refine tk 12 ?_;refine dn ?_;have HE:=Q3 (aI.out.trans O);obtain⟨x0,x1,x2,x3⟩:=Q5 (O.heap fV.out z0);clear O fB aB;go_wp2_with fail;refine(z2z _ _).mono ?_;rintro e V9 ⟨rfl,rfl⟩;exact⟨rfl,rfl,HE.out⟩
theorem x4w (hr:RawAt w lo hi s n cap r) (hA:U6 n r) (hH:cq w hb 0=some (Pq (s 14))) (k m:Int) {t1 t2 t3 t4:Int} (hM:r.M m=some (t1,t2,t3,t4)) (hk:k=2) (hc:z6u r m=0):Kz 49 #[Pq hb,Vz k m] w fun e w'=>e=.returned (Wz m t1 t2 t3 t4)/\Out 0 0 w w':=by
 subst hk;have Hc:=Q3 hc;clear hc;have fV:=Q3 (J3 (w:=w) (o:=Dz 2 m 32) (o2:=Ez 0 0 0 0 0 81));have fR:=Q3 (J7 (w:=w) (o:=Dz 2 m 32) (o2:=Ez 0 0 0 0 0 81));have aI:=Q3 (((Out.refl 0 0 w).alloc (Dz 2 m 32)).alloc (Ez 0 0 0 0 0 81));have Hr:=Q3 hr;have HM:=Q3 hM;have HA:=Q3 hA;obtain⟨gv,aR⟩:∃ g,w.heap.size=g:=⟨_,rfl⟩
 have bD:=Q3 aR;obtain⟨V2,aS⟩:∃ V,(w.alloc (Dz 2 m 32)).alloc (Ez 0 0 0 0 0 81)=V:=⟨_,rfl⟩
 rw[aS,aR] at fV fR;rw[aS] at aI;have gO:=aI.out.cell hH Oz;clear hH hr hM hA;obtain⟨u0,u1,u2,u3⟩:=Q5 fV.out;have aL:hb<V2.heap.size/\gv<V2.heap.size:=⟨Y7 gO,Y7 u1⟩
 have Hlow:=Q3 aL;have HRlt:Hid (gv+1<V2.heap.size):=Q8 fR.out;go_enter Tryz.func49,Tryz.ntmps49
 go_wp2_with fail;(try rw[aS]);(try rw[aR]);clear aS aR;have HB:Hid (∀ V,Out 0 0 V2 V->Kz 100 #[Pq (s 14),Iz m] V fun e w'=>e=.returned (.tuple #[Wz m t1 t2 t3 t4,.bool true])/\Out 0 0 V w'):=fun V o=>z0q (Hr.out.quiet (aI.out.trans o)) HM.out
 have HC:Hid (∀ V,Out 0 0 V2 V->Kz 107 #[Pq (s 14),Iz m] V fun e w'=>e=.returned (Vz 0 (z5m r m))/\Out 0 0 V w'):=fun V o=>by
  have q:=z9h (Hr.out.quiet (aI.out.trans o)) HA.out m;rw[Hc.out] at q;exact q
 refine wp_region_held_drew (S:=fun w'=>cq w' hb 0=some (Pq (s 14))/\cq w' gv 1=some (Iz m)) (by kernel_rfl) ?hS103 (fun aB=>?rest103)
 case hS103=>exact⟨gO,u1⟩
 obtain⟨Z1,hZ⟩:∃ Z,V2.drew=Z:=⟨_,rfl⟩
 have O:Out 0 0 V2 Z1:=by rw[<-hZ];exact(Out.refl 0 0 _).drew
 rw[hZ] at aB ⊢;clear hZ;refine tk 0 ?_;refine tk 1 ?_;refine tk 2 ?_;refine tk 3 ?_;refine tk 4 ?_;refine tk 5 ?_;refine rd2 6 10 (fun KK hK=>?_) fun KK hK=>?_
 ·simp only[xa,xb,xc];go_simp;refine(HB.out _ O).mono ?_;rintro e Z1C ⟨rfl,q1⟩;replace O:=O.trans q1;refine hK.out _ _ ⟨q1.cell aB.1 Oz,q1.cell aB.2 Oz⟩ fun aB=>?_
  clear q1 hK KK;refine tk 7 ?_;refine tk 8 ?_;refine tk 9 ?_;refine rd1 10 fun KK hK=>?_
  simp only[xa,xb,xc];go_simp;obtain⟨gA,aG⟩:∃ g,Z1C.heap.size=g:=⟨_,rfl⟩
  obtain⟨bX,hY⟩:∃ V,Z1C.alloc (Ez 0 0 0 0 0 81)=V:=⟨_,rfl⟩
  have qA:Out 0 0 Z1C bX:=by rw[<-hY];exact(Out.refl 0 0 _).alloc _
  have fA:bX.heap[gA]? = some (Ez 0 0 0 0 0 81):=by rw[<-hY,<-aG];exact heap_alloc_new _ _
  have bF:V2.heap.size<=gA:=by have:=O.size;omega
  (try rw[hY]);(try rw[aG]);clear hY aG;replace O:=O.trans qA;refine hK.out _ _ ⟨qA.cell aB.1 Oz,qA.cell aB.2 Oz⟩ fun aB=>?_
  clear qA hK KK;refine rd1 11 fun KK hK=>?_
  simp only[xa,xb,xc];obtain⟨y0,y1,y2,y3,y4,y5⟩:=W7 fA;go_simp;clear y0 y1 y2 y3 y4 y5;obtain⟨bL,hY⟩:∃ V,(((((bX.setCell ⟨gA,0,none⟩ (Iz m)).setCell ⟨gA,1,none⟩ (Iz t1)).setCell ⟨gA,2,none⟩ (Iz t2)).setCell ⟨gA,3,none⟩ (Iz t3)).setCell ⟨gA,4,none⟩ (Iz t4))=V:=⟨_,rfl⟩
  have qS:Out gA (gA+1) bX bL:=by rw[<-hY];exact(Out.refl _ _ _).zo5 Lz _ _ _ _ _
  replace O:Out 0 0 V2 bL:=by rw[<-hY];exact O.zo5 (.inr bF) _ _ _ _ _
  have fB:bL.heap[gA]? = some (Ez m t1 t2 t3 t4 81):=by rw[<-hY];simp[World.setCell,Array.getElem?_modify,fA]
  (try rw[hY]);clear hY fA;refine hK.out _ _ ⟨qS.cell aB.1 (.inl (by have:=aL;omega)),qS.cell aB.2 (.inl (by have:=aL;omega))⟩ fun aB=>?_
  clear qS hK KK;refine tk 12 ?_;refine dn ?_;have HE:=Q3 O;have nF:=Q3 fB;have HgA:=Q3 bF;obtain⟨x0,x1,x2,x3⟩:=Q5 (O.heap fV.out Oz);clear O fB aB bF;go_wp2_with fail;refine(z0o _ _).mono ?_;rintro e V9 ⟨rfl,he⟩;rw[he];clear he V9;go_wp2_with fail;clear x0 x1 x2 x3;obtain⟨y0,y1,y2,y3,y4,y5⟩:=W7 nF.out;have hH9:=HE.out.cell gO Oz;refine wp_region_held_drew (S:=fun w'=>cq w' hb 0=some (Pq (s 14))/\cq w' gA 0=some (Iz m)/\Out 0 0 bL w') (by kernel_rfl) ?hS117 (fun aB=>?rest117)
  case hS117=>exact⟨hH9,y0,(Out.refl 0 0 _).drew⟩
  refine tk 0 ?_;refine tk 1 ?_;refine tk 2 ?_;refine tk 3 ?_;refine tk 4 ?_;refine tk 5 ?_;refine rd1 6 fun KK hK=>?_
  simp only[xa,xb,xc];go_simp;refine(HC.out _ (HE.out.trans aB.2.2)).mono ?_;rintro e V7 ⟨rfl,q7⟩;refine hK.out _ _ ⟨q7.cell aB.1 Oz,q7.cell aB.2.1 Oz,aB.2.2.trans q7⟩ fun aB=>?_
  clear q7 hK KK;refine rd1 7 fun KK hK=>?_
  simp only[xa,xb,xc];go_simp;refine(q7t _ _).mono ?_;rintro e V8 ⟨rfl,q8⟩;refine hK.out _ _ ⟨q8.cell aB.1 Oz,q8.cell aB.2.1 Oz,aB.2.2.trans q8⟩ fun aB=>?_
  clear q8 hK KK;refine dn ?_;have fB2:=aB.2.2.heap nF.out Oz;have jV:=Q3 (HE.out.trans aB.2.2);have fR2:=jV.out.heap fR.out Oz;obtain⟨pE,oO,oN,qJ,z4',z5'⟩:=W7 fB2;obtain⟨v0,v1,v2,v3,v4,v5⟩:=W7 fR2;have eH:=Q3 fR2;clear aB fR2 fB2 y0 y1 y2 y3 y4 y5 hH9;go_wp2;refine q8w Tryz.results49 rfl rfl (G6 eH.out) ⟨rfl,(aI.out.trans jV.out).set5 (.inr (by have:=bD.out;omega)) _ _ _ _ _⟩
 ·simp only[xa,xb,xc];go_simp;obtain⟨gA,aG⟩:∃ g,Z1.heap.size=g:=⟨_,rfl⟩
  obtain⟨kS,hY⟩:∃ V,Z1.alloc (Ez 0 0 0 0 0 81)=V:=⟨_,rfl⟩
  have qA:Out 0 0 Z1 kS:=by rw[<-hY];exact(Out.refl 0 0 _).alloc _
  have fA:kS.heap[gA]? = some (Ez 0 0 0 0 0 81):=by rw[<-hY,<-aG];exact heap_alloc_new _ _
  have bF:V2.heap.size<=gA:=by have:=O.size;omega
  (try rw[hY]);(try rw[aG]);clear hY aG;replace O:=O.trans qA;refine hK.out _ _ ⟨qA.cell aB.1 Oz,qA.cell aB.2 Oz⟩ fun aB=>?_
  clear qA hK KK;refine rd1 6 fun KK hK=>?_
  simp only[xa,xb,xc];go_simp;refine(HB.out _ O).mono ?_;rintro e Z1AC ⟨rfl,q1⟩;replace O:=O.trans q1;replace fA:=q1.heap fA Oz;refine hK.out _ _ ⟨q1.cell aB.1 Oz,q1.cell aB.2 Oz⟩ fun aB=>?_
  clear q1 hK KK;refine tk 7 ?_;refine tk 8 ?_;refine tk 9 ?_;refine rd1 11 fun KK hK=>?_
  simp only[xa,xb,xc];obtain⟨y0,y1,y2,y3,y4,y5⟩:=W7 fA;go_simp;clear y0 y1 y2 y3 y4 y5;obtain⟨bM,hY⟩:∃ V,(((((Z1AC.setCell ⟨gA,0,none⟩ (Iz m)).setCell ⟨gA,1,none⟩ (Iz t1)).setCell ⟨gA,2,none⟩ (Iz t2)).setCell ⟨gA,3,none⟩ (Iz t3)).setCell ⟨gA,4,none⟩ (Iz t4))=V:=⟨_,rfl⟩
  have qS:Out gA (gA+1) Z1AC bM:=by rw[<-hY];exact(Out.refl _ _ _).zo5 Lz _ _ _ _ _
  replace O:Out 0 0 V2 bM:=by rw[<-hY];exact O.zo5 (.inr bF) _ _ _ _ _
  have fB:bM.heap[gA]? = some (Ez m t1 t2 t3 t4 81):=by rw[<-hY];simp[World.setCell,Array.getElem?_modify,fA]
  (try rw[hY]);clear hY fA;refine hK.out _ _ ⟨qS.cell aB.1 (.inl (by have:=aL;omega)),qS.cell aB.2 (.inl (by have:=aL;omega))⟩ fun aB=>?_
  clear qS hK KK;refine tk 12 ?_;refine dn ?_;have HE:=Q3 O;have nF:=Q3 fB;have HgA:=Q3 bF;obtain⟨x0,x1,x2,x3⟩:=Q5 (O.heap fV.out Oz);clear O fB aB bF;go_wp2_with fail;refine(z0o _ _).mono ?_;rintro e V9 ⟨rfl,he⟩;rw[he];clear he V9;go_wp2_with fail;clear x0 x1 x2 x3;obtain⟨y0,y1,y2,y3,y4,y5⟩:=W7 nF.out;have hH9:=HE.out.cell gO Oz;refine wp_region_held_drew (S:=fun w'=>cq w' hb 0=some (Pq (s 14))/\cq w' gA 0=some (Iz m)/\Out 0 0 bM w') (by kernel_rfl) ?hS133 (fun aB=>?rest133)
  case hS133=>exact⟨hH9,y0,(Out.refl 0 0 _).drew⟩
  refine tk 0 ?_;refine tk 1 ?_;refine tk 2 ?_;refine tk 3 ?_;refine tk 4 ?_;refine tk 5 ?_;refine rd1 6 fun KK hK=>?_
  simp only[xa,xb,xc];go_simp;refine(HC.out _ (HE.out.trans aB.2.2)).mono ?_;rintro e V7 ⟨rfl,q7⟩;refine hK.out _ _ ⟨q7.cell aB.1 Oz,q7.cell aB.2.1 Oz,aB.2.2.trans q7⟩ fun aB=>?_
  clear q7 hK KK;refine rd1 7 fun KK hK=>?_
  simp only[xa,xb,xc];go_simp;refine(q7t _ _).mono ?_;rintro e V8 ⟨rfl,q8⟩;refine hK.out _ _ ⟨q8.cell aB.1 Oz,q8.cell aB.2.1 Oz,aB.2.2.trans q8⟩ fun aB=>?_
  clear q8 hK KK;refine dn ?_;have fB2:=aB.2.2.heap nF.out Oz;have jV:=Q3 (HE.out.trans aB.2.2);have fR2:=jV.out.heap fR.out Oz;obtain⟨pE,oO,oN,qJ,z4',z5'⟩:=W7 fB2;obtain⟨v0,v1,v2,v3,v4,v5⟩:=W7 fR2;have eH:=Q3 fR2;clear aB fR2 fB2 y0 y1 y2 y3 y4 y5 hH9;go_wp2;refine q8w Tryz.results49 rfl rfl (G6 eH.out) ⟨rfl,(aI.out.trans jV.out).set5 (.inr (by have:=bD.out;omega)) _ _ _ _ _⟩
theorem j2s (hr:RawAt w lo hi s n cap r) (hA:U6 n r) (hH:cq w hb 0=some (Pq (s 14))) (k m:Int) {t1 t2 t3 t4:Int} (hM:r.M m=some (t1,t2,t3,t4)) (hk:k=2) (hc:z6u r m ≠ 0):Kz 49 #[Pq hb,Vz k m] w fun e w'=>e=.panicked [z0u (z6u r m) (z5m r m)]/\Out 0 0 w w':=by
 subst hk;have HC0:=Q3 hc;clear hc;have fV:=Q3 (J3 (w:=w) (o:=Dz 2 m 32) (o2:=Ez 0 0 0 0 0 81));have fR:=Q3 (J7 (w:=w) (o:=Dz 2 m 32) (o2:=Ez 0 0 0 0 0 81));have aI:=Q3 (((Out.refl 0 0 w).alloc (Dz 2 m 32)).alloc (Ez 0 0 0 0 0 81));have Hr:=Q3 hr;have HM:=Q3 hM;have HA:=Q3 hA;obtain⟨gv,aR⟩:∃ g,w.heap.size=g:=⟨_,rfl⟩
 have bD:=Q3 aR;obtain⟨V2,aS⟩:∃ V,(w.alloc (Dz 2 m 32)).alloc (Ez 0 0 0 0 0 81)=V:=⟨_,rfl⟩
 rw[aS,aR] at fV fR;rw[aS] at aI;have gO:=aI.out.cell hH z0;clear hH hr hM hA;obtain⟨u0,u1,u2,u3⟩:=Q5 fV.out;have aL:hb<V2.heap.size/\gv<V2.heap.size:=⟨Y7 gO,Y7 u1⟩
 have Hlow:=Q3 aL;have HRlt:Hid (gv+1<V2.heap.size):=Q8 fR.out;go_enter Tryz.func49,Tryz.ntmps49
 go_wp2_with fail;(try rw[aS]);(try rw[aR]);clear aS aR;have HB:Hid (∀ V,Out 0 0 V2 V->Kz 100 #[Pq (s 14),Iz m] V fun e w'=>e=.returned (.tuple #[Wz m t1 t2 t3 t4,.bool true])/\Out 0 0 V w'):=fun V o=>z0q (Hr.out.quiet (aI.out.trans o)) HM.out
 have HC:Hid (∀ V,Out 0 0 V2 V->Kz 107 #[Pq (s 14),Iz m] V fun e w'=>e=.returned (Vz (z6u r m) (z5m r m))/\Out 0 0 V w'):=fun V o=>by
  have q:=z9h (Hr.out.quiet (aI.out.trans o)) HA.out m;exact q
 refine wp_region_held_drew (S:=fun w'=>cq w' hb 0=some (Pq (s 14))/\cq w' gv 1=some (Iz m)) (by kernel_rfl) ?hS142 (fun aB=>?rest142)
 case hS142=>exact⟨gO,u1⟩
 obtain⟨Z1,hZ⟩:∃ Z,V2.drew=Z:=⟨_,rfl⟩
 have O:Out 0 0 V2 Z1:=by rw[<-hZ];exact(Out.refl 0 0 _).drew
 rw[hZ] at aB ⊢;clear hZ;refine tk 0 ?_;refine tk 1 ?_;refine tk 2 ?_;refine tk 3 ?_;refine tk 4 ?_;refine tk 5 ?_;refine rd2 6 10 (fun KK hK=>?_) fun KK hK=>?_
 ·simp only[xa,xb,xc];go_simp;refine(HB.out _ O).mono ?_;rintro e Z1C ⟨rfl,q1⟩;replace O:=O.trans q1;refine hK.out _ _ ⟨q1.cell aB.1 z0,q1.cell aB.2 z0⟩ fun aB=>?_
  clear q1 hK KK;refine tk 7 ?_;refine tk 8 ?_;refine tk 9 ?_;refine rd1 10 fun KK hK=>?_
  simp only[xa,xb,xc];go_simp;obtain⟨gA,aG⟩:∃ g,Z1C.heap.size=g:=⟨_,rfl⟩
  obtain⟨bX,hY⟩:∃ V,Z1C.alloc (Ez 0 0 0 0 0 81)=V:=⟨_,rfl⟩
  have qA:Out 0 0 Z1C bX:=by rw[<-hY];exact(Out.refl 0 0 _).alloc _
  have fA:bX.heap[gA]? = some (Ez 0 0 0 0 0 81):=by rw[<-hY,<-aG];exact heap_alloc_new _ _
  have bF:V2.heap.size<=gA:=by have:=O.size;omega
  (try rw[hY]);(try rw[aG]);clear hY aG;replace O:=O.trans qA;refine hK.out _ _ ⟨qA.cell aB.1 z0,qA.cell aB.2 z0⟩ fun aB=>?_
  clear qA hK KK;refine rd1 11 fun KK hK=>?_
  simp only[xa,xb,xc];obtain⟨y0,y1,y2,y3,y4,y5⟩:=W7 fA;go_simp;clear y0 y1 y2 y3 y4 y5;obtain⟨bL,hY⟩:∃ V,(((((bX.setCell ⟨gA,0,none⟩ (Iz m)).setCell ⟨gA,1,none⟩ (Iz t1)).setCell ⟨gA,2,none⟩ (Iz t2)).setCell ⟨gA,3,none⟩ (Iz t3)).setCell ⟨gA,4,none⟩ (Iz t4))=V:=⟨_,rfl⟩
  have qS:Out gA (gA+1) bX bL:=by rw[<-hY];exact(Out.refl _ _ _).zo5 z1 _ _ _ _ _
  replace O:Out 0 0 V2 bL:=by rw[<-hY];exact O.zo5 (.inr bF) _ _ _ _ _
  have fB:bL.heap[gA]? = some (Ez m t1 t2 t3 t4 81):=by rw[<-hY];simp[World.setCell,Array.getElem?_modify,fA]
  (try rw[hY]);clear hY fA;refine hK.out _ _ ⟨qS.cell aB.1 (.inl (by have:=aL;omega)),qS.cell aB.2 (.inl (by have:=aL;omega))⟩ fun aB=>?_
  clear qS hK KK;refine tk 12 ?_;refine dn ?_;have HE:=Q3 O;have nF:=Q3 fB;have HgA:=Q3 bF;obtain⟨x0,x1,x2,x3⟩:=Q5 (O.heap fV.out z0);clear O fB aB bF;go_wp2_with fail;refine(z0o _ _).mono ?_;rintro e V9 ⟨rfl,he⟩;rw[he];clear he V9;go_wp2_with fail;clear x0 x1 x2 x3;obtain⟨y0,y1,y2,y3,y4,y5⟩:=W7 nF.out;have hH9:=HE.out.cell gO z0;refine wp_region_held_drew (S:=fun w'=>cq w' hb 0=some (Pq (s 14))/\cq w' gA 0=some (Iz m)/\Out 0 0 bL w') (by kernel_rfl) ?hS156 (fun aB=>?rest156)
  case hS156=>exact⟨hH9,y0,(Out.refl 0 0 _).drew⟩
  refine tk 0 ?_;refine tk 1 ?_;refine tk 2 ?_;refine tk 3 ?_;refine tk 4 ?_;refine tk 5 ?_;refine rd1 6 fun KK hK=>?_
  simp only[xa,xb,xc];go_simp;refine(HC.out _ (HE.out.trans aB.2.2)).mono ?_;rintro e V7 ⟨rfl,q7⟩;refine hK.out _ _ ⟨q7.cell aB.1 z0,q7.cell aB.2.1 z0,aB.2.2.trans q7⟩ fun aB=>?_
  clear q7 hK KK;refine rd1 7 fun KK hK=>?_
  simp only[xa,xb,xc];go_simp;refine(q2q HC0.out _ _).mono ?_;rintro e V8 ⟨rfl,q8⟩;exact⟨rfl,rfl,(aI.out.trans (HE.out.trans aB.2.2)).trans q8⟩
 ·simp only[xa,xb,xc];go_simp;obtain⟨gA,aG⟩:∃ g,Z1.heap.size=g:=⟨_,rfl⟩
  obtain⟨kS,hY⟩:∃ V,Z1.alloc (Ez 0 0 0 0 0 81)=V:=⟨_,rfl⟩
  have qA:Out 0 0 Z1 kS:=by rw[<-hY];exact(Out.refl 0 0 _).alloc _
  have fA:kS.heap[gA]? = some (Ez 0 0 0 0 0 81):=by rw[<-hY,<-aG];exact heap_alloc_new _ _
  have bF:V2.heap.size<=gA:=by have:=O.size;omega
  (try rw[hY]);(try rw[aG]);clear hY aG;replace O:=O.trans qA;refine hK.out _ _ ⟨qA.cell aB.1 z0,qA.cell aB.2 z0⟩ fun aB=>?_
  clear qA hK KK;refine rd1 6 fun KK hK=>?_
  simp only[xa,xb,xc];go_simp;refine(HB.out _ O).mono ?_;rintro e Z1AC ⟨rfl,q1⟩;replace O:=O.trans q1;replace fA:=q1.heap fA z0;refine hK.out _ _ ⟨q1.cell aB.1 z0,q1.cell aB.2 z0⟩ fun aB=>?_
  clear q1 hK KK;refine tk 7 ?_;refine tk 8 ?_;refine tk 9 ?_;refine rd1 11 fun KK hK=>?_
  simp only[xa,xb,xc];obtain⟨y0,y1,y2,y3,y4,y5⟩:=W7 fA;go_simp;clear y0 y1 y2 y3 y4 y5;obtain⟨bM,hY⟩:∃ V,(((((Z1AC.setCell ⟨gA,0,none⟩ (Iz m)).setCell ⟨gA,1,none⟩ (Iz t1)).setCell ⟨gA,2,none⟩ (Iz t2)).setCell ⟨gA,3,none⟩ (Iz t3)).setCell ⟨gA,4,none⟩ (Iz t4))=V:=⟨_,rfl⟩
  have qS:Out gA (gA+1) Z1AC bM:=by rw[<-hY];exact(Out.refl _ _ _).zo5 z1 _ _ _ _ _
  replace O:Out 0 0 V2 bM:=by rw[<-hY];exact O.zo5 (.inr bF) _ _ _ _ _
  have fB:bM.heap[gA]? = some (Ez m t1 t2 t3 t4 81):=by rw[<-hY];simp[World.setCell,Array.getElem?_modify,fA]
  (try rw[hY]);clear hY fA;refine hK.out _ _ ⟨qS.cell aB.1 (.inl (by have:=aL;omega)),qS.cell aB.2 (.inl (by have:=aL;omega))⟩ fun aB=>?_
  clear qS hK KK;refine tk 12 ?_;refine dn ?_;have HE:=Q3 O;have nF:=Q3 fB;have HgA:=Q3 bF;obtain⟨x0,x1,x2,x3⟩:=Q5 (O.heap fV.out z0);clear O fB aB bF;go_wp2_with fail;refine(z0o _ _).mono ?_;rintro e V9 ⟨rfl,he⟩;rw[he];clear he V9;go_wp2_with fail;clear x0 x1 x2 x3;obtain⟨y0,y1,y2,y3,y4,y5⟩:=W7 nF.out;have hH9:=HE.out.cell gO z0;refine wp_region_held_drew (S:=fun w'=>cq w' hb 0=some (Pq (s 14))/\cq w' gA 0=some (Iz m)/\Out 0 0 bM w') (by kernel_rfl) ?hS172 (fun aB=>?rest172)
  case hS172=>exact⟨hH9,y0,(Out.refl 0 0 _).drew⟩
  refine tk 0 ?_;refine tk 1 ?_;refine tk 2 ?_;refine tk 3 ?_;refine tk 4 ?_;refine tk 5 ?_;refine rd1 6 fun KK hK=>?_
  simp only[xa,xb,xc];go_simp;refine(HC.out _ (HE.out.trans aB.2.2)).mono ?_;rintro e V7 ⟨rfl,q7⟩;refine hK.out _ _ ⟨q7.cell aB.1 z0,q7.cell aB.2.1 z0,aB.2.2.trans q7⟩ fun aB=>?_
  clear q7 hK KK;refine rd1 7 fun KK hK=>?_
  simp only[xa,xb,xc];go_simp;refine(q2q HC0.out _ _).mono ?_;rintro e V8 ⟨rfl,q8⟩;exact⟨rfl,rfl,(aI.out.trans (HE.out.trans aB.2.2)).trans q8⟩
theorem q3e (hr:RawAt w lo hi s n cap r) (hA:U6 n r) (hH:w.cell? ⟨hb,0,none⟩=some (.pointer (some ⟨s 14,0,none⟩))) (k m:Int) (h:opE r k m ≠ 0):Calls Tryz.prog 49 #[.pointer (some ⟨hb,0,none⟩),.agg #[.int .i64 k,.int .i64 m]] w fun e w'=>e=.panicked [z0u (opE r k m) (opA r k m)]/\Out 0 0 w w':=by
 unfold opE at h;unfold opE opA;cases hM:r.M m with
 | none=>rw[if_neg (by simp),if_neg (by simp)];exact j6o hr hA hH k m hM
 | some t=>
  obtain⟨t1,t2,t3,t4⟩:=t;by_cases hk:k=2
  ·rw[if_pos ⟨hk,by rw[hM];simp⟩] at h;rw[if_pos ⟨hk,by simp⟩,if_pos ⟨hk,by simp⟩];exact j2s hr hA hH k m hM hk h
  ·rw[if_neg (fun x=>hk x.1),if_neg (fun x=>hk x.1)];exact j6n hr hA hH k m hM hk
theorem z1n (hr:RawAt w lo hi s n cap r) (hA:U6 n r) (hH:w.cell? ⟨hb,0,none⟩=some (.pointer (some ⟨s 14,0,none⟩))) (k m:Int) (h:opE r k m=0):∃ t1 t2 t3 t4,r.M m=some (t1,t2,t3,t4)/\Calls Tryz.prog 49 #[.pointer (some ⟨hb,0,none⟩),.agg #[.int .i64 k,.int .i64 m]] w fun e w'=>e=.returned (.agg #[.int .i64 m,.int .i64 t1,.int .i64 t2,.int .i64 t3,.int .i64 t4])/\Out 0 0 w w':=by
 unfold opE at h;by_cases c:k=2/\r.M m ≠ none
 ·rw[if_pos c] at h;obtain⟨hk,hm⟩:=c;cases hM:r.M m with
  | none=>exact absurd hM hm
  | some t=>
   obtain⟨t1,t2,t3,t4⟩:=t;exact⟨t1,t2,t3,t4,rfl,x4w hr hA hH k m hM hk h⟩
 ·rw[if_neg c] at h;omega
end
theorem V5 {w:World} {o o2 o3:Obj}:(((w.alloc o).alloc o2).alloc o3).heap[w.heap.size]? = some o:=by
 rw[Below.heap_alloc _ _ _ (by simp;omega)];exact J3
theorem X0 {w:World} {o o2 o3:Obj}:(((w.alloc o).alloc o2).alloc o3).heap[w.heap.size+1]? = some o2:=by
 rw[Below.heap_alloc _ _ _ (by simp)];exact J7
theorem K4 {w:World} {o o2 o3:Obj}:(((w.alloc o).alloc o2).alloc o3).heap[w.heap.size+2]? = some o3:=by
 have q:=heap_alloc_new ((w.alloc o).alloc o2) o3;simpa using q
theorem Q6 {P:Program} {fn:Func} {t t':Array Value} {R:Ending->World->Prop} (h:results fn t=results fn t'):∀ (ds:List Deferred) (u:FrameMode) (w:World),Leaves P fn t R ds u w->Leaves P fn t' R ds u w
 | [],.run,w,hL=>hL
 | [],.returning,w,hL=>by
  obtain⟨v,a,b⟩:=hL;exact⟨v,by rw[<-h];exact a,b⟩
 | [],.panicking c,w,hL=>hL
 | d :: ds,u,w,hL=>by
  obtain⟨hu,fv,cap,f,args,h1,h2,h3⟩:=hL;refine⟨hu,fv,cap,f,args,h1,h2,h3.mono ?_⟩;intro e u' w' q;cases e with
  | returned v=>exact Q6 h ds _ _ q
  | panicked c=>exact Q6 h ds _ _ q
  | outgrown=>exact q
theorem Q7 {fn:Func} {p q:Tmp} {a b:TypeId} (hr:fn.results = #[.cell p a,.cell q b]) {d:Tmp} (h1:d ≠ p) (h2:d ≠ q) (t:Array Value) (v:Value):results fn (t.setIfInBounds d v)=results fn t:=by
 simp only[results,hr];simp[Array.getElem?_setIfInBounds_ne h1,Array.getElem?_setIfInBounds_ne h2]
theorem J6 {fn:Func} {p:Tmp} {a:TypeId} (hr:fn.results = #[.cell p a]) {d:Tmp} (h1:d ≠ p) (t:Array Value) (v:Value):results fn (t.setIfInBounds d v)=results fn t:=by
 simp only[results,hr];simp[Array.getElem?_setIfInBounds_ne h1]
theorem J4 {P:Program} {fn:Func} {p q:Tmp} {a b:TypeId} {t:Array Value} {w:World} {v1 v2:Value} {A1 A2:Addr} (hr:fn.results = #[.cell p a,.cell q b]) (hp:t.getD p undef=.pointer (some A1)) (hq:t.getD q undef=.pointer (some A2)) (r1:(loadVar a A1).run P w=.ok v1 w) (r2:(loadVar b A2).run P w=.ok v2 w):(results fn t).run P w=.ok (.tuple #[v1,v2]) w:=by
 have hp':t[p]?.getD undef=.pointer (some A1):=by simpa using hp
 have hq':t[q]?.getD undef=.pointer (some A2):=by simpa using hq
 simp only[results,hr];simp[Sem.run_bind,hp',hq',asAddr,r1,r2,Result.andThen]
theorem Out.trans' {a b c:World} {g h:Nat} (o:Out 0 0 a b) (q:Out g h b c) (hg:a.heap.size<=g):Out 0 0 a c:=
 ⟨q.1.trans o.1,q.2.1.trans o.2.1,q.2.2.1.trans o.2.2.1,Nat.le_trans o.size q.size,fun k hk hn=>(q.block (Nat.lt_of_lt_of_le hk o.size) (by omega)).trans (o.block hk hn)⟩
theorem G0 {w:World} {g:Nat} {x1 x2 x3 x4 x5:Int} (hg:w.heap[g]? = some (.cells #[.int .i64 x1,.int .i64 x2,.int .i64 x3,.int .i64 x4,.int .i64 x5] 81 (0,0))):(loadVar 81 ⟨g,0,none⟩).run Tryz.prog w=.ok (.agg #[.int .i64 x1,.int .i64 x2,.int .i64 x3,.int .i64 x4,.int .i64 x5]) w:=
 run_loadVar_row w g 81 81 _ (0,0) _ hg Tryz.underlying81 rfl (x4e x1 x2 x3 x4 x5)
theorem J8 {w:World} {g:Nat} {x1 x2:Int} (hg:w.heap[g]? = some (.cells #[.int .i64 x1,.int .i64 x2] 46 (0,0))):(loadVar 46 ⟨g,0,none⟩).run Tryz.prog w=.ok (.agg #[.int .i64 x1,.int .i64 x2]) w:=
 run_loadVar_row w g 46 46 _ (0,0) _ hg Tryz.underlying46 rfl (x4f x1 x2)
theorem U0 {P:Program} {fn:Func} {t:Array Value} {R:Ending->World->Prop} {w:World} {v:Value} (h:(results fn t).run P w=.ok v w) (hR:R (.returned v) w):Leaves P fn t R [] .returning w:=⟨v,h,hR⟩
end Go.Proofs.YtjgnogflgoihfaaGreatDoor
