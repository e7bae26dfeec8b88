import Derived.Test.YtjgnogflgoihfaaGreatDoorP07
import Derived.RangeFuncNested
import Derived.RangeFuncBound
import Derived.Shelf.RegionOpen
import Derived.OwnWalkIn
import Derived.LoopNIn
import Derived.LoopIn
set_option linter.unusedSimpArgs false
set_option linter.unusedVariables false
set_option maxHeartbeats 16000000
set_option maxRecDepth 100000
namespace Go.Proofs.YtjgnogflgoihfaaGreatDoor
open Go.RowKit
theorem z3n {k s i:Int} (h:F8 (J6 k s i)=true):1<=i/\i<s:=by
 unfold J6 at h;by_cases c:B7 k s=true/\1<=i/\i<s
 ·exact c.2
 ·rw[if_neg c] at h;exact absurd h (by decide)
theorem j0b {r:Raw} {ba:Int} {b:Blk} {aK v:Int} (hf:F8 aK=true) (h:rgB r ba b aK v=true):Q8 (v % 8+1) (v / 8)=true:=by
 unfold rgB at h;unfold F8 at hf;rw[if_neg (by simp at hf;omega)] at h;cases hv:Q8 (v % 8+1) (v / 8)
 ·rw[hv,if_neg (by simp)] at h;exact absurd h (by decide)
 ·rfl
theorem infoV (a b:Int):(Tryz.prog.info? 32).map (·.size)=some (#[Value.int .i64 a,.int .i64 b]).size:=by
 have:(Tryz.prog.info? 32).map (·.size)=some 2:=by kernel_rfl
 simpa using this
theorem U1 {w:World} {g:Nat} {x1 x2:Int} (hg:w.heap[g]? = some (.cells #[.int .i64 x1,.int .i64 x2] 32 (0,0))):(loadVar 32 ⟨g,0,none⟩).run Tryz.prog w=.ok (.agg #[.int .i64 x1,.int .i64 x2]) w:=
 run_loadVar_row w g 32 32 _ (0,0) _ hg Tryz.underlying32 rfl (infoV x1 x2)
theorem G5 {w:World} {g:Nat} {x1 x2:Int} {y1 y2:Value} (h:w.heap[g]? = some (.cells #[y1,y2] 32 (0,0))):((w.setCell ⟨g,0,none⟩ (.int .i64 x1)).setCell ⟨g,1,none⟩ (.int .i64 x2)).heap[g]? = some (.cells #[.int .i64 x1,.int .i64 x2] 32 (0,0)):=by
 simp[World.setCell,Array.getElem?_modify,h]
section
variable {w:World} {lo hi hb:Nat} {s:Nat->Nat} {n cap:Nat} {r:Raw}
theorem j8a (hr:RawAt w lo hi s n cap r) (hA:U7 n r) (hT:Tab w) (hH:cq w hb 0=some (Pq (s 14))) (k m i:Int) (cL:opE r k m ≠ 0):Kz 18 #[Pq hb,Vz k m,Iz i] w fun e w'=>e=.returned (.tuple #[Vz 0 0,Vz (opE r k m) (opA r k m)])/\Out 0 0 w w':=by
 have nI:∀ (fn:Fn) (first cap:Array Value) (w:World),(Instr.makeFunc fn first cap).run Tryz.prog w=.ok (.func fn first cap) w:=fun _ _ _ _=>rfl
 have fV:=Q3 (J8 (w:=w) (o:=Dz k m 32) (o2:=Dz 0 0 32) (o3:=Dz 0 0 46));have fR:=Q3 (J7 (w:=w) (o:=Dz k m 32) (o2:=Dz 0 0 32) (o3:=Dz 0 0 46));have fF:=Q3 (J9 (w:=w) (o:=Dz k m 32) (o2:=Dz 0 0 32) (o3:=Dz 0 0 46));have aH:=Q3 ((((Out.refl 0 0 w).alloc (Dz k m 32)).alloc (Dz 0 0 32)).alloc (Dz 0 0 46));have Hr:=Q3 hr;have HA:=Q3 hA;have HT:=Q3 hT;obtain⟨gv,aN⟩:∃ g,w.heap.size=g:=⟨_,rfl⟩
 have aW:=Q3 aN;obtain⟨V2,aQ⟩:∃ V,((w.alloc (Dz k m 32)).alloc (Dz 0 0 32)).alloc (Dz 0 0 46)=V:=⟨_,rfl⟩
 rw[aQ,aN] at fV fR fF;rw[aQ] at aH;have iF:=Q3 (aH.out.cell hH z0);clear hH hr hA hT;obtain⟨u0,u1,u2,u3⟩:=Q5 fV.out;have kW:=Q3 cL;clear cL;have kY:Hid (∀ V,Out 0 0 V2 V->Kz 49 #[Pq hb,Vz k m] V fun e w'=>e=.panicked [z0o (opE r k m) (opA r k m)]/\Out 0 0 V w'):=fun V o=>q2g (Hr.out.quiet (aH.out.trans o)) HA.out (o.cell iF.out z0) k m kW.out
 go_enter_defers Tryz.func18,Tryz.ntmps18
 go_wp2_with fail;(try rw[aQ]);(try rw[aN]);clear aQ aN;refine(U2 _ _).mono ?_;rintro e w5 ⟨rfl,he⟩;rw[he];clear he w5;go_wp2_with fail;refine(kY.out V2 (Out.refl 0 0 _)).mono ?_;rintro e X3 ⟨rfl,q3⟩;simp;refine leaves_cons (f:=53) (args:=#[.pointer (some ⟨gv+2,0,none⟩)]) (by simp) (by simp[go_sem]) ?_;refine(z2z (q3.heap fF.out z0)).mono ?_;rintro e u' w9 ⟨rfl,rfl,f9,q9⟩;exact Y7 (J2 Tryz.results18 rfl rfl (U1 (q9.heap (q3.heap fR.out z0) (.inl (Nat.lt_succ_self _)))) (J5 f9)) ⟨rfl,(aH.out.trans q3).trans' q9 (by have:=aW.out;omega)⟩
theorem j2p (hr:RawAt w lo hi s n cap r) (hA:U7 n r) (hT:Tab w) (hH:cq w hb 0=some (Pq (s 14))) (k m i:Int) {t1 t2 t3 t4:Int} (hM:r.M m=some (t1,t2,t3,t4)) (cL:opE r k m=0) (hf:F8 (J6 t1 t2 i)=false):Kz 18 #[Pq hb,Vz k m,Iz i] w fun e w'=>e=.returned (.tuple #[Vz 0 0,Vz 32 0])/\Out 0 0 w w':=by
 have nI:∀ (fn:Fn) (first cap:Array Value) (w:World),(Instr.makeFunc fn first cap).run Tryz.prog w=.ok (.func fn first cap) w:=fun _ _ _ _=>rfl
 have fV:=Q3 (J8 (w:=w) (o:=Dz k m 32) (o2:=Dz 0 0 32) (o3:=Dz 0 0 46));have fR:=Q3 (J7 (w:=w) (o:=Dz k m 32) (o2:=Dz 0 0 32) (o3:=Dz 0 0 46));have fF:=Q3 (J9 (w:=w) (o:=Dz k m 32) (o2:=Dz 0 0 32) (o3:=Dz 0 0 46));have aH:=Q3 ((((Out.refl 0 0 w).alloc (Dz k m 32)).alloc (Dz 0 0 32)).alloc (Dz 0 0 46));have Hr:=Q3 hr;have HA:=Q3 hA;have HT:=Q3 hT;obtain⟨gv,aN⟩:∃ g,w.heap.size=g:=⟨_,rfl⟩
 have aW:=Q3 aN;obtain⟨V2,aQ⟩:∃ V,((w.alloc (Dz k m 32)).alloc (Dz 0 0 32)).alloc (Dz 0 0 46)=V:=⟨_,rfl⟩
 rw[aQ,aN] at fV fR fF;rw[aQ] at aH;have iF:=Q3 (aH.out.cell hH z0);clear hH hr hA hT;obtain⟨u0,u1,u2,u3⟩:=Q5 fV.out;have kW:=Q3 cL;have HM:=Q3 hM;have Hs:Hid (1<=t2/\t2<=1024/\0<=m/\m+t2<=64*n):=by have q:=HA.out m _ hM;exact⟨q.2.2.1,q.2.2.2,q.1,q.2.1⟩
 clear cL hM;have Hf:=Q3 hf;clear hf;have HFd:Hid (∀ V,Out 0 0 V2 V->Kz 50 #[Wz m t1 t2 t3 t4,Iz i] V fun e w'=>e=.panicked [z0o 32 0]/\Out 0 0 V w'):=fun V o=>q9e m t1 t2 t3 t4 i (HT.out.quiet (aH.out.trans o)) (by have:=Hs.out;omega) (by have:=Hs.out;omega) Hf.out
 have kY:Hid (∀ V,Out 0 0 V2 V->Kz 49 #[Pq hb,Vz k m] V fun e w'=>e=.returned (Wz m t1 t2 t3 t4)/\Out 0 0 V w'):=fun V o=>by
  obtain⟨a1,a2,a3,a4,h1,h2⟩:=z1f (Hr.out.quiet (aH.out.trans o)) HA.out (o.cell iF.out z0) k m kW.out;rw[HM.out] at h1;simp only[Option.some.injEq,Prod.mk.injEq] at h1;obtain⟨rfl,rfl,rfl,rfl⟩:=h1;exact h2
 go_enter_defers Tryz.func18,Tryz.ntmps18
 go_wp2_with fail;(try rw[aQ]);(try rw[aN]);clear aQ aN;refine(U2 _ _).mono ?_;rintro e w5 ⟨rfl,he⟩;rw[he];clear he w5;go_wp2_with fail;refine(kY.out V2 (Out.refl 0 0 _)).mono ?_;rintro e X3 ⟨rfl,q3⟩;obtain⟨gb,bD⟩:∃ g,X3.heap.size=g:=⟨_,rfl⟩
 obtain⟨V4,bV⟩:∃ V,X3.alloc (Ez m t1 t2 t3 t4 81)=V:=⟨_,rfl⟩
 have fB:V4.heap[gb]? = some (Ez m t1 t2 t3 t4 81):=by rw[<-bV,<-bD];exact heap_alloc_new _ _
 have O4:Out 0 0 V2 V4:=by rw[<-bV];exact q3.alloc _
 obtain⟨y0,y1,y2,y3,y4,y5⟩:=K7 fB;have lT:=Q3 fB;have bJ:=Q3 O4;clear fB O4 q3 u0 u1 u2 u3;go_wp2_with fail;(try rw[bV]);(try rw[bD]);clear bV bD;refine(HFd.out V4 bJ.out).mono ?_;rintro e X5 ⟨rfl,q5⟩;have O5:=bJ.out.trans q5;clear q5;simp;refine leaves_cons (f:=53) (args:=#[.pointer (some ⟨gv+2,0,none⟩)]) (by simp) (by simp[go_sem]) ?_;refine(z2z (O5.heap fF.out z0)).mono ?_;rintro e u' w9 ⟨rfl,rfl,f9,q9⟩;exact Y7 (J2 Tryz.results18 rfl rfl (U1 (q9.heap (O5.heap fR.out z0) (.inl (Nat.lt_succ_self _)))) (J5 f9)) ⟨rfl,(aH.out.trans O5).trans' q9 (by have:=aW.out;omega)⟩
theorem j2q (hr:RawAt w lo hi s n cap r) (hA:U7 n r) (hT:Tab w) (hH:cq w hb 0=some (Pq (s 14))) (k m i:Int) {t1 t2 t3 t4:Int} (hM:r.M m=some (t1,t2,t3,t4)) (cL:opE r k m=0) (hn:n<=4096) (hf:F8 (J6 t1 t2 i)=true) (hg:rgB r m (t1,t2,t3,t4) (J6 t1 t2 i) (z2u n r.W (m+i))=false):Kz 18 #[Pq hb,Vz k m,Iz i] w fun e w'=>e=.returned (.tuple #[Vz 0 0,Vz 21 (m+i)])/\Out 0 0 w w':=by
 have nI:∀ (fn:Fn) (first cap:Array Value) (w:World),(Instr.makeFunc fn first cap).run Tryz.prog w=.ok (.func fn first cap) w:=fun _ _ _ _=>rfl
 have fV:=Q3 (J8 (w:=w) (o:=Dz k m 32) (o2:=Dz 0 0 32) (o3:=Dz 0 0 46));have fR:=Q3 (J7 (w:=w) (o:=Dz k m 32) (o2:=Dz 0 0 32) (o3:=Dz 0 0 46));have fF:=Q3 (J9 (w:=w) (o:=Dz k m 32) (o2:=Dz 0 0 32) (o3:=Dz 0 0 46));have aH:=Q3 ((((Out.refl 0 0 w).alloc (Dz k m 32)).alloc (Dz 0 0 32)).alloc (Dz 0 0 46));have Hr:=Q3 hr;have HA:=Q3 hA;have HT:=Q3 hT;obtain⟨gv,aN⟩:∃ g,w.heap.size=g:=⟨_,rfl⟩
 have aW:=Q3 aN;obtain⟨V2,aQ⟩:∃ V,((w.alloc (Dz k m 32)).alloc (Dz 0 0 32)).alloc (Dz 0 0 46)=V:=⟨_,rfl⟩
 rw[aQ,aN] at fV fR fF;rw[aQ] at aH;have iF:=Q3 (aH.out.cell hH Oz);clear hH hr hA hT;obtain⟨u0,u1,u2,u3⟩:=Q5 fV.out;have kW:=Q3 cL;have HM:=Q3 hM;have Hs:Hid (1<=t2/\t2<=1024/\0<=m/\m+t2<=64*n):=by have q:=HA.out m _ hM;exact⟨q.2.2.1,q.2.2.2,q.1,q.2.1⟩
 clear cL hM;have Hf:=Q3 hf;have Hg:=Q3 hg;have kO:IntKind.i64.wrap (m+i)=m+i:=by have h1:=z3n hf;have h2:=Hs.out;rw[IntKind.wrap_i64];omega
 have m1:-9223372036854775808<=m+i:=by have h1:=z3n hf;have h2:=Hs.out;omega
 have m2:m+i<=9223372036854775807:=by have h1:=z3n hf;have h2:=Hs.out;omega
 clear hg hf;have HFd:Hid (∀ V,Out 0 0 V2 V->Kz 50 #[Wz m t1 t2 t3 t4,Iz i] V fun e w'=>e=.returned (Iz (J6 t1 t2 i))/\Out 0 0 V w'):=fun V o=>z3x m t1 t2 t3 t4 i (HT.out.quiet (aH.out.trans o)) (by have:=Hs.out;omega) (by have:=Hs.out;omega) Hf.out
 have kY:Hid (∀ V,Out 0 0 V2 V->Kz 49 #[Pq hb,Vz k m] V fun e w'=>e=.returned (Wz m t1 t2 t3 t4)/\Out 0 0 V w'):=fun V o=>by
  obtain⟨a1,a2,a3,a4,h1,h2⟩:=z1f (Hr.out.quiet (aH.out.trans o)) HA.out (o.cell iF.out Oz) k m kW.out;rw[HM.out] at h1;simp only[Option.some.injEq,Prod.mk.injEq] at h1;obtain⟨rfl,rfl,rfl,rfl⟩:=h1;exact h2
 go_enter_defers Tryz.func18,Tryz.ntmps18
 go_wp2_with fail;(try rw[aQ]);(try rw[aN]);clear aQ aN;refine(U2 _ _).mono ?_;rintro e w5 ⟨rfl,he⟩;rw[he];clear he w5;go_wp2_with fail;refine(kY.out V2 (Out.refl 0 0 _)).mono ?_;rintro e X3 ⟨rfl,q3⟩;obtain⟨gb,bD⟩:∃ g,X3.heap.size=g:=⟨_,rfl⟩
 obtain⟨V4,bV⟩:∃ V,X3.alloc (Ez m t1 t2 t3 t4 81)=V:=⟨_,rfl⟩
 have fB:V4.heap[gb]? = some (Ez m t1 t2 t3 t4 81):=by rw[<-bV,<-bD];exact heap_alloc_new _ _
 have O4:Out 0 0 V2 V4:=by rw[<-bV];exact q3.alloc _
 obtain⟨y0,y1,y2,y3,y4,y5⟩:=K7 fB;have lT:=Q3 fB;have bJ:=Q3 O4;clear fB O4 q3 u0 u1 u2 u3;go_wp2_with fail;(try rw[bV]);(try rw[bD]);clear bV bD;refine(HFd.out V4 bJ.out).mono ?_;rintro e X5 ⟨rfl,q5⟩;have y6:=(bJ.out.trans q5).cell iF.out Oz;obtain⟨x0,x1,x2,x3,x4,x5⟩:=K7 (q5.heap lT.out Oz);have bL:=Q3 (bJ.out.trans q5);have HB5:=Q3 (q5.heap lT.out Oz);clear q5 y0 y1 y2 y3 y4 y5;generalize J6 t1 t2 i=aK at *
 go_wp2_with fail;refine wp_region_held_drew (S:=fun w'=>cq w' hb 0=some (Pq (s 14))/\cq w' gb 0=some (Iz m)/\Out 0 0 X5 w') (by kernel_rfl) ?hS197 (fun aB=>?rest197)
 case hS197=>exact⟨y6,x0,(Out.refl 0 0 _).drew⟩
 refine tq Tryz.results18 0 ?_;refine tq Tryz.results18 1 ?_;refine tq Tryz.results18 2 ?_;refine tq Tryz.results18 3 ?_;refine tq Tryz.results18 4 ?_;refine tq Tryz.results18 5 ?_;refine tq Tryz.results18 6 ?_;refine tq Tryz.results18 7 ?_;refine rd1 8 fun KK hK=>?_
 go_simp;refine(q9v (Hr.out.quiet (aH.out.trans (bL.out.trans aB.2.2))) (m+i)).mono ?_;rintro e w6 ⟨rfl,he⟩;rw[he];clear he w6;refine hK.out _ _ (aB) fun aB=>?_
 clear hK KK;(try simp only[Act.put,xa,xb,xc,xd,xe,xf]);refine tq Tryz.results18 9 ?_;refine tq Tryz.results18 10 ?_;refine tq Tryz.results18 11 ?_;refine tq Tryz.results18 12 ?_;refine tq Tryz.results18 13 ?_;refine dn ?_;have cJ:=Q3 (bL.out.trans aB.2.2);obtain⟨X6,hX6⟩:∃ X,X5.drew=X:=⟨_,rfl⟩
 rw[hX6] at cJ aB ⊢;have HB6:=Q3 (aB.2.2.heap HB5.out Oz);obtain⟨nC,mQ,mP,oI,z4',z5'⟩:=K7 HB6.out;clear aB hX6 x0 x1 x2 x3 x4 x5 y6;generalize hpv:z2u n r.W (m+i)=pv at *
 have Hpv:=Q3 hpv;clear hpv;go_wp2_with fail;refine(z5x (Hr.out.quiet (aH.out.trans cJ.out)) (cJ.out.cell iF.out Oz) m t1 t2 t3 t4 aK pv).mono ?_;rw[Hg.out];rintro e X7 ⟨rfl,q7⟩;have HO7:=Q3 (cJ.out.trans q7);obtain⟨x0,x1,x2,x3,x4,x5⟩:=K7 (q7.heap HB6.out Oz);clear q7 nC mQ mP oI z4' z5';go_wp2_with fail;refine(q1t (by decide) _ _).mono ?_;rintro e X8 ⟨rfl,q8⟩;have O8:=HO7.out.trans q8;clear q8;simp;refine leaves_cons (f:=53) (args:=#[.pointer (some ⟨gv+2,0,none⟩)]) (by simp) (by simp[go_sem]) ?_;refine(z2z (O8.heap fF.out Oz)).mono ?_;rintro e u' w9 ⟨rfl,rfl,f9,q9⟩;exact Y7 (J2 Tryz.results18 rfl rfl (U1 (q9.heap (O8.heap fR.out Oz) (.inl (Nat.lt_succ_self _)))) (J5 f9)) ⟨rfl,(aH.out.trans O8).trans' q9 (by have:=aW.out;omega)⟩
theorem j2r (hr:RawAt w lo hi s n cap r) (hA:U7 n r) (hT:Tab w) (hH:cq w hb 0=some (Pq (s 14))) (k m i:Int) {t1 t2 t3 t4:Int} (hM:r.M m=some (t1,t2,t3,t4)) (cL:opE r k m=0) (hn:n<=4096) (hf:F8 (J6 t1 t2 i)=true) (hg:rgB r m (t1,t2,t3,t4) (J6 t1 t2 i) (z2u n r.W (m+i))=true):Kz 18 #[Pq hb,Vz k m,Iz i] w fun e w'=>e=.returned (.tuple #[.agg #[Iz (z2u n r.W (m+i) % 8+1),Iz (z2u n r.W (m+i) / 8)],Vz 0 0])/\Out 0 0 w w':=by
 have nI:∀ (fn:Fn) (first cap:Array Value) (w:World),(Instr.makeFunc fn first cap).run Tryz.prog w=.ok (.func fn first cap) w:=fun _ _ _ _=>rfl
 have fV:=Q3 (J8 (w:=w) (o:=Dz k m 32) (o2:=Dz 0 0 32) (o3:=Dz 0 0 46));have fR:=Q3 (J7 (w:=w) (o:=Dz k m 32) (o2:=Dz 0 0 32) (o3:=Dz 0 0 46));have fF:=Q3 (J9 (w:=w) (o:=Dz k m 32) (o2:=Dz 0 0 32) (o3:=Dz 0 0 46));have aH:=Q3 ((((Out.refl 0 0 w).alloc (Dz k m 32)).alloc (Dz 0 0 32)).alloc (Dz 0 0 46));have Hr:=Q3 hr;have HA:=Q3 hA;have HT:=Q3 hT;obtain⟨gv,aN⟩:∃ g,w.heap.size=g:=⟨_,rfl⟩
 have aW:=Q3 aN;obtain⟨V2,aQ⟩:∃ V,((w.alloc (Dz k m 32)).alloc (Dz 0 0 32)).alloc (Dz 0 0 46)=V:=⟨_,rfl⟩
 rw[aQ,aN] at fV fR fF;rw[aQ] at aH;have iF:=Q3 (aH.out.cell hH Oz);clear hH hr hA hT;obtain⟨u0,u1,u2,u3⟩:=Q5 fV.out;have kW:=Q3 cL;have HM:=Q3 hM;have Hs:Hid (1<=t2/\t2<=1024/\0<=m/\m+t2<=64*n):=by have q:=HA.out m _ hM;exact⟨q.2.2.1,q.2.2.2,q.1,q.2.1⟩
 clear cL hM;have Hf:=Q3 hf;have Hg:=Q3 hg;have kO:IntKind.i64.wrap (m+i)=m+i:=by have h1:=z3n hf;have h2:=Hs.out;rw[IntKind.wrap_i64];omega
 have m1:-9223372036854775808<=m+i:=by have h1:=z3n hf;have h2:=Hs.out;omega
 have m2:m+i<=9223372036854775807:=by have h1:=z3n hf;have h2:=Hs.out;omega
 have hU:=Q3 (fun V=>z5u (v:=z2u n r.W (m+i)) rfl rfl (j0b Hf.out Hg.out) V);clear hg hf;have HFd:Hid (∀ V,Out 0 0 V2 V->Kz 50 #[Wz m t1 t2 t3 t4,Iz i] V fun e w'=>e=.returned (Iz (J6 t1 t2 i))/\Out 0 0 V w'):=fun V o=>z3x m t1 t2 t3 t4 i (HT.out.quiet (aH.out.trans o)) (by have:=Hs.out;omega) (by have:=Hs.out;omega) Hf.out
 have kY:Hid (∀ V,Out 0 0 V2 V->Kz 49 #[Pq hb,Vz k m] V fun e w'=>e=.returned (Wz m t1 t2 t3 t4)/\Out 0 0 V w'):=fun V o=>by
  obtain⟨a1,a2,a3,a4,h1,h2⟩:=z1f (Hr.out.quiet (aH.out.trans o)) HA.out (o.cell iF.out Oz) k m kW.out;rw[HM.out] at h1;simp only[Option.some.injEq,Prod.mk.injEq] at h1;obtain⟨rfl,rfl,rfl,rfl⟩:=h1;exact h2
 go_enter_defers Tryz.func18,Tryz.ntmps18
 go_wp2_with fail;(try rw[aQ]);(try rw[aN]);clear aQ aN;refine(U2 _ _).mono ?_;rintro e w5 ⟨rfl,he⟩;rw[he];clear he w5;go_wp2_with fail;refine(kY.out V2 (Out.refl 0 0 _)).mono ?_;rintro e X3 ⟨rfl,q3⟩;obtain⟨gb,bD⟩:∃ g,X3.heap.size=g:=⟨_,rfl⟩
 obtain⟨V4,bV⟩:∃ V,X3.alloc (Ez m t1 t2 t3 t4 81)=V:=⟨_,rfl⟩
 have fB:V4.heap[gb]? = some (Ez m t1 t2 t3 t4 81):=by rw[<-bV,<-bD];exact heap_alloc_new _ _
 have O4:Out 0 0 V2 V4:=by rw[<-bV];exact q3.alloc _
 obtain⟨y0,y1,y2,y3,y4,y5⟩:=K7 fB;have lT:=Q3 fB;have bJ:=Q3 O4;clear fB O4 q3 u0 u1 u2 u3;go_wp2_with fail;(try rw[bV]);(try rw[bD]);clear bV bD;refine(HFd.out V4 bJ.out).mono ?_;rintro e X5 ⟨rfl,q5⟩;have y6:=(bJ.out.trans q5).cell iF.out Oz;obtain⟨x0,x1,x2,x3,x4,x5⟩:=K7 (q5.heap lT.out Oz);have bL:=Q3 (bJ.out.trans q5);have HB5:=Q3 (q5.heap lT.out Oz);clear q5 y0 y1 y2 y3 y4 y5;generalize J6 t1 t2 i=aK at *
 go_wp2_with fail;refine wp_region_held_drew (S:=fun w'=>cq w' hb 0=some (Pq (s 14))/\cq w' gb 0=some (Iz m)/\Out 0 0 X5 w') (by kernel_rfl) ?hS212 (fun aB=>?rest212)
 case hS212=>exact⟨y6,x0,(Out.refl 0 0 _).drew⟩
 refine tq Tryz.results18 0 ?_;refine tq Tryz.results18 1 ?_;refine tq Tryz.results18 2 ?_;refine tq Tryz.results18 3 ?_;refine tq Tryz.results18 4 ?_;refine tq Tryz.results18 5 ?_;refine tq Tryz.results18 6 ?_;refine tq Tryz.results18 7 ?_;refine rd1 8 fun KK hK=>?_
 go_simp;refine(q9v (Hr.out.quiet (aH.out.trans (bL.out.trans aB.2.2))) (m+i)).mono ?_;rintro e w6 ⟨rfl,he⟩;rw[he];clear he w6;refine hK.out _ _ (aB) fun aB=>?_
 clear hK KK;(try simp only[Act.put,xa,xb,xc,xd,xe,xf]);refine tq Tryz.results18 9 ?_;refine tq Tryz.results18 10 ?_;refine tq Tryz.results18 11 ?_;refine tq Tryz.results18 12 ?_;refine tq Tryz.results18 13 ?_;refine dn ?_;have cJ:=Q3 (bL.out.trans aB.2.2);obtain⟨X6,hX6⟩:∃ X,X5.drew=X:=⟨_,rfl⟩
 rw[hX6] at cJ aB ⊢;have HB6:=Q3 (aB.2.2.heap HB5.out Oz);obtain⟨nC,mQ,mP,oI,z4',z5'⟩:=K7 HB6.out;clear aB hX6 x0 x1 x2 x3 x4 x5 y6;generalize hpv:z2u n r.W (m+i)=pv at *
 have Hpv:=Q3 hpv;clear hpv;go_wp2_with fail;refine(z5x (Hr.out.quiet (aH.out.trans cJ.out)) (cJ.out.cell iF.out Oz) m t1 t2 t3 t4 aK pv).mono ?_;rw[Hg.out];rintro e X7 ⟨rfl,q7⟩;have HO7:=Q3 (cJ.out.trans q7);clear q7 nC mQ mP oI z4' z5';go_wp2_with fail;refine(hU.out _).mono ?_;rintro e X8 ⟨rfl,q8⟩;have fH:=Q3 (HO7.out.trans q8);have gG:=Q3 (fH.out.heap fR.out Oz);have cW:=Q3 (fH.out.heap fF.out Oz);obtain⟨a0,a1,a2,a3⟩:=Q5 gG.out;obtain⟨b0,b1,b2,b3⟩:=flt_facts cW.out;clear q8;have e1:=G5 (x1:=pv % 8+1) (x2:=pv / 8) (G5 (x1:=pv % 8+1) (x2:=pv / 8) gG.out);have o1:Out (gv+1) (gv+2) X8 _:=((Out.refl (gv+1) (gv+2) X8).set2 (b:=gv+1) (o:=0) (o':=1) Lz (Iz (pv % 8+1)) (Iz (pv / 8))).set2 (b:=gv+1) (o:=0) (o':=1) Lz (Iz (pv % 8+1)) (Iz (pv / 8));have f1:=o1.heap cW.out (.inr (Nat.le_refl _));have f2:=J3 (x':=0) (y':=0) f1;have e2:=((Out.refl (gv+2) (gv+3) _).set2 (b:=gv+2) (o:=0) (o':=1) Lz (Iz 0) (Iz 0)).heap e1 (.inl (Nat.lt_succ_self _));have P9:=(((aH.out.trans fH.out).set2 (b:=gv+1) (o:=0) (o':=1) (.inr (by have:=aW.out;omega)) (Iz (pv % 8+1)) (Iz (pv / 8))).set2 (b:=gv+1) (o:=0) (o':=1) (.inr (by have:=aW.out;omega)) (Iz (pv % 8+1)) (Iz (pv / 8))).set2 (b:=gv+2) (o:=0) (o':=1) (.inr (by have:=aW.out;omega)) (Iz 0) (Iz 0);have HL:=Q3 (And.intro e2 (And.intro f2 P9));clear e1 o1 f1 f2 e2 P9;go_wp2;refine leaves_cons (f:=53) (args:=#[.pointer (some ⟨gv+2,0,none⟩)]) (by simp) (by simp[go_sem]) ?_;refine(q1n HL.out.2.1).mono ?_;rintro e u' w9 ⟨rfl,rfl,f9,q9⟩;exact Y7 (J2 Tryz.results18 rfl rfl (U1 (q9.heap HL.out.1 (.inl (Nat.lt_succ_self _)))) (J5 f9)) ⟨by rw[Hpv.out],HL.out.2.2.trans' q9 (by have:=aW.out;omega)⟩
end
theorem K5 {P:Program} {fn:Func} {p:Tmp} {a:TypeId} {t:Array Value} {w:World} {v1:Value} {A1:Addr} (hr:fn.results = #[.cell p a]) (hp:t.getD p undef=.pointer (some A1)) (r1:(loadVar a A1).run P w=.ok v1 w):(results fn t).run P w=.ok v1 w:=by
 have hp':t[p]?.getD undef=.pointer (some A1):=by simpa using hp
 simp only[results,hr];simp[Sem.run_bind,hp',asAddr,r1,Result.andThen]
theorem Out.then {lo hi:Nat} {a b c:World} {g h:Nat} (o:Out lo hi a b) (q:Out g h b c) (hg:a.heap.size<=g):Out lo hi a c:=
 ⟨q.1.trans o.1,q.2.1.trans o.2.1,q.2.2.1.trans o.2.2.1,Nat.le_trans o.size q.size,fun k hk hn=>(q.block (Nat.lt_of_lt_of_le hk o.size) (by omega)).trans (o.block hk hn)⟩
theorem z8h {k n:Int} (hv:Q8 k n=true) (w:World):Calls Tryz.prog 51 #[.agg #[.int .i64 k,.int .i64 n]] w fun e w'=>e=.returned (.tuple #[.int .i64 (n*8+(k-1)),.bool true])/\Out 0 0 w w':=by
 refine(q1b k n w).mono ?_;rintro e w' ⟨rfl,h⟩;rw[hv];unfold z0g;rw[if_pos hv];exact⟨rfl,K8 h⟩
theorem x5q {k n:Int} (hv:Q8 k n=false) (w:World):Calls Tryz.prog 51 #[.agg #[.int .i64 k,.int .i64 n]] w fun e w'=>e=.returned (.tuple #[.int .i64 0,.bool false])/\Out 0 0 w w':=by
 refine(q1b k n w).mono ?_;rintro e w' ⟨rfl,h⟩;rw[hv];unfold z0g;rw[if_neg (by simp[hv])];exact⟨rfl,K8 h⟩
section
variable {w:World} {lo hi hb:Nat} {s:Nat->Nat} {n cap:Nat} {r:Raw}
theorem j8d (hr:RawAt w lo hi s n cap r) (hA:U7 n r) (hH:cq w hb 0=some (Pq (s 14))) (k m i xk xn:Int) (cL:opE r k m ≠ 0):Kz 17 #[Pq hb,Vz k m,Iz i,Vz xk xn] w fun e w'=>e=.returned (Vz (opE r k m) (opA r k m))/\Out 0 0 w w':=by
 have nI:∀ (fn:Fn) (first cap:Array Value) (w:World),(Instr.makeFunc fn first cap).run Tryz.prog w=.ok (.func fn first cap) w:=fun _ _ _ _=>rfl
 have fV:=Q3 (J8 (w:=w) (o:=Dz k m 32) (o2:=Dz xk xn 32) (o3:=Dz 0 0 46));have fX:=Q3 (J7 (w:=w) (o:=Dz k m 32) (o2:=Dz xk xn 32) (o3:=Dz 0 0 46));have fF:=Q3 (J9 (w:=w) (o:=Dz k m 32) (o2:=Dz xk xn 32) (o3:=Dz 0 0 46));have aH:=Q3 ((((Out.refl 0 0 w).alloc (Dz k m 32)).alloc (Dz xk xn 32)).alloc (Dz 0 0 46));have Hr:=Q3 hr;have HA:=Q3 hA;obtain⟨gv,aN⟩:∃ g,w.heap.size=g:=⟨_,rfl⟩
 have aW:=Q3 aN;obtain⟨V2,aQ⟩:∃ V,((w.alloc (Dz k m 32)).alloc (Dz xk xn 32)).alloc (Dz 0 0 46)=V:=⟨_,rfl⟩
 rw[aQ,aN] at fV fX fF;rw[aQ] at aH;have iF:=Q3 (aH.out.cell hH z0);clear hH hr hA;obtain⟨u0,u1,u2,u3⟩:=Q5 fV.out;have kW:=Q3 cL;clear cL;have kY:Hid (∀ V,Out 0 0 V2 V->Kz 49 #[Pq hb,Vz k m] V fun e w'=>e=.panicked [z0o (opE r k m) (opA r k m)]/\Out 0 0 V w'):=fun V o=>q2g (Hr.out.quiet (aH.out.trans o)) HA.out (o.cell iF.out z0) k m kW.out
 go_enter_defers Tryz.func17,Tryz.ntmps17
 go_wp2_with fail;(try rw[aQ]);(try rw[aN]);clear aQ aN;refine(U2 _ _).mono ?_;rintro e w5 ⟨rfl,he⟩;rw[he];clear he w5;go_wp2_with fail;refine(kY.out V2 (Out.refl 0 0 _)).mono ?_;rintro e X3 ⟨rfl,q3⟩;simp;refine leaves_cons (f:=48) (args:=#[.pointer (some ⟨gv+2,0,none⟩)]) (by simp) (by simp[go_sem]) ?_;refine(z1t (q3.heap fF.out z0)).mono ?_;rintro e u' w9 ⟨rfl,rfl,f9,q9⟩;exact Y7 (K5 Tryz.results17 rfl (J5 f9)) ⟨rfl,(aH.out.trans q3).trans' q9 (by have:=aW.out;omega)⟩
theorem j2x (hr:RawAt w lo hi s n cap r) (hA:U7 n r) (hH:cq w hb 0=some (Pq (s 14))) (k m i xk xn:Int) {t1 t2 t3 t4:Int} (hM:r.M m=some (t1,t2,t3,t4)) (cL:opE r k m=0) (hf:F8 (J6 t1 t2 i)=false):Kz 17 #[Pq hb,Vz k m,Iz i,Vz xk xn] w fun e w'=>e=.returned (Vz 32 0)/\Out 0 0 w w':=by
 have nI:∀ (fn:Fn) (first cap:Array Value) (w:World),(Instr.makeFunc fn first cap).run Tryz.prog w=.ok (.func fn first cap) w:=fun _ _ _ _=>rfl
 have fV:=Q3 (J8 (w:=w) (o:=Dz k m 32) (o2:=Dz xk xn 32) (o3:=Dz 0 0 46));have fX:=Q3 (J7 (w:=w) (o:=Dz k m 32) (o2:=Dz xk xn 32) (o3:=Dz 0 0 46));have fF:=Q3 (J9 (w:=w) (o:=Dz k m 32) (o2:=Dz xk xn 32) (o3:=Dz 0 0 46));have aH:=Q3 ((((Out.refl 0 0 w).alloc (Dz k m 32)).alloc (Dz xk xn 32)).alloc (Dz 0 0 46));have Hr:=Q3 hr;have HA:=Q3 hA;obtain⟨gv,aN⟩:∃ g,w.heap.size=g:=⟨_,rfl⟩
 have aW:=Q3 aN;obtain⟨V2,aQ⟩:∃ V,((w.alloc (Dz k m 32)).alloc (Dz xk xn 32)).alloc (Dz 0 0 46)=V:=⟨_,rfl⟩
 rw[aQ,aN] at fV fX fF;rw[aQ] at aH;have iF:=Q3 (aH.out.cell hH z0);clear hH hr hA;obtain⟨u0,u1,u2,u3⟩:=Q5 fV.out;have kW:=Q3 cL;have HM:=Q3 hM;have Hs:Hid (1<=t2/\t2<=1024/\0<=m/\m+t2<=64*n):=by have q:=HA.out m _ hM;exact⟨q.2.2.1,q.2.2.2,q.1,q.2.1⟩
 clear cL hM;have Hf:=Q3 hf;clear hf;have HFd:Hid (∀ V,Out 0 0 V2 V->Kz 50 #[Wz m t1 t2 t3 t4,Iz i] V fun e w'=>e=.panicked [z0o 32 0]/\Out 0 0 V w'):=fun V o=>q9e m t1 t2 t3 t4 i ((Hr.out.quiet (aH.out.trans o)).tab) (by have:=Hs.out;omega) (by have:=Hs.out;omega) Hf.out
 have kY:Hid (∀ V,Out 0 0 V2 V->Kz 49 #[Pq hb,Vz k m] V fun e w'=>e=.returned (Wz m t1 t2 t3 t4)/\Out 0 0 V w'):=fun V o=>by
  obtain⟨a1,a2,a3,a4,h1,h2⟩:=z1f (Hr.out.quiet (aH.out.trans o)) HA.out (o.cell iF.out z0) k m kW.out;rw[HM.out] at h1;simp only[Option.some.injEq,Prod.mk.injEq] at h1;obtain⟨rfl,rfl,rfl,rfl⟩:=h1;exact h2
 go_enter_defers Tryz.func17,Tryz.ntmps17
 go_wp2_with fail;(try rw[aQ]);(try rw[aN]);clear aQ aN;refine(U2 _ _).mono ?_;rintro e w5 ⟨rfl,he⟩;rw[he];clear he w5;go_wp2_with fail;refine(kY.out V2 (Out.refl 0 0 _)).mono ?_;rintro e X3 ⟨rfl,q3⟩;obtain⟨gb,bD⟩:∃ g,X3.heap.size=g:=⟨_,rfl⟩
 obtain⟨V4,bV⟩:∃ V,X3.alloc (Ez m t1 t2 t3 t4 81)=V:=⟨_,rfl⟩
 have fB:V4.heap[gb]? = some (Ez m t1 t2 t3 t4 81):=by rw[<-bV,<-bD];exact heap_alloc_new _ _
 have O4:Out 0 0 V2 V4:=by rw[<-bV];exact q3.alloc _
 obtain⟨y0,y1,y2,y3,y4,y5⟩:=K7 fB;have lT:=Q3 fB;have bJ:=Q3 O4;clear fB O4 q3 u0 u1 u2 u3;go_wp2_with fail;(try rw[bV]);(try rw[bD]);clear bV bD;refine(HFd.out V4 bJ.out).mono ?_;rintro e X5 ⟨rfl,q5⟩;have O5:=bJ.out.trans q5;clear q5;simp;refine leaves_cons (f:=48) (args:=#[.pointer (some ⟨gv+2,0,none⟩)]) (by simp) (by simp[go_sem]) ?_;refine(z1t (O5.heap fF.out z0)).mono ?_;rintro e u' w9 ⟨rfl,rfl,f9,q9⟩;exact Y7 (K5 Tryz.results17 rfl (J5 f9)) ⟨rfl,(aH.out.trans O5).trans' q9 (by have:=aW.out;omega)⟩
theorem q5y (hr:RawAt w lo hi s n cap r) (hA:U7 n r) (hH:cq w hb 0=some (Pq (s 14))) (k m i xk xn:Int) {t1 t2 t3 t4:Int} (hM:r.M m=some (t1,t2,t3,t4)) (cL:opE r k m=0) (hf:F8 (J6 t1 t2 i)=true) (hx:Q8 xk xn=false):Kz 17 #[Pq hb,Vz k m,Iz i,Vz xk xn] w fun e w'=>e=.returned (Vz 33 0)/\Out 0 0 w w':=by
 have nI:∀ (fn:Fn) (first cap:Array Value) (w:World),(Instr.makeFunc fn first cap).run Tryz.prog w=.ok (.func fn first cap) w:=fun _ _ _ _=>rfl
 have fV:=Q3 (J8 (w:=w) (o:=Dz k m 32) (o2:=Dz xk xn 32) (o3:=Dz 0 0 46));have fX:=Q3 (J7 (w:=w) (o:=Dz k m 32) (o2:=Dz xk xn 32) (o3:=Dz 0 0 46));have fF:=Q3 (J9 (w:=w) (o:=Dz k m 32) (o2:=Dz xk xn 32) (o3:=Dz 0 0 46));have aH:=Q3 ((((Out.refl 0 0 w).alloc (Dz k m 32)).alloc (Dz xk xn 32)).alloc (Dz 0 0 46));have Hr:=Q3 hr;have HA:=Q3 hA;obtain⟨gv,aN⟩:∃ g,w.heap.size=g:=⟨_,rfl⟩
 have aW:=Q3 aN;obtain⟨V2,aQ⟩:∃ V,((w.alloc (Dz k m 32)).alloc (Dz xk xn 32)).alloc (Dz 0 0 46)=V:=⟨_,rfl⟩
 rw[aQ,aN] at fV fX fF;rw[aQ] at aH;have iF:=Q3 (aH.out.cell hH z0);clear hH hr hA;obtain⟨u0,u1,u2,u3⟩:=Q5 fV.out;have kW:=Q3 cL;have HM:=Q3 hM;have Hs:Hid (1<=t2/\t2<=1024/\0<=m/\m+t2<=64*n):=by have q:=HA.out m _ hM;exact⟨q.2.2.1,q.2.2.2,q.1,q.2.1⟩
 clear cL hM;have Hf:=Q3 hf;have jG:=Q3 (fun V=>x5q hx V);clear hf hx;have HFd:Hid (∀ V,Out 0 0 V2 V->Kz 50 #[Wz m t1 t2 t3 t4,Iz i] V fun e w'=>e=.returned (Iz (J6 t1 t2 i))/\Out 0 0 V w'):=fun V o=>z3x m t1 t2 t3 t4 i ((Hr.out.quiet (aH.out.trans o)).tab) (by have:=Hs.out;omega) (by have:=Hs.out;omega) Hf.out
 have kY:Hid (∀ V,Out 0 0 V2 V->Kz 49 #[Pq hb,Vz k m] V fun e w'=>e=.returned (Wz m t1 t2 t3 t4)/\Out 0 0 V w'):=fun V o=>by
  obtain⟨a1,a2,a3,a4,h1,h2⟩:=z1f (Hr.out.quiet (aH.out.trans o)) HA.out (o.cell iF.out z0) k m kW.out;rw[HM.out] at h1;simp only[Option.some.injEq,Prod.mk.injEq] at h1;obtain⟨rfl,rfl,rfl,rfl⟩:=h1;exact h2
 go_enter_defers Tryz.func17,Tryz.ntmps17
 go_wp2_with fail;(try rw[aQ]);(try rw[aN]);clear aQ aN;refine(U2 _ _).mono ?_;rintro e w5 ⟨rfl,he⟩;rw[he];clear he w5;go_wp2_with fail;refine(kY.out V2 (Out.refl 0 0 _)).mono ?_;rintro e X3 ⟨rfl,q3⟩;obtain⟨gb,bD⟩:∃ g,X3.heap.size=g:=⟨_,rfl⟩
 obtain⟨V4,bV⟩:∃ V,X3.alloc (Ez m t1 t2 t3 t4 81)=V:=⟨_,rfl⟩
 have fB:V4.heap[gb]? = some (Ez m t1 t2 t3 t4 81):=by rw[<-bV,<-bD];exact heap_alloc_new _ _
 have O4:Out 0 0 V2 V4:=by rw[<-bV];exact q3.alloc _
 obtain⟨y0,y1,y2,y3,y4,y5⟩:=K7 fB;have lT:=Q3 fB;have bJ:=Q3 O4;clear fB O4 q3 u0 u1 u2 u3;go_wp2_with fail;(try rw[bV]);(try rw[bD]);clear bV bD;refine(HFd.out V4 bJ.out).mono ?_;rintro e X5 ⟨rfl,q5⟩;obtain⟨x0,x1,x2,x3⟩:=Q5 ((bJ.out.trans q5).heap fX.out z0);have bL:=Q3 (bJ.out.trans q5);have HB5:=Q3 (q5.heap lT.out z0);clear q5 y0 y1 y2 y3 y4 y5;generalize J6 t1 t2 i=aK at *
 go_wp2_with fail;refine(jG.out _).mono ?_;rintro e X6 ⟨rfl,q6⟩;have cJ:=Q3 (bL.out.trans q6);have HB6:=Q3 (q6.heap HB5.out z0);clear q6 x0 x1 x2 x3;go_wp2_with fail;refine(z2o _ _).mono ?_;rintro e X7 ⟨rfl,he⟩;rw[he];clear he X7;simp;refine leaves_cons (f:=48) (args:=#[.pointer (some ⟨gv+2,0,none⟩)]) (by simp) (by simp[go_sem]) ?_;refine(z1t (cJ.out.heap fF.out z0)).mono ?_;rintro e u' w9 ⟨rfl,rfl,f9,q9⟩;exact Y7 (K5 Tryz.results17 rfl (J5 f9)) ⟨rfl,(aH.out.trans cJ.out).trans' q9 (by have:=aW.out;omega)⟩
theorem j2y (hr:RawAt w lo hi s n cap r) (hA:U7 n r) (hH:cq w hb 0=some (Pq (s 14))) (k m i xk xn:Int) {t1 t2 t3 t4:Int} (hM:r.M m=some (t1,t2,t3,t4)) (cL:opE r k m=0) (hf:F8 (J6 t1 t2 i)=true) (hx:Q8 xk xn=true) (hg:rgB r m (t1,t2,t3,t4) (J6 t1 t2 i) (xn*8+(xk-1))=false):Kz 17 #[Pq hb,Vz k m,Iz i,Vz xk xn] w fun e w'=>e=.returned (Vz 33 0)/\Out 0 0 w w':=by
 have nI:∀ (fn:Fn) (first cap:Array Value) (w:World),(Instr.makeFunc fn first cap).run Tryz.prog w=.ok (.func fn first cap) w:=fun _ _ _ _=>rfl
 have fV:=Q3 (J8 (w:=w) (o:=Dz k m 32) (o2:=Dz xk xn 32) (o3:=Dz 0 0 46));have fX:=Q3 (J7 (w:=w) (o:=Dz k m 32) (o2:=Dz xk xn 32) (o3:=Dz 0 0 46));have fF:=Q3 (J9 (w:=w) (o:=Dz k m 32) (o2:=Dz xk xn 32) (o3:=Dz 0 0 46));have aH:=Q3 ((((Out.refl 0 0 w).alloc (Dz k m 32)).alloc (Dz xk xn 32)).alloc (Dz 0 0 46));have Hr:=Q3 hr;have HA:=Q3 hA;obtain⟨gv,aN⟩:∃ g,w.heap.size=g:=⟨_,rfl⟩
 have aW:=Q3 aN;obtain⟨V2,aQ⟩:∃ V,((w.alloc (Dz k m 32)).alloc (Dz xk xn 32)).alloc (Dz 0 0 46)=V:=⟨_,rfl⟩
 rw[aQ,aN] at fV fX fF;rw[aQ] at aH;have iF:=Q3 (aH.out.cell hH Oz);clear hH hr hA;obtain⟨u0,u1,u2,u3⟩:=Q5 fV.out;have kW:=Q3 cL;have HM:=Q3 hM;have Hs:Hid (1<=t2/\t2<=1024/\0<=m/\m+t2<=64*n):=by have q:=HA.out m _ hM;exact⟨q.2.2.1,q.2.2.2,q.1,q.2.1⟩
 clear cL hM;have Hf:=Q3 hf;have jG:=Q3 (fun V=>z8h hx V);have Hg:=Q3 hg;clear hg hf hx;have HFd:Hid (∀ V,Out 0 0 V2 V->Kz 50 #[Wz m t1 t2 t3 t4,Iz i] V fun e w'=>e=.returned (Iz (J6 t1 t2 i))/\Out 0 0 V w'):=fun V o=>z3x m t1 t2 t3 t4 i ((Hr.out.quiet (aH.out.trans o)).tab) (by have:=Hs.out;omega) (by have:=Hs.out;omega) Hf.out
 have kY:Hid (∀ V,Out 0 0 V2 V->Kz 49 #[Pq hb,Vz k m] V fun e w'=>e=.returned (Wz m t1 t2 t3 t4)/\Out 0 0 V w'):=fun V o=>by
  obtain⟨a1,a2,a3,a4,h1,h2⟩:=z1f (Hr.out.quiet (aH.out.trans o)) HA.out (o.cell iF.out Oz) k m kW.out;rw[HM.out] at h1;simp only[Option.some.injEq,Prod.mk.injEq] at h1;obtain⟨rfl,rfl,rfl,rfl⟩:=h1;exact h2
 go_enter_defers Tryz.func17,Tryz.ntmps17
 go_wp2_with fail;(try rw[aQ]);(try rw[aN]);clear aQ aN;refine(U2 _ _).mono ?_;rintro e w5 ⟨rfl,he⟩;rw[he];clear he w5;go_wp2_with fail;refine(kY.out V2 (Out.refl 0 0 _)).mono ?_;rintro e X3 ⟨rfl,q3⟩;obtain⟨gb,bD⟩:∃ g,X3.heap.size=g:=⟨_,rfl⟩
 obtain⟨V4,bV⟩:∃ V,X3.alloc (Ez m t1 t2 t3 t4 81)=V:=⟨_,rfl⟩
 have fB:V4.heap[gb]? = some (Ez m t1 t2 t3 t4 81):=by rw[<-bV,<-bD];exact heap_alloc_new _ _
 have O4:Out 0 0 V2 V4:=by rw[<-bV];exact q3.alloc _
 obtain⟨y0,y1,y2,y3,y4,y5⟩:=K7 fB;have lT:=Q3 fB;have bJ:=Q3 O4;clear fB O4 q3 u0 u1 u2 u3;go_wp2_with fail;(try rw[bV]);(try rw[bD]);clear bV bD;refine(HFd.out V4 bJ.out).mono ?_;rintro e X5 ⟨rfl,q5⟩;obtain⟨x0,x1,x2,x3⟩:=Q5 ((bJ.out.trans q5).heap fX.out Oz);have bL:=Q3 (bJ.out.trans q5);have HB5:=Q3 (q5.heap lT.out Oz);clear q5 y0 y1 y2 y3 y4 y5;generalize J6 t1 t2 i=aK at *
 go_wp2_with fail;refine(jG.out _).mono ?_;rintro e X6 ⟨rfl,q6⟩;have cJ:=Q3 (bL.out.trans q6);have HB6:=Q3 (q6.heap HB5.out Oz);clear q6 x0 x1 x2 x3;obtain⟨pv,hpv⟩:∃ v,xn*8+(xk-1)=v:=⟨_,rfl⟩
 have Hpv:=Q3 hpv;rw[hpv] at Hg ⊢;clear hpv;obtain⟨nC,mQ,mP,oI,z4',z5'⟩:=K7 HB6.out;go_wp2_with fail;refine(z5x (Hr.out.quiet (aH.out.trans cJ.out)) (cJ.out.cell iF.out Oz) m t1 t2 t3 t4 aK pv).mono ?_;rw[Hg.out];rintro e X7 ⟨rfl,q7⟩;have HO7:=Q3 (cJ.out.trans q7);have HB7:=Q3 (q7.heap HB6.out Oz);clear q7 nC mQ mP oI z4' z5';go_wp2_with fail;refine(z2o _ _).mono ?_;rintro e X8 ⟨rfl,he⟩;rw[he];clear he X8;simp;refine leaves_cons (f:=48) (args:=#[.pointer (some ⟨gv+2,0,none⟩)]) (by simp) (by simp[go_sem]) ?_;refine(z1t (HO7.out.heap fF.out Oz)).mono ?_;rintro e u' w9 ⟨rfl,rfl,f9,q9⟩;exact Y7 (K5 Tryz.results17 rfl (J5 f9)) ⟨rfl,(aH.out.trans HO7.out).trans' q9 (by have:=aW.out;omega)⟩
theorem x2s (hr:RawAt w lo hi s n cap r) (hA:U7 n r) (hH:cq w hb 0=some (Pq (s 14))) (k m i xk xn:Int) {t1 t2 t3 t4:Int} (hM:r.M m=some (t1,t2,t3,t4)) (cL:opE r k m=0) (hf:F8 (J6 t1 t2 i)=true) (hx:Q8 xk xn=true) (hg:rgB r m (t1,t2,t3,t4) (J6 t1 t2 i) (xn*8+(xk-1))=true) (hout:hb<lo\/hi<=hb):Kz 17 #[Pq hb,Vz k m,Iz i,Vz xk xn] w fun e w'=>e=.returned (Vz 0 0)/\RawAt w' lo hi s n cap { r with W:=F3 n r.W (m+i) (xn*8+(xk-1)) }/\Out lo hi w w':=by
 have nI:∀ (fn:Fn) (first cap:Array Value) (w:World),(Instr.makeFunc fn first cap).run Tryz.prog w=.ok (.func fn first cap) w:=fun _ _ _ _=>rfl
 have fV:=Q3 (J8 (w:=w) (o:=Dz k m 32) (o2:=Dz xk xn 32) (o3:=Dz 0 0 46));have fX:=Q3 (J7 (w:=w) (o:=Dz k m 32) (o2:=Dz xk xn 32) (o3:=Dz 0 0 46));have fF:=Q3 (J9 (w:=w) (o:=Dz k m 32) (o2:=Dz xk xn 32) (o3:=Dz 0 0 46));have aH:=Q3 ((((Out.refl 0 0 w).alloc (Dz k m 32)).alloc (Dz xk xn 32)).alloc (Dz 0 0 46));have Hr:=Q3 hr;have HA:=Q3 hA;obtain⟨gv,aN⟩:∃ g,w.heap.size=g:=⟨_,rfl⟩
 have aW:=Q3 aN;obtain⟨V2,aQ⟩:∃ V,((w.alloc (Dz k m 32)).alloc (Dz xk xn 32)).alloc (Dz 0 0 46)=V:=⟨_,rfl⟩
 rw[aQ,aN] at fV fX fF;rw[aQ] at aH;have iF:=Q3 (aH.out.cell hH Oz);clear hH hr hA;obtain⟨u0,u1,u2,u3⟩:=Q5 fV.out;have kW:=Q3 cL;have HM:=Q3 hM;have Hs:Hid (1<=t2/\t2<=1024/\0<=m/\m+t2<=64*n):=by have q:=HA.out m _ hM;exact⟨q.2.2.1,q.2.2.2,q.1,q.2.1⟩
 clear cL hM;have Hf:=Q3 hf;have jG:=Q3 (fun V=>z8h hx V);have Hg:=Q3 hg;clear hg;have kO:IntKind.i64.wrap (m+i)=m+i:=by have h1:=z3n hf;have h2:=Hs.out;have h3:=Hr.out.n2;rw[IntKind.wrap_i64];omega
 have dX:=Q3 hout;clear hout hf hx;have HFd:Hid (∀ V,Out 0 0 V2 V->Kz 50 #[Wz m t1 t2 t3 t4,Iz i] V fun e w'=>e=.returned (Iz (J6 t1 t2 i))/\Out 0 0 V w'):=fun V o=>z3x m t1 t2 t3 t4 i ((Hr.out.quiet (aH.out.trans o)).tab) (by have:=Hs.out;omega) (by have:=Hs.out;omega) Hf.out
 have kY:Hid (∀ V,Out 0 0 V2 V->Kz 49 #[Pq hb,Vz k m] V fun e w'=>e=.returned (Wz m t1 t2 t3 t4)/\Out 0 0 V w'):=fun V o=>by
  obtain⟨a1,a2,a3,a4,h1,h2⟩:=z1f (Hr.out.quiet (aH.out.trans o)) HA.out (o.cell iF.out Oz) k m kW.out;rw[HM.out] at h1;simp only[Option.some.injEq,Prod.mk.injEq] at h1;obtain⟨rfl,rfl,rfl,rfl⟩:=h1;exact h2
 go_enter_defers Tryz.func17,Tryz.ntmps17
 go_wp2_with fail;(try rw[aQ]);(try rw[aN]);clear aQ aN;refine(U2 _ _).mono ?_;rintro e w5 ⟨rfl,he⟩;rw[he];clear he w5;go_wp2_with fail;refine(kY.out V2 (Out.refl 0 0 _)).mono ?_;rintro e X3 ⟨rfl,q3⟩;obtain⟨gb,bD⟩:∃ g,X3.heap.size=g:=⟨_,rfl⟩
 obtain⟨V4,bV⟩:∃ V,X3.alloc (Ez m t1 t2 t3 t4 81)=V:=⟨_,rfl⟩
 have fB:V4.heap[gb]? = some (Ez m t1 t2 t3 t4 81):=by rw[<-bV,<-bD];exact heap_alloc_new _ _
 have HgbO:Hid (w.heap.size<=gb):=by rw[<-bD];exact(aH.out.trans q3).size
 have O4:Out 0 0 V2 V4:=by rw[<-bV];exact q3.alloc _
 obtain⟨y0,y1,y2,y3,y4,y5⟩:=K7 fB;have lT:=Q3 fB;have bJ:=Q3 O4;clear fB O4 q3 u0 u1 u2 u3;go_wp2_with fail;(try rw[bV]);(try rw[bD]);clear bV bD;refine(HFd.out V4 bJ.out).mono ?_;rintro e X5 ⟨rfl,q5⟩;obtain⟨x0,x1,x2,x3⟩:=Q5 ((bJ.out.trans q5).heap fX.out Oz);have bL:=Q3 (bJ.out.trans q5);have HB5:=Q3 (q5.heap lT.out Oz);clear q5 y0 y1 y2 y3 y4 y5;generalize J6 t1 t2 i=aK at *
 go_wp2_with fail;refine(jG.out _).mono ?_;rintro e X6 ⟨rfl,q6⟩;have cJ:=Q3 (bL.out.trans q6);have HB6:=Q3 (q6.heap HB5.out Oz);clear q6 x0 x1 x2 x3;obtain⟨pv,hpv⟩:∃ v,xn*8+(xk-1)=v:=⟨_,rfl⟩
 have Hpv:=Q3 hpv;rw[hpv] at Hg ⊢;clear hpv;obtain⟨nC,mQ,mP,oI,z4',z5'⟩:=K7 HB6.out;go_wp2_with fail;refine(z5x (Hr.out.quiet (aH.out.trans cJ.out)) (cJ.out.cell iF.out Oz) m t1 t2 t3 t4 aK pv).mono ?_;rw[Hg.out];rintro e X7 ⟨rfl,q7⟩;have HO7:=Q3 (cJ.out.trans q7);have HB7:=Q3 (q7.heap HB6.out Oz);clear q7 nC mQ mP oI z4' z5';go_wp2_with fail;refine(z0k _ _).mono ?_;rintro e X8 ⟨rfl,he⟩;rw[he];clear he X8;go_wp2_with fail;obtain⟨nC,mQ,mP,oI,z4',z5'⟩:=K7 HB7.out;have y6:=HO7.out.cell iF.out Oz;have bX:Hid (w.heap.size<=gb):=HgbO.out;refine wp_region_held_drew (S:=fun w'=>cq w' hb 0=some (Pq (s 14))/\cq w' gb 0=some (Iz m)) (by kernel_rfl) ?hS227 (fun aB=>?rest227)
 case hS227=>exact⟨y6,nC⟩
 obtain⟨Z0,hZ⟩:∃ Z,X7.drew=Z:=⟨_,rfl⟩
 have O:Out 0 0 V2 Z0:=by rw[<-hZ];exact HO7.out.drew
 rw[hZ] at aB ⊢;clear hZ;refine tp Tryz.results17 0 ?_;refine tp Tryz.results17 1 ?_;refine tp Tryz.results17 2 ?_;refine tp Tryz.results17 3 ?_;refine tp Tryz.results17 4 ?_;refine tp Tryz.results17 5 ?_;refine tp Tryz.results17 6 ?_;refine tp Tryz.results17 7 ?_;refine tp Tryz.results17 8 ?_;refine rd1 9 fun KK hK=>?_
 go_simp;refine(q2j (Hr.out.quiet (aH.out.trans O)) (m+i) pv).mono ?_;rintro e X9 ⟨rfl,P9,q9⟩;refine hK.out _ _ ⟨q9.cell aB.1 (by have h1:=dX.out;omega),q9.cell aB.2 (.inr (by have h1:=Hr.out.top;have h2:=bX.out;omega))⟩ fun aB=>?_
 clear hK KK;refine dn ?_;have HP9:=Q3 P9;have HQ9:=Q3 (((aH.out.trans O).any lo hi).trans q9);have fI:=Q3 (q9.heap (O.heap fF.out Oz) (.inr (by have h1:=Hr.out.top;have h2:=aW.out;omega)));obtain⟨b0,b1,b2,b3⟩:=flt_facts fI.out;clear aB P9 q9 O y6 nC mQ mP oI z4' z5';go_wp2;have o10:=(Out.refl (gv+2) (gv+3) X9).set2 (b:=gv+2) (o:=0) (o':=1) Lz (Iz 0) (Iz 0);refine leaves_cons (f:=48) (args:=#[.pointer (some ⟨gv+2,0,none⟩)]) (by simp) (by simp[go_sem]) ?_;refine(q1o (J3 (x':=0) (y':=0) fI.out)).mono ?_;rintro e u' w9 ⟨rfl,rfl,f9,q9⟩;have hd:hi<=gv+2:=by have h1:=Hr.out.top;have h2:=aW.out;omega
 have hn:4<=gv+2:=by have h1:=Hr.out.top;have h2:=aW.out;have h3:=Hr.out.glob;have h4:=Hr.out.inn 0 (by omega);omega
 exact Y7 (K5 Tryz.results17 rfl (J5 f9)) ⟨rfl,by rw[Hpv.out];exact(HP9.out.kept o10 (.inl hd) (.inl hn)).kept q9 (.inl hd) (.inl hn),(HQ9.out.then o10 (by have:=aW.out;omega)).then q9 (by have:=aW.out;omega)⟩
end
def z1r (r:Int):Int:=if z2v r then 26 else 2
theorem x1y {c:Int} (h:Q8 3 c=true) (w:World):Calls Tryz.prog 105 #[.int .i64 c] w fun e w'=>e=.returned (.agg #[.int .i64 3,.int .i64 c])/\Out 0 0 w w':=by
 refine(q3x c w).mono ?_;rintro e w' ⟨rfl,q⟩;unfold z0t z0u;rw[if_pos h,if_pos h];exact⟨rfl,K8 q⟩
theorem j4n (r:Int) (w:World):Kz 45 #[Iz r] w fun e w'=>e=.returned (Iz (z1r r))/\Out 0 0 w w':=by
 have HP:=Q3 (fun w=>z9e r w);unfold z1r;cases h:z2v r
 ·rw[h] at HP;clear h;go_enter Tryz.func45,Tryz.ntmps45
  go_wp2_with fail;refine(HP.out _).mono ?_;rintro e w1 ⟨rfl,rfl⟩;go_wp2_with fail;refine(x1y (c:=0) (by decide) _).mono ?_;rintro e w1 ⟨rfl,q1⟩;go_wp2_with fail;refine(z8h (k:=3) (n:=0) (by decide) _).mono ?_;rintro e w2 ⟨rfl,q2⟩;go_wp2;go_ret;exact⟨rfl,q1.trans q2⟩
 ·rw[h] at HP;clear h;go_enter Tryz.func45,Tryz.ntmps45
  go_wp2_with fail;refine(HP.out _).mono ?_;rintro e w1 ⟨rfl,rfl⟩;go_wp2_with fail;refine(x1y (c:=3) (by decide) _).mono ?_;rintro e w1 ⟨rfl,q1⟩;go_wp2_with fail;refine(z8h (k:=3) (n:=3) (by decide) _).mono ?_;rintro e w2 ⟨rfl,q2⟩;go_wp2;go_ret;exact⟨rfl,q1.trans q2⟩
def j0c (r:Raw) (a i v:Int):Bool:=match r.M a with | none=>false | some b=>rgB r a b (J6 b.1 b.2.1 i) v
theorem W6 (W:World) (l:Nat) (o:Obj):Out l (l+1) W (W.putObj l o):=
 ⟨rfl,rfl,rfl,by simp,fun k _ h2=>World.putObj_heap_other (by omega)⟩
def j8c (a:Act) (ps:Array Tmp) (assign body:Code) (D:Nat) (cX:LoopState->Option Code->Loop):Prop:=
 ∃ fn,cX=fun st pe=>{ state:=st,pending:=pe,fn,tmps:=a.tmps,params:=ps,assign,body,defers:=D }
theorem z2w {P:Program} {g:Operand} {ps:Array Tmp} {assign body:Code} {Q:Exit->Act->World->Prop} {a:Act} {w:World} {gf:Nat} {lb:Array Value}
  (hg:a.eval g=.func (.func gf) #[] lb) (eg:∀ args w,(callFunc gf args).run P w=.ok (.enter gf args) w) (K:World->Prop) (Kx:Code->World->Prop)
  (H:∀ cX,j8c a ps assign body w.heap.size cX->∀ W1,W1=(w.alloc (.deferred (some []))).alloc (.loop (cX .ready none)) ->
   Calls P gf (#[.func (.yield (w.heap.size+1)) #[] #[]] ++ lb) W1 fun e W=>(∃ v,e=.returned v)/\W.heap[w.heap.size]? = some (.deferred (some [])) ∧
    ((K W/\W.heap[w.heap.size+1]? = some (.loop (cX .ready none)))\/∃ c,Kx c W/\W.heap[w.heap.size+1]? = some (.loop (cX .done (some c)))))
  (hdone:∀ W W',K W->Out (w.heap.size+1) (w.heap.size+2) W W'->W'.heap[w.heap.size]? = some (.deferred (some []))->Q .normal { a with defers:={ target:=.collected w.heap.size,args:=#[] } :: a.defers } W')
  (hstop:∀ c W W',Kx c W->Out (w.heap.size+1) (w.heap.size+2) W W'->W'.heap[w.heap.size]? = some (.deferred (some []))->c.wpIn Fence.wide 0 P Q { a with defers:={ target:=.collected w.heap.size,args:=#[] } :: a.defers } W') :
  (Code.rangeFunc g ps assign body).wpIn Fence.wide 0 P Q a w:=by
 refine wpIn_rangeFunc ?_;intro fn hfn;obtain⟨cX,eN⟩:∃ cX:LoopState->Option Code->Loop,cX=fun st pe=>{ state:=st,pending:=pe,fn,tmps:=a.tmps,params:=ps,assign,body,defers:=w.heap.size }:=⟨_,rfl⟩
 have hc:=H cX ⟨fn,eN⟩ _ rfl;refine⟨w.heap.size+1,[{ target:=.collected w.heap.size,args:=#[] }],(w.alloc (.deferred (some []))).alloc (.loop (cX .ready none)),{ target:=.fn (.func gf) lb,args:=#[.func (.yield (w.heap.size+1)) #[] #[]] },(w.alloc (.deferred (some []))).alloc (.loop (cX .ready none)),gf,
  #[.func (.yield (w.heap.size+1)) #[] #[]] ++ lb,(w.alloc (.deferred (some []))).alloc (.loop (cX .ready none)),?_,?_,fun _ _=>trivial,?_,fun h=>by simp[Fence.wide] at h,?_⟩
 ·rw[eN];exact run_enterLoop_outer _ _ _ _ _
 ·simp only[resolve,hg];simp[go_sem]
 ·simp[invoke,go_sem,eg]
 ·refine callsIn_wide.2 (hc.mono ?_);rintro e W ⟨⟨v,rfl⟩,hD,⟨hK,hl⟩ | ⟨c,hK,hl⟩⟩
  ·refine⟨none,_,by have:=run_endLoop (P:=P) hl (by rw[eN];simp);rw[eN] at this;exact this,hdone W _ hK (W6 _ _ _) ((World.putObj_heap_other (by omega)).trans hD)⟩
  ·refine⟨some c,_,by have:=run_endLoop (P:=P) hl (by rw[eN];simp);rw[eN] at this;exact this,hstop c W _ hK (W6 _ _ _) ((World.putObj_heap_other (by omega)).trans hD)⟩
def rPost (l:Nat) (cX:LoopState->Option Code->Loop) (R:Ending->World->Prop):Exit->Act->World->Prop
 | .normal,_,W=>W.heap[l]? = some (.loop (cX .busy none))/\∀ W',Out l (l+1) W W'->W'.heap[l]? = some (.loop (cX .ready none))->R (.returned (.bool true)) W'
 | .ret,_,W=>W.heap[l]? = some (.loop (cX .busy none))/\∀ W',Out l (l+1) W W'->W'.heap[l]? = some (.loop (cX .done (some .ret)))->R (.returned (.bool false)) W'
 | .exit id,_,W=>W.heap[l]? = some (.loop (cX .busy none))/\∀ W',Out l (l+1) W W'->W'.heap[l]? = some (.loop (cX .done (some (.exit id))))->R (.returned (.bool false)) W'
 | .goto t,_,W=>W.heap[l]? = some (.loop (cX .busy none))/\∀ W',Out l (l+1) W W'->W'.heap[l]? = some (.loop (cX .done (some (.goto t))))->R (.returned (.bool false)) W'
 | .panic _,_,_=>False
 | .outgrown,_,_=>False
theorem z2x {P:Program} {a:Act} {ps:Array Tmp} {assign body:Code} {D l:Nat} {cX:LoopState->Option Code->Loop} {W:World} {args:Array Value} {R:Ending->World->Prop}
  (eN:j8c a ps assign body D cX) (hl:W.heap[l]? = some (.loop (cX .ready none))) (hs:args.size=ps.size)
  (h:assign.wpIn (Fence.wide.inRound l) 0 P (Exit.then (fun a1 W1=>W1.heap[l]? = some (.loop (cX .ready none)) ∧
   ∀ W2,Out l (l+1) W1 W2->W2.heap[l]? = some (.loop (cX .busy none))->body.wpIn (Fence.wide.inRound l) 0 P (rPost l cX R) a1 W2) (fun _ _ _=>False))
   { tmps:=(ps.zip args).foldl (fun t (p,v)=>t.setIfInBounds p v) a.tmps,defers:=[] } W):YieldAt Fence.wide 0 P l args W R:=by
 obtain⟨fn,rfl⟩:=eN;have hy:=run_yield (P:=P) (args:=args) hl hs;refine⟨fn,_,assign,body,hy,roundIn_of_wpIn trivial (wpIn_mono h ?_)⟩;rintro e a1 W1 he;cases e with
 | normal=>
  obtain⟨hl1,hb⟩:=he;have dD:l<W1.heap.size:=Q7 hl1;refine⟨_,run_beginRound hl1 rfl,wpIn_mono (hb _ (W6 _ _ _) (World.putObj_heap_same dD)) ?_⟩;rintro e2 a2 W3 hp;cases e2 with
  | normal=>exact⟨_,_,run_endRound none hp.1,hp.2 _ (W6 _ _ _) (World.putObj_heap_same (Q7 hp.1))⟩
  | ret=>exact⟨_,_,run_endRound (some .ret) hp.1,hp.2 _ (W6 _ _ _) (World.putObj_heap_same (Q7 hp.1))⟩
  | exit id=>exact⟨_,_,run_endRound (some (.exit id)) hp.1,hp.2 _ (W6 _ _ _) (World.putObj_heap_same (Q7 hp.1))⟩
  | goto t=>exact⟨_,_,run_endRound (some (.goto t)) hp.1,hp.2 _ (W6 _ _ _) (World.putObj_heap_same (Q7 hp.1))⟩
  | panic ch=>exact hp.elim
  | outgrown=>exact hp.elim
 | ret=>exact he.elim
 | exit id=>exact he.elim
 | goto t=>exact he.elim
 | panic ch=>exact he.elim
 | outgrown=>exact he.elim
end Go.Proofs.YtjgnogflgoihfaaGreatDoor
namespace Go.Proofs.YtjgnogflgoihfaaGreatDoor
open Go.RowKit
attribute [local go_sem] Oper.semAt_some
theorem z1k {m:Nat} {P:Program} {l:Nat} {f:FuncId} {tmps:Array Value} {assign body:Code} {w:World} {R:Ending->World->Prop} (h:RoundIn Fence.wide 0 P l f tmps assign body w R):RoundIn Fence.wide m P l f tmps assign body w R:=
 ⟨h.1,fun c cs _=>h.2 c cs (room_wide _)⟩
theorem z6f {lo hi b n g l:Nat} (I:Nat->World->Prop) (J Jx:World->Prop)
  (hm:∀ p w,I p w->p<=n/\∃ S,MapAt w lo hi b n S/\Box w g 137 (.pointer (some ⟨b,0,none⟩)))
  (hq:∀ p w w',I p w->Out 0 0 w w'->I p w')
  (hy:∀ p w S (k:Nat),I p w->MapAt w lo hi b n S->nxr S n p=k->YieldAt Fence.wide 0 Tryz.prog l #[.int .i64 (k:Int)] w fun e w'=>(e=.returned (.bool true)/\I (k+1) w')\/(e=.returned (.bool false)/\Jx w'))
  (he:∀ p w S,I p w->MapAt w lo hi b n S->nxr S n p = -1->J w) {w:World} (h0:I 0 w) :
  Calls Tryz.prog 205 #[.func (.yield l) #[] #[],.pointer (some ⟨g,0,none⟩)] w fun e w'=>(∃ v,e=.returned v)/\(J w'\/Jx w'):=by
 obtain⟨hp0,S0,hS0,gV⟩:=hm 0 w h0;have c0:=gV.cell;have HX:=Q3 (z5q hS0 0);rw[show (0:Int).toNat=0 from rfl] at HX;have HM:=Q3 hm;have HQ:=Q3 hq;have HY:=Q3 hy;have HE:=Q3 he;have HI:=Q3 h0;have HN:=Q3 hS0.bounds;have HS:=Q3 hS0;clear hm hq hy he h0 hS0 gV hp0;refine(callsIn_wide (n:=0)).1 ?_;refine callsIn_of_wp Tryz.func205 rfl trivial ?_ rfl;simp only[Tryz.ntmps205,List.size_toArray,List.length_cons,List.length_nil,Nat.reduceAdd,Nat.reduceSub,Array.replicate_succ,Array.replicate_zero,List.push_toArray,List.append_toArray,List.nil_append,List.cons_append];gi_wp2_with (refine⟨trivial,rfl,?_⟩;gi_at_call 89;refine(callsIn_wide.2 HX.out).mono ?_;rintro e w1 ⟨rfl,ho⟩);have HI1:=Q3 (HQ.out 0 w w1 HI.out ho);obtain⟨z,hz⟩:∃ z,nxr S0 n 0=z:=⟨_,rfl⟩
 have HZ:Hid (∃ S,MapAt w1 lo hi b n S/\nxr S n 0=z):=⟨S0,HS.out.quiet ho,hz⟩
 rw[hz];clear ho c0 hz HX;gi_loopw [3] (fun v wr=>∃ (p:Nat) (S:Nat->Bool),v=.int .i64 (nxr S n p)/\MapAt wr lo hi b n S/\I p wr) (fun v _=>if intOf v<0 then 0 else ((n:Int)-intOf v).toNat)
 case atStart=>
  obtain⟨S,h1,rfl⟩:=HZ.out;exact⟨0,S,rfl,h1,HI1.out⟩
 case round=>
  obtain⟨p,S,rfl,hS,hI⟩:=hrel;rcases U4 S n p with ⟨e1,e2⟩ | ⟨k,e1,k1,k2,k3,k4⟩
  ·have HJ:=Q3 (HE.out p wr S hI hS e1);rw[e1];clear hS hI e1 e2;gi_wp2;exact bodyPost_end (results_none Tryz.results205 _ _ _) rfl ⟨⟨_,rfl⟩,.inl HJ.out⟩
  ·obtain⟨fn,tmps,assign,body,hy,hR⟩:=HY.out p wr S k hI hS e1;have HR:=Q3 (z1k (m:=0) hR);have b0:(0:Int)<=(k:Int):=by omega
   have b1:(k:Int)<=262144:=by have:=HN.out;omega
   rw[e1];clear hS hI e1 hR;gi_wp2;refine⟨rfl,HR.out.mono ?_⟩;clear HR hy;rintro e w2 (⟨rfl,hI2⟩ | ⟨rfl,hx⟩)
   ·obtain⟨p2,S2,hS2,hb2⟩:=HM.out _ _ hI2;have c2:=hb2.cell;have HX2:=Q3 (z5q hS2 ((k:Int)+1));rw[show ((k:Int)+1).toNat=k+1 from by omega] at HX2;have HI2:=Q3 hI2;have oH:=Q3 hS2;clear hI2 hS2 hb2 p2;gi_wp2_with (refine⟨trivial,rfl,?_⟩;gi_at_call 89;refine(callsIn_wide.2 HX2.out).mono ?_;rintro e w3 ⟨rfl,ho⟩);go_roundw
    case rel=>exact⟨k+1,S2,rfl,oH.out.quiet ho,HQ.out _ _ _ HI2.out ho⟩
    case measure=>
     have e:∀ v:Int,intOf (.int .i64 v)=v:=fun _=>rfl
     simp only[e];rw[if_neg (show ¬ ((k:Int)<0) from by omega)];rcases U4 S2 n (k+1) with ⟨e1,_⟩ | ⟨k',e1,q1,q2,_,_⟩
     ·rw[e1,if_pos (by omega)];omega
     ·rw[e1,if_neg (by omega)];have:=q2 k1;omega
   ·have HX:=Q3 hx;clear hx;gi_wp2;exact bodyPost_ret (results_none Tryz.results205 _ _ _) rfl ⟨⟨_,rfl⟩,.inr HX.out⟩
end Go.Proofs.YtjgnogflgoihfaaGreatDoor
