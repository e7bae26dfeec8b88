import Derived.Test.YtjgnogflgoihfaaGreatDoorP06
namespace Go.Proofs.YtjgnogflgoihfaaGreatDoor
open Go.RowKit
set_option linter.unusedVariables false
set_option maxRecDepth 100000
set_option maxHeartbeats 16000000
set_option linter.unusedSimpArgs false
theorem z3w {k s i:Int} (h:G3 (J9 k s i)=true):1<=i/\i<s:=by
 unfold J9 at h;by_cases c:F4 k s=true/\1<=i/\i<s
 ·exact c.2
 ·rw[if_neg c] at h;exact absurd h (by decide)
theorem j0z {r:Raw} {ba:Int} {b:Blk} {aN v:Int} (hf:G3 aN=true) (h:rgB r ba b aN v=true):J2 (v % 8+1) (v / 8)=true:=by
 unfold rgB at h;unfold G3 at hf;rw[if_neg (by simp at hf;omega)] at h;cases hv:J2 (v % 8+1) (v / 8)
 ·rw[hv,if_neg (by simp)] at h;exact absurd h (by decide)
 ·rfl
theorem infoV (a b:Int):(Tryz.prog.info? 32).map (·.size)=some (#[Value.int .i64 a,.int .i64 b]).size:=by
 have:(Tryz.prog.info? 32).map (·.size)=some 2:=by kernel_rfl
 simpa using this
theorem U5 {w:World} {g:Nat} {x1 x2:Int} (hg:w.heap[g]? = some (.cells #[.int .i64 x1,.int .i64 x2] 32 (0,0))):(loadVar 32 ⟨g,0,none⟩).run Tryz.prog w=.ok (.agg #[.int .i64 x1,.int .i64 x2]) w:=
 run_loadVar_row w g 32 32 _ (0,0) _ hg Tryz.underlying32 rfl (infoV x1 x2)
theorem G9 {w:World} {g:Nat} {x1 x2:Int} {y1 y2:Value} (h:w.heap[g]? = some (.cells #[y1,y2] 32 (0,0))):((w.setCell ⟨g,0,none⟩ (.int .i64 x1)).setCell ⟨g,1,none⟩ (.int .i64 x2)).heap[g]? = some (.cells #[.int .i64 x1,.int .i64 x2] 32 (0,0)):=by
 simp[World.setCell,Array.getElem?_modify,h]
section
variable {w:World} {lo hi hb:Nat} {s:Nat->Nat} {n cap:Nat} {r:Raw}
theorem j3m (hr:RawAt w lo hi s n cap r) (hA:U6 n r) (hT:Tab w) (hH:cq w hb 0=some (Pq (s 14))) (k m i:Int) {t1 t2 t3 t4:Int} (hM:r.M m=some (t1,t2,t3,t4)) (dX:opE r k m=0) (hn:n<=4096) (hf:G3 (J9 t1 t2 i)=true) (hg:rgB r m (t1,t2,t3,t4) (J9 t1 t2 i) (z3f n r.W (m+i))=false):Kz 18 #[Pq hb,Vz k m,Iz i] w fun e w'=>e=.returned (.tuple #[Vz 0 0,Vz 21 (m+i)])/\Out 0 0 w w':=by
 have pM:∀ (fn:Fn) (first cap:Array Value) (w:World),(Instr.makeFunc fn first cap).run Tryz.prog w=.ok (.func fn first cap) w:=fun _ _ _ _=>rfl
 have fV:=Q3 (V5 (w:=w) (o:=Dz k m 32) (o2:=Dz 0 0 32) (o3:=Dz 0 0 46));have fR:=Q3 (X0 (w:=w) (o:=Dz k m 32) (o2:=Dz 0 0 32) (o3:=Dz 0 0 46));have fF:=Q3 (K4 (w:=w) (o:=Dz k m 32) (o2:=Dz 0 0 32) (o3:=Dz 0 0 46));have aI:=Q3 ((((Out.refl 0 0 w).alloc (Dz k m 32)).alloc (Dz 0 0 32)).alloc (Dz 0 0 46));have Hr:=Q3 hr;have HA:=Q3 hA;have HT:=Q3 hT;obtain⟨gv,aR⟩:∃ g,w.heap.size=g:=⟨_,rfl⟩
 have bD:=Q3 aR;obtain⟨V2,aS⟩:∃ V,((w.alloc (Dz k m 32)).alloc (Dz 0 0 32)).alloc (Dz 0 0 46)=V:=⟨_,rfl⟩
 rw[aS,aR] at fV fR fF;rw[aS] at aI;have jT:=Q3 (aI.out.cell hH Oz);clear hH hr hA hT;obtain⟨u0,u1,u2,u3⟩:=Q5 fV.out;have mM:=Q3 dX;have HM:=Q3 hM;have Hs:Hid (1<=t2/\t2<=1024/\0<=m/\m+t2<=64*n):=by have q:=HA.out m _ hM;exact⟨q.2.2.1,q.2.2.2,q.1,q.2.1⟩
 clear dX hM;have Hf:=Q3 hf;have Hg:=Q3 hg;have mD:IntKind.i64.wrap (m+i)=m+i:=by have h1:=z3w hf;have h2:=Hs.out;rw[IntKind.wrap_i64];omega
 have m1:-9223372036854775808<=m+i:=by have h1:=z3w hf;have h2:=Hs.out;omega
 have m2:m+i<=9223372036854775807:=by have h1:=z3w hf;have h2:=Hs.out;omega
 clear hg hf;have HFd:Hid (∀ V,Out 0 0 V2 V->Kz 50 #[Wz m t1 t2 t3 t4,Iz i] V fun e w'=>e=.returned (Iz (J9 t1 t2 i))/\Out 0 0 V w'):=fun V o=>z4i m t1 t2 t3 t4 i (HT.out.quiet (aI.out.trans o)) (by have:=Hs.out;omega) (by have:=Hs.out;omega) Hf.out
 have mO:Hid (∀ V,Out 0 0 V2 V->Kz 49 #[Pq hb,Vz k m] V fun e w'=>e=.returned (Wz m t1 t2 t3 t4)/\Out 0 0 V w'):=fun V o=>by
  obtain⟨a1,a2,a3,a4,h1,h2⟩:=z1n (Hr.out.quiet (aI.out.trans o)) HA.out (o.cell jT.out Oz) k m mM.out;rw[HM.out] at h1;simp only[Option.some.injEq,Prod.mk.injEq] at h1;obtain⟨rfl,rfl,rfl,rfl⟩:=h1;exact h2
 go_enter_defers Tryz.func18,Tryz.ntmps18
 go_wp2_with fail;(try rw[aS]);(try rw[aR]);clear aS aR;refine(U3 _ _).mono ?_;rintro e w5 ⟨rfl,he⟩;rw[he];clear he w5;go_wp2_with fail;refine(mO.out V2 (Out.refl 0 0 _)).mono ?_;rintro e X3 ⟨rfl,q3⟩;obtain⟨gb,bG⟩:∃ g,X3.heap.size=g:=⟨_,rfl⟩
 obtain⟨V4,cG⟩:∃ V,X3.alloc (Ez m t1 t2 t3 t4 81)=V:=⟨_,rfl⟩
 have fB:V4.heap[gb]? = some (Ez m t1 t2 t3 t4 81):=by rw[<-cG,<-bG];exact heap_alloc_new _ _
 have O4:Out 0 0 V2 V4:=by rw[<-cG];exact q3.alloc _
 obtain⟨y0,y1,y2,y3,y4,y5⟩:=W7 fB;have nI:=Q3 fB;have bN:=Q3 O4;clear fB O4 q3 u0 u1 u2 u3;go_wp2_with fail;(try rw[cG]);(try rw[bG]);clear cG bG;refine(HFd.out V4 bN.out).mono ?_;rintro e X5 ⟨rfl,q5⟩;have y6:=(bN.out.trans q5).cell jT.out Oz;obtain⟨x0,x1,x2,x3,x4,x5⟩:=W7 (q5.heap nI.out Oz);have bJ:=Q3 (bN.out.trans q5);have HB5:=Q3 (q5.heap nI.out Oz);clear q5 y0 y1 y2 y3 y4 y5;generalize J9 t1 t2 i=aN at *
 go_wp2_with fail;refine wp_region_held_drew (S:=fun w'=>cq w' hb 0=some (Pq (s 14))/\cq w' gb 0=some (Iz m)/\Out 0 0 X5 w') (by kernel_rfl) ?hS197 (fun aB=>?rest197)
 case hS197=>exact⟨y6,x0,(Out.refl 0 0 _).drew⟩
 refine wpAnyH_take (i:=0) (v:=?v198) rfl (by kernel_rfl) (by kernel_rfl) (by kernel_rfl) (fun _ _ _ h=>Q6 (Q7 Tryz.results18 (by decide) (by decide) _ _) _ _ _ h) (Or.inl ⟨by rfl,?hy198⟩) (by assumption) ?rest198
 case hy198=>(intro w aW;(try dsimp only at aW);simp only[xa,xb,xc];go_simp;(try with_reducible rfl))
 (try simp only[Act.put,xa,xb,xc,xd,xe,xf]);refine wpAnyH_take (i:=1) (v:=?v199) rfl (by kernel_rfl) (by kernel_rfl) (by kernel_rfl) (fun _ _ _ h=>Q6 (Q7 Tryz.results18 (by decide) (by decide) _ _) _ _ _ h) (Or.inl ⟨by rfl,?hy199⟩) (by assumption) ?rest199
 case hy199=>(intro w aW;(try dsimp only at aW);simp only[xa,xb,xc];go_simp;(try with_reducible rfl))
 (try simp only[Act.put,xa,xb,xc,xd,xe,xf]);refine wpAnyH_take (i:=2) (v:=?v200) rfl (by kernel_rfl) (by kernel_rfl) (by kernel_rfl) (fun _ _ _ h=>Q6 (Q7 Tryz.results18 (by decide) (by decide) _ _) _ _ _ h) (Or.inl ⟨by rfl,?hy200⟩) (by assumption) ?rest200
 case hy200=>(intro w aW;(try dsimp only at aW);simp only[xa,xb,xc];go_simp;(try with_reducible rfl))
 (try simp only[Act.put,xa,xb,xc,xd,xe,xf]);refine wpAnyH_take (i:=3) (v:=?v201) rfl (by kernel_rfl) (by kernel_rfl) (by kernel_rfl) (fun _ _ _ h=>Q6 (Q7 Tryz.results18 (by decide) (by decide) _ _) _ _ _ h) (Or.inl ⟨by rfl,?hy201⟩) (by assumption) ?rest201
 case hy201=>(intro w aW;(try dsimp only at aW);simp only[xa,xb,xc];go_simp;(try with_reducible rfl))
 (try simp only[Act.put,xa,xb,xc,xd,xe,xf]);refine wpAnyH_take (i:=4) (v:=?v202) rfl (by kernel_rfl) (by kernel_rfl) (by kernel_rfl) (fun _ _ _ h=>Q6 (Q7 Tryz.results18 (by decide) (by decide) _ _) _ _ _ h) (Or.inl ⟨by rfl,?hy202⟩) (by assumption) ?rest202
 case hy202=>(intro w aW;(try dsimp only at aW);simp only[xa,xb,xc];go_simp;(try with_reducible rfl))
 (try simp only[Act.put,xa,xb,xc,xd,xe,xf]);refine wpAnyH_take (i:=5) (v:=?v203) rfl (by kernel_rfl) (by kernel_rfl) (by kernel_rfl) (fun _ _ _ h=>Q6 (Q7 Tryz.results18 (by decide) (by decide) _ _) _ _ _ h) (Or.inl ⟨by rfl,?hy203⟩) (by assumption) ?rest203
 case hy203=>(intro w aW;(try dsimp only at aW);simp only[xa,xb,xc];go_simp;(try with_reducible rfl))
 (try simp only[Act.put,xa,xb,xc,xd,xe,xf]);refine wpAnyH_take (i:=6) (v:=?v204) rfl (by kernel_rfl) (by kernel_rfl) (by kernel_rfl) (fun _ _ _ h=>Q6 (Q7 Tryz.results18 (by decide) (by decide) _ _) _ _ _ h) (Or.inl ⟨by rfl,?hy204⟩) (by assumption) ?rest204
 case hy204=>(intro w aW;(try dsimp only at aW);simp only[xa,xb,xc];go_simp;(try with_reducible rfl))
 (try simp only[Act.put,xa,xb,xc,xd,xe,xf]);refine wpAnyH_take (i:=7) (v:=?v205) rfl (by kernel_rfl) (by kernel_rfl) (by kernel_rfl) (fun _ _ _ h=>Q6 (Q7 Tryz.results18 (by decide) (by decide) _ _) _ _ _ h) (Or.inl ⟨by rfl,?hy205⟩) (by assumption) ?rest205
 case hy205=>(intro w aW;(try dsimp only at aW);simp only[xa,xb,xc];go_simp;(try with_reducible rfl))
 refine rd1 8 fun KK hK=>?_
 simp only[xa,xb,xc];go_simp;refine(j0t (Hr.out.quiet (aI.out.trans (bJ.out.trans aB.2.2))) (m+i)).mono ?_;rintro e w6 ⟨rfl,he⟩;rw[he];clear he w6;refine hK.out _ _ (aB) fun aB=>?_
 clear hK KK;(try simp only[Act.put,xa,xb,xc,xd,xe,xf]);refine wpAnyH_take (i:=9) (v:=?v207) rfl (by kernel_rfl) (by kernel_rfl) (by kernel_rfl) (fun _ _ _ h=>Q6 (Q7 Tryz.results18 (by decide) (by decide) _ _) _ _ _ h) (Or.inl ⟨by rfl,?hy207⟩) (by assumption) ?rest207
 case hy207=>(intro w aW;(try dsimp only at aW);simp only[xa,xb,xc];go_simp;(try with_reducible rfl))
 (try simp only[Act.put,xa,xb,xc,xd,xe,xf]);refine wpAnyH_take (i:=10) (v:=?v208) rfl (by kernel_rfl) (by kernel_rfl) (by kernel_rfl) (fun _ _ _ h=>Q6 (Q7 Tryz.results18 (by decide) (by decide) _ _) _ _ _ h) (Or.inl ⟨by rfl,?hy208⟩) (by assumption) ?rest208
 case hy208=>(intro w aW;(try dsimp only at aW);simp only[xa,xb,xc];go_simp;(try with_reducible rfl))
 (try simp only[Act.put,xa,xb,xc,xd,xe,xf]);refine wpAnyH_take (i:=11) (v:=?v209) rfl (by kernel_rfl) (by kernel_rfl) (by kernel_rfl) (fun _ _ _ h=>Q6 (Q7 Tryz.results18 (by decide) (by decide) _ _) _ _ _ h) (Or.inl ⟨by rfl,?hy209⟩) (by assumption) ?rest209
 case hy209=>(intro w aW;(try dsimp only at aW);simp only[xa,xb,xc];go_simp;(try with_reducible rfl))
 (try simp only[Act.put,xa,xb,xc,xd,xe,xf]);refine wpAnyH_take (i:=12) (v:=?v210) rfl (by kernel_rfl) (by kernel_rfl) (by kernel_rfl) (fun _ _ _ h=>Q6 (Q7 Tryz.results18 (by decide) (by decide) _ _) _ _ _ h) (Or.inl ⟨by rfl,?hy210⟩) (by assumption) ?rest210
 case hy210=>(intro w aW;(try dsimp only at aW);simp only[xa,xb,xc];go_simp;(try with_reducible rfl))
 (try simp only[Act.put,xa,xb,xc,xd,xe,xf]);refine wpAnyH_take (i:=13) (v:=?v211) rfl (by kernel_rfl) (by kernel_rfl) (by kernel_rfl) (fun _ _ _ h=>Q6 (Q7 Tryz.results18 (by decide) (by decide) _ _) _ _ _ h) (Or.inl ⟨by rfl,?hy211⟩) (by assumption) ?rest211
 case hy211=>(intro w aW;(try dsimp only at aW);simp only[xa,xb,xc];go_simp;(try with_reducible rfl))
 refine dn ?_;have dU:=Q3 (bJ.out.trans aB.2.2);obtain⟨X6,hX6⟩:∃ X,X5.drew=X:=⟨_,rfl⟩
 rw[hX6] at dU aB ⊢;have HB6:=Q3 (aB.2.2.heap HB5.out Oz);obtain⟨pE,oO,oN,qJ,z4',z5'⟩:=W7 HB6.out;clear aB hX6 x0 x1 x2 x3 x4 x5 y6;generalize hpv:z3f n r.W (m+i)=pv at *
 have Hpv:=Q3 hpv;clear hpv;go_wp2_with fail;refine(z4y (Hr.out.quiet (aI.out.trans dU.out)) (dU.out.cell jT.out Oz) m t1 t2 t3 t4 aN pv).mono ?_;rw[Hg.out];rintro e X7 ⟨rfl,q7⟩;have HO7:=Q3 (dU.out.trans q7);obtain⟨x0,x1,x2,x3,x4,x5⟩:=W7 (q7.heap HB6.out Oz);clear q7 pE oO oN qJ z4' z5';go_wp2_with fail;refine(q2q (by decide) _ _).mono ?_;rintro e X8 ⟨rfl,q8⟩;have O8:=HO7.out.trans q8;clear q8;simp;refine leaves_cons (f:=53) (args:=#[.pointer (some ⟨gv+2,0,none⟩)]) (by simp) (by simp[go_sem]) ?_;refine(z3l (O8.heap fF.out Oz)).mono ?_;rintro e u' w9 ⟨rfl,rfl,f9,q9⟩;exact U0 (J4 Tryz.results18 rfl rfl (U5 (q9.heap (O8.heap fR.out Oz) (.inl (Nat.lt_succ_self _)))) (J8 f9)) ⟨rfl,(aI.out.trans O8).trans' q9 (by have:=bD.out;omega)⟩
theorem j3n (hr:RawAt w lo hi s n cap r) (hA:U6 n r) (hT:Tab w) (hH:cq w hb 0=some (Pq (s 14))) (k m i:Int) {t1 t2 t3 t4:Int} (hM:r.M m=some (t1,t2,t3,t4)) (dX:opE r k m=0) (hn:n<=4096) (hf:G3 (J9 t1 t2 i)=true) (hg:rgB r m (t1,t2,t3,t4) (J9 t1 t2 i) (z3f n r.W (m+i))=true):Kz 18 #[Pq hb,Vz k m,Iz i] w fun e w'=>e=.returned (.tuple #[.agg #[Iz (z3f n r.W (m+i) % 8+1),Iz (z3f n r.W (m+i) / 8)],Vz 0 0])/\Out 0 0 w w':=by
 have pM:∀ (fn:Fn) (first cap:Array Value) (w:World),(Instr.makeFunc fn first cap).run Tryz.prog w=.ok (.func fn first cap) w:=fun _ _ _ _=>rfl
 have fV:=Q3 (V5 (w:=w) (o:=Dz k m 32) (o2:=Dz 0 0 32) (o3:=Dz 0 0 46));have fR:=Q3 (X0 (w:=w) (o:=Dz k m 32) (o2:=Dz 0 0 32) (o3:=Dz 0 0 46));have fF:=Q3 (K4 (w:=w) (o:=Dz k m 32) (o2:=Dz 0 0 32) (o3:=Dz 0 0 46));have aI:=Q3 ((((Out.refl 0 0 w).alloc (Dz k m 32)).alloc (Dz 0 0 32)).alloc (Dz 0 0 46));have Hr:=Q3 hr;have HA:=Q3 hA;have HT:=Q3 hT;obtain⟨gv,aR⟩:∃ g,w.heap.size=g:=⟨_,rfl⟩
 have bD:=Q3 aR;obtain⟨V2,aS⟩:∃ V,((w.alloc (Dz k m 32)).alloc (Dz 0 0 32)).alloc (Dz 0 0 46)=V:=⟨_,rfl⟩
 rw[aS,aR] at fV fR fF;rw[aS] at aI;have jT:=Q3 (aI.out.cell hH Oz);clear hH hr hA hT;obtain⟨u0,u1,u2,u3⟩:=Q5 fV.out;have mM:=Q3 dX;have HM:=Q3 hM;have Hs:Hid (1<=t2/\t2<=1024/\0<=m/\m+t2<=64*n):=by have q:=HA.out m _ hM;exact⟨q.2.2.1,q.2.2.2,q.1,q.2.1⟩
 clear dX hM;have Hf:=Q3 hf;have Hg:=Q3 hg;have mD:IntKind.i64.wrap (m+i)=m+i:=by have h1:=z3w hf;have h2:=Hs.out;rw[IntKind.wrap_i64];omega
 have m1:-9223372036854775808<=m+i:=by have h1:=z3w hf;have h2:=Hs.out;omega
 have m2:m+i<=9223372036854775807:=by have h1:=z3w hf;have h2:=Hs.out;omega
 have jO:=Q3 (fun V=>z6l (v:=z3f n r.W (m+i)) rfl rfl (j0z Hf.out Hg.out) V);clear hg hf;have HFd:Hid (∀ V,Out 0 0 V2 V->Kz 50 #[Wz m t1 t2 t3 t4,Iz i] V fun e w'=>e=.returned (Iz (J9 t1 t2 i))/\Out 0 0 V w'):=fun V o=>z4i m t1 t2 t3 t4 i (HT.out.quiet (aI.out.trans o)) (by have:=Hs.out;omega) (by have:=Hs.out;omega) Hf.out
 have mO:Hid (∀ V,Out 0 0 V2 V->Kz 49 #[Pq hb,Vz k m] V fun e w'=>e=.returned (Wz m t1 t2 t3 t4)/\Out 0 0 V w'):=fun V o=>by
  obtain⟨a1,a2,a3,a4,h1,h2⟩:=z1n (Hr.out.quiet (aI.out.trans o)) HA.out (o.cell jT.out Oz) k m mM.out;rw[HM.out] at h1;simp only[Option.some.injEq,Prod.mk.injEq] at h1;obtain⟨rfl,rfl,rfl,rfl⟩:=h1;exact h2
 go_enter_defers Tryz.func18,Tryz.ntmps18
 go_wp2_with fail;(try rw[aS]);(try rw[aR]);clear aS aR;refine(U3 _ _).mono ?_;rintro e w5 ⟨rfl,he⟩;rw[he];clear he w5;go_wp2_with fail;refine(mO.out V2 (Out.refl 0 0 _)).mono ?_;rintro e X3 ⟨rfl,q3⟩;obtain⟨gb,bG⟩:∃ g,X3.heap.size=g:=⟨_,rfl⟩
 obtain⟨V4,cG⟩:∃ V,X3.alloc (Ez m t1 t2 t3 t4 81)=V:=⟨_,rfl⟩
 have fB:V4.heap[gb]? = some (Ez m t1 t2 t3 t4 81):=by rw[<-cG,<-bG];exact heap_alloc_new _ _
 have O4:Out 0 0 V2 V4:=by rw[<-cG];exact q3.alloc _
 obtain⟨y0,y1,y2,y3,y4,y5⟩:=W7 fB;have nI:=Q3 fB;have bN:=Q3 O4;clear fB O4 q3 u0 u1 u2 u3;go_wp2_with fail;(try rw[cG]);(try rw[bG]);clear cG bG;refine(HFd.out V4 bN.out).mono ?_;rintro e X5 ⟨rfl,q5⟩;have y6:=(bN.out.trans q5).cell jT.out Oz;obtain⟨x0,x1,x2,x3,x4,x5⟩:=W7 (q5.heap nI.out Oz);have bJ:=Q3 (bN.out.trans q5);have HB5:=Q3 (q5.heap nI.out Oz);clear q5 y0 y1 y2 y3 y4 y5;generalize J9 t1 t2 i=aN at *
 go_wp2_with fail;refine wp_region_held_drew (S:=fun w'=>cq w' hb 0=some (Pq (s 14))/\cq w' gb 0=some (Iz m)/\Out 0 0 X5 w') (by kernel_rfl) ?hS212 (fun aB=>?rest212)
 case hS212=>exact⟨y6,x0,(Out.refl 0 0 _).drew⟩
 refine wpAnyH_take (i:=0) (v:=?v213) rfl (by kernel_rfl) (by kernel_rfl) (by kernel_rfl) (fun _ _ _ h=>Q6 (Q7 Tryz.results18 (by decide) (by decide) _ _) _ _ _ h) (Or.inl ⟨by rfl,?hy213⟩) (by assumption) ?rest213
 case hy213=>(intro w aW;(try dsimp only at aW);simp only[xa,xb,xc];go_simp;(try with_reducible rfl))
 (try simp only[Act.put,xa,xb,xc,xd,xe,xf]);refine wpAnyH_take (i:=1) (v:=?v214) rfl (by kernel_rfl) (by kernel_rfl) (by kernel_rfl) (fun _ _ _ h=>Q6 (Q7 Tryz.results18 (by decide) (by decide) _ _) _ _ _ h) (Or.inl ⟨by rfl,?hy214⟩) (by assumption) ?rest214
 case hy214=>(intro w aW;(try dsimp only at aW);simp only[xa,xb,xc];go_simp;(try with_reducible rfl))
 (try simp only[Act.put,xa,xb,xc,xd,xe,xf]);refine wpAnyH_take (i:=2) (v:=?v215) rfl (by kernel_rfl) (by kernel_rfl) (by kernel_rfl) (fun _ _ _ h=>Q6 (Q7 Tryz.results18 (by decide) (by decide) _ _) _ _ _ h) (Or.inl ⟨by rfl,?hy215⟩) (by assumption) ?rest215
 case hy215=>(intro w aW;(try dsimp only at aW);simp only[xa,xb,xc];go_simp;(try with_reducible rfl))
 (try simp only[Act.put,xa,xb,xc,xd,xe,xf]);refine wpAnyH_take (i:=3) (v:=?v216) rfl (by kernel_rfl) (by kernel_rfl) (by kernel_rfl) (fun _ _ _ h=>Q6 (Q7 Tryz.results18 (by decide) (by decide) _ _) _ _ _ h) (Or.inl ⟨by rfl,?hy216⟩) (by assumption) ?rest216
 case hy216=>(intro w aW;(try dsimp only at aW);simp only[xa,xb,xc];go_simp;(try with_reducible rfl))
 (try simp only[Act.put,xa,xb,xc,xd,xe,xf]);refine wpAnyH_take (i:=4) (v:=?v217) rfl (by kernel_rfl) (by kernel_rfl) (by kernel_rfl) (fun _ _ _ h=>Q6 (Q7 Tryz.results18 (by decide) (by decide) _ _) _ _ _ h) (Or.inl ⟨by rfl,?hy217⟩) (by assumption) ?rest217
 case hy217=>(intro w aW;(try dsimp only at aW);simp only[xa,xb,xc];go_simp;(try with_reducible rfl))
 (try simp only[Act.put,xa,xb,xc,xd,xe,xf]);refine wpAnyH_take (i:=5) (v:=?v218) rfl (by kernel_rfl) (by kernel_rfl) (by kernel_rfl) (fun _ _ _ h=>Q6 (Q7 Tryz.results18 (by decide) (by decide) _ _) _ _ _ h) (Or.inl ⟨by rfl,?hy218⟩) (by assumption) ?rest218
 case hy218=>(intro w aW;(try dsimp only at aW);simp only[xa,xb,xc];go_simp;(try with_reducible rfl))
 (try simp only[Act.put,xa,xb,xc,xd,xe,xf]);refine wpAnyH_take (i:=6) (v:=?v219) rfl (by kernel_rfl) (by kernel_rfl) (by kernel_rfl) (fun _ _ _ h=>Q6 (Q7 Tryz.results18 (by decide) (by decide) _ _) _ _ _ h) (Or.inl ⟨by rfl,?hy219⟩) (by assumption) ?rest219
 case hy219=>(intro w aW;(try dsimp only at aW);simp only[xa,xb,xc];go_simp;(try with_reducible rfl))
 (try simp only[Act.put,xa,xb,xc,xd,xe,xf]);refine wpAnyH_take (i:=7) (v:=?v220) rfl (by kernel_rfl) (by kernel_rfl) (by kernel_rfl) (fun _ _ _ h=>Q6 (Q7 Tryz.results18 (by decide) (by decide) _ _) _ _ _ h) (Or.inl ⟨by rfl,?hy220⟩) (by assumption) ?rest220
 case hy220=>(intro w aW;(try dsimp only at aW);simp only[xa,xb,xc];go_simp;(try with_reducible rfl))
 refine rd1 8 fun KK hK=>?_
 simp only[xa,xb,xc];go_simp;refine(j0t (Hr.out.quiet (aI.out.trans (bJ.out.trans aB.2.2))) (m+i)).mono ?_;rintro e w6 ⟨rfl,he⟩;rw[he];clear he w6;refine hK.out _ _ (aB) fun aB=>?_
 clear hK KK;(try simp only[Act.put,xa,xb,xc,xd,xe,xf]);refine wpAnyH_take (i:=9) (v:=?v222) rfl (by kernel_rfl) (by kernel_rfl) (by kernel_rfl) (fun _ _ _ h=>Q6 (Q7 Tryz.results18 (by decide) (by decide) _ _) _ _ _ h) (Or.inl ⟨by rfl,?hy222⟩) (by assumption) ?rest222
 case hy222=>(intro w aW;(try dsimp only at aW);simp only[xa,xb,xc];go_simp;(try with_reducible rfl))
 (try simp only[Act.put,xa,xb,xc,xd,xe,xf]);refine wpAnyH_take (i:=10) (v:=?v223) rfl (by kernel_rfl) (by kernel_rfl) (by kernel_rfl) (fun _ _ _ h=>Q6 (Q7 Tryz.results18 (by decide) (by decide) _ _) _ _ _ h) (Or.inl ⟨by rfl,?hy223⟩) (by assumption) ?rest223
 case hy223=>(intro w aW;(try dsimp only at aW);simp only[xa,xb,xc];go_simp;(try with_reducible rfl))
 (try simp only[Act.put,xa,xb,xc,xd,xe,xf]);refine wpAnyH_take (i:=11) (v:=?v224) rfl (by kernel_rfl) (by kernel_rfl) (by kernel_rfl) (fun _ _ _ h=>Q6 (Q7 Tryz.results18 (by decide) (by decide) _ _) _ _ _ h) (Or.inl ⟨by rfl,?hy224⟩) (by assumption) ?rest224
 case hy224=>(intro w aW;(try dsimp only at aW);simp only[xa,xb,xc];go_simp;(try with_reducible rfl))
 (try simp only[Act.put,xa,xb,xc,xd,xe,xf]);refine wpAnyH_take (i:=12) (v:=?v225) rfl (by kernel_rfl) (by kernel_rfl) (by kernel_rfl) (fun _ _ _ h=>Q6 (Q7 Tryz.results18 (by decide) (by decide) _ _) _ _ _ h) (Or.inl ⟨by rfl,?hy225⟩) (by assumption) ?rest225
 case hy225=>(intro w aW;(try dsimp only at aW);simp only[xa,xb,xc];go_simp;(try with_reducible rfl))
 (try simp only[Act.put,xa,xb,xc,xd,xe,xf]);refine wpAnyH_take (i:=13) (v:=?v226) rfl (by kernel_rfl) (by kernel_rfl) (by kernel_rfl) (fun _ _ _ h=>Q6 (Q7 Tryz.results18 (by decide) (by decide) _ _) _ _ _ h) (Or.inl ⟨by rfl,?hy226⟩) (by assumption) ?rest226
 case hy226=>(intro w aW;(try dsimp only at aW);simp only[xa,xb,xc];go_simp;(try with_reducible rfl))
 refine dn ?_;have dU:=Q3 (bJ.out.trans aB.2.2);obtain⟨X6,hX6⟩:∃ X,X5.drew=X:=⟨_,rfl⟩
 rw[hX6] at dU aB ⊢;have HB6:=Q3 (aB.2.2.heap HB5.out Oz);obtain⟨pE,oO,oN,qJ,z4',z5'⟩:=W7 HB6.out;clear aB hX6 x0 x1 x2 x3 x4 x5 y6;generalize hpv:z3f n r.W (m+i)=pv at *
 have Hpv:=Q3 hpv;clear hpv;go_wp2_with fail;refine(z4y (Hr.out.quiet (aI.out.trans dU.out)) (dU.out.cell jT.out Oz) m t1 t2 t3 t4 aN pv).mono ?_;rw[Hg.out];rintro e X7 ⟨rfl,q7⟩;have HO7:=Q3 (dU.out.trans q7);clear q7 pE oO oN qJ z4' z5';go_wp2_with fail;refine(jO.out _).mono ?_;rintro e X8 ⟨rfl,q8⟩;have iH:=Q3 (HO7.out.trans q8);have jB:=Q3 (iH.out.heap fR.out Oz);have eI:=Q3 (iH.out.heap fF.out Oz);obtain⟨a0,a1,a2,a3⟩:=Q5 jB.out;obtain⟨b0,b1,b2,b3⟩:=flt_facts eI.out;clear q8;have e1:=G9 (x1:=pv % 8+1) (x2:=pv / 8) (G9 (x1:=pv % 8+1) (x2:=pv / 8) jB.out);have o1:Out (gv+1) (gv+2) X8 _:=((Out.refl (gv+1) (gv+2) X8).set2 (b:=gv+1) (o:=0) (o':=1) Lz (Iz (pv % 8+1)) (Iz (pv / 8))).set2 (b:=gv+1) (o:=0) (o':=1) Lz (Iz (pv % 8+1)) (Iz (pv / 8));have f1:=o1.heap eI.out (.inr (Nat.le_refl _));have f2:=J5 (x':=0) (y':=0) f1;have e2:=((Out.refl (gv+2) (gv+3) _).set2 (b:=gv+2) (o:=0) (o':=1) Lz (Iz 0) (Iz 0)).heap e1 (.inl (Nat.lt_succ_self _));have P9:=(((aI.out.trans iH.out).set2 (b:=gv+1) (o:=0) (o':=1) (.inr (by have:=bD.out;omega)) (Iz (pv % 8+1)) (Iz (pv / 8))).set2 (b:=gv+1) (o:=0) (o':=1) (.inr (by have:=bD.out;omega)) (Iz (pv % 8+1)) (Iz (pv / 8))).set2 (b:=gv+2) (o:=0) (o':=1) (.inr (by have:=bD.out;omega)) (Iz 0) (Iz 0);have HL:=Q3 (And.intro e2 (And.intro f2 P9));clear e1 o1 f1 f2 e2 P9;go_wp2;refine leaves_cons (f:=53) (args:=#[.pointer (some ⟨gv+2,0,none⟩)]) (by simp) (by simp[go_sem]) ?_;refine(q2j HL.out.2.1).mono ?_;rintro e u' w9 ⟨rfl,rfl,f9,q9⟩;exact U0 (J4 Tryz.results18 rfl rfl (U5 (q9.heap HL.out.1 (.inl (Nat.lt_succ_self _)))) (J8 f9)) ⟨by rw[Hpv.out],HL.out.2.2.trans' q9 (by have:=bD.out;omega)⟩
end
theorem W6 {P:Program} {fn:Func} {p:Tmp} {a:TypeId} {t:Array Value} {w:World} {v1:Value} {A1:Addr} (hr:fn.results = #[.cell p a]) (hp:t.getD p undef=.pointer (some A1)) (r1:(loadVar a A1).run P w=.ok v1 w):(results fn t).run P w=.ok v1 w:=by
 have hp':t[p]?.getD undef=.pointer (some A1):=by simpa using hp
 simp only[results,hr];simp[Sem.run_bind,hp',asAddr,r1,Result.andThen]
theorem Out.then {lo hi:Nat} {a b c:World} {g h:Nat} (o:Out lo hi a b) (q:Out g h b c) (hg:a.heap.size<=g):Out lo hi a c:=
 ⟨q.1.trans o.1,q.2.1.trans o.2.1,q.2.2.1.trans o.2.2.1,Nat.le_trans o.size q.size,fun k hk hn=>(q.block (Nat.lt_of_lt_of_le hk o.size) (by omega)).trans (o.block hk hn)⟩
theorem z8y {k n:Int} (hv:J2 k n=true) (w:World):Calls Tryz.prog 51 #[.agg #[.int .i64 k,.int .i64 n]] w fun e w'=>e=.returned (.tuple #[.int .i64 (n*8+(k-1)),.bool true])/\Out 0 0 w w':=by
 refine(q1z k n w).mono ?_;rintro e w' ⟨rfl,h⟩;rw[hv];unfold z0j;rw[if_pos hv];exact⟨rfl,W8 h⟩
theorem x5x {k n:Int} (hv:J2 k n=false) (w:World):Calls Tryz.prog 51 #[.agg #[.int .i64 k,.int .i64 n]] w fun e w'=>e=.returned (.tuple #[.int .i64 0,.bool false])/\Out 0 0 w w':=by
 refine(q1z k n w).mono ?_;rintro e w' ⟨rfl,h⟩;rw[hv];unfold z0j;rw[if_neg (by simp[hv])];exact⟨rfl,W8 h⟩
section
variable {w:World} {lo hi hb:Nat} {s:Nat->Nat} {n cap:Nat} {r:Raw}
theorem j8v (hr:RawAt w lo hi s n cap r) (hA:U6 n r) (hH:cq w hb 0=some (Pq (s 14))) (k m i xk xn:Int) (dX:opE r k m ≠ 0):Kz 17 #[Pq hb,Vz k m,Iz i,Vz xk xn] w fun e w'=>e=.returned (Vz (opE r k m) (opA r k m))/\Out 0 0 w w':=by
 have pM:∀ (fn:Fn) (first cap:Array Value) (w:World),(Instr.makeFunc fn first cap).run Tryz.prog w=.ok (.func fn first cap) w:=fun _ _ _ _=>rfl
 have fV:=Q3 (V5 (w:=w) (o:=Dz k m 32) (o2:=Dz xk xn 32) (o3:=Dz 0 0 46));have fX:=Q3 (X0 (w:=w) (o:=Dz k m 32) (o2:=Dz xk xn 32) (o3:=Dz 0 0 46));have fF:=Q3 (K4 (w:=w) (o:=Dz k m 32) (o2:=Dz xk xn 32) (o3:=Dz 0 0 46));have aI:=Q3 ((((Out.refl 0 0 w).alloc (Dz k m 32)).alloc (Dz xk xn 32)).alloc (Dz 0 0 46));have Hr:=Q3 hr;have HA:=Q3 hA;obtain⟨gv,aR⟩:∃ g,w.heap.size=g:=⟨_,rfl⟩
 have bD:=Q3 aR;obtain⟨V2,aS⟩:∃ V,((w.alloc (Dz k m 32)).alloc (Dz xk xn 32)).alloc (Dz 0 0 46)=V:=⟨_,rfl⟩
 rw[aS,aR] at fV fX fF;rw[aS] at aI;have jT:=Q3 (aI.out.cell hH z0);clear hH hr hA;obtain⟨u0,u1,u2,u3⟩:=Q5 fV.out;have mM:=Q3 dX;clear dX;have mO:Hid (∀ V,Out 0 0 V2 V->Kz 49 #[Pq hb,Vz k m] V fun e w'=>e=.panicked [z0u (opE r k m) (opA r k m)]/\Out 0 0 V w'):=fun V o=>q3e (Hr.out.quiet (aI.out.trans o)) HA.out (o.cell jT.out z0) k m mM.out
 go_enter_defers Tryz.func17,Tryz.ntmps17
 go_wp2_with fail;(try rw[aS]);(try rw[aR]);clear aS aR;refine(U3 _ _).mono ?_;rintro e w5 ⟨rfl,he⟩;rw[he];clear he w5;go_wp2_with fail;refine(mO.out V2 (Out.refl 0 0 _)).mono ?_;rintro e X3 ⟨rfl,q3⟩;simp;refine leaves_cons (f:=48) (args:=#[.pointer (some ⟨gv+2,0,none⟩)]) (by simp) (by simp[go_sem]) ?_;refine(z2c (q3.heap fF.out z0)).mono ?_;rintro e u' w9 ⟨rfl,rfl,f9,q9⟩;exact U0 (W6 Tryz.results17 rfl (J8 f9)) ⟨rfl,(aI.out.trans q3).trans' q9 (by have:=bD.out;omega)⟩
theorem j3t (hr:RawAt w lo hi s n cap r) (hA:U6 n r) (hH:cq w hb 0=some (Pq (s 14))) (k m i xk xn:Int) {t1 t2 t3 t4:Int} (hM:r.M m=some (t1,t2,t3,t4)) (dX:opE r k m=0) (hf:G3 (J9 t1 t2 i)=false):Kz 17 #[Pq hb,Vz k m,Iz i,Vz xk xn] w fun e w'=>e=.returned (Vz 32 0)/\Out 0 0 w w':=by
 have pM:∀ (fn:Fn) (first cap:Array Value) (w:World),(Instr.makeFunc fn first cap).run Tryz.prog w=.ok (.func fn first cap) w:=fun _ _ _ _=>rfl
 have fV:=Q3 (V5 (w:=w) (o:=Dz k m 32) (o2:=Dz xk xn 32) (o3:=Dz 0 0 46));have fX:=Q3 (X0 (w:=w) (o:=Dz k m 32) (o2:=Dz xk xn 32) (o3:=Dz 0 0 46));have fF:=Q3 (K4 (w:=w) (o:=Dz k m 32) (o2:=Dz xk xn 32) (o3:=Dz 0 0 46));have aI:=Q3 ((((Out.refl 0 0 w).alloc (Dz k m 32)).alloc (Dz xk xn 32)).alloc (Dz 0 0 46));have Hr:=Q3 hr;have HA:=Q3 hA;obtain⟨gv,aR⟩:∃ g,w.heap.size=g:=⟨_,rfl⟩
 have bD:=Q3 aR;obtain⟨V2,aS⟩:∃ V,((w.alloc (Dz k m 32)).alloc (Dz xk xn 32)).alloc (Dz 0 0 46)=V:=⟨_,rfl⟩
 rw[aS,aR] at fV fX fF;rw[aS] at aI;have jT:=Q3 (aI.out.cell hH z0);clear hH hr hA;obtain⟨u0,u1,u2,u3⟩:=Q5 fV.out;have mM:=Q3 dX;have HM:=Q3 hM;have Hs:Hid (1<=t2/\t2<=1024/\0<=m/\m+t2<=64*n):=by have q:=HA.out m _ hM;exact⟨q.2.2.1,q.2.2.2,q.1,q.2.1⟩
 clear dX hM;have Hf:=Q3 hf;clear hf;have HFd:Hid (∀ V,Out 0 0 V2 V->Kz 50 #[Wz m t1 t2 t3 t4,Iz i] V fun e w'=>e=.panicked [z0u 32 0]/\Out 0 0 V w'):=fun V o=>j0d m t1 t2 t3 t4 i ((Hr.out.quiet (aI.out.trans o)).tab) (by have:=Hs.out;omega) (by have:=Hs.out;omega) Hf.out
 have mO:Hid (∀ V,Out 0 0 V2 V->Kz 49 #[Pq hb,Vz k m] V fun e w'=>e=.returned (Wz m t1 t2 t3 t4)/\Out 0 0 V w'):=fun V o=>by
  obtain⟨a1,a2,a3,a4,h1,h2⟩:=z1n (Hr.out.quiet (aI.out.trans o)) HA.out (o.cell jT.out z0) k m mM.out;rw[HM.out] at h1;simp only[Option.some.injEq,Prod.mk.injEq] at h1;obtain⟨rfl,rfl,rfl,rfl⟩:=h1;exact h2
 go_enter_defers Tryz.func17,Tryz.ntmps17
 go_wp2_with fail;(try rw[aS]);(try rw[aR]);clear aS aR;refine(U3 _ _).mono ?_;rintro e w5 ⟨rfl,he⟩;rw[he];clear he w5;go_wp2_with fail;refine(mO.out V2 (Out.refl 0 0 _)).mono ?_;rintro e X3 ⟨rfl,q3⟩;obtain⟨gb,bG⟩:∃ g,X3.heap.size=g:=⟨_,rfl⟩
 obtain⟨V4,cG⟩:∃ V,X3.alloc (Ez m t1 t2 t3 t4 81)=V:=⟨_,rfl⟩
 have fB:V4.heap[gb]? = some (Ez m t1 t2 t3 t4 81):=by rw[<-cG,<-bG];exact heap_alloc_new _ _
 have O4:Out 0 0 V2 V4:=by rw[<-cG];exact q3.alloc _
 obtain⟨y0,y1,y2,y3,y4,y5⟩:=W7 fB;have nI:=Q3 fB;have bN:=Q3 O4;clear fB O4 q3 u0 u1 u2 u3;go_wp2_with fail;(try rw[cG]);(try rw[bG]);clear cG bG;refine(HFd.out V4 bN.out).mono ?_;rintro e X5 ⟨rfl,q5⟩;have O5:=bN.out.trans q5;clear q5;simp;refine leaves_cons (f:=48) (args:=#[.pointer (some ⟨gv+2,0,none⟩)]) (by simp) (by simp[go_sem]) ?_;refine(z2c (O5.heap fF.out z0)).mono ?_;rintro e u' w9 ⟨rfl,rfl,f9,q9⟩;exact U0 (W6 Tryz.results17 rfl (J8 f9)) ⟨rfl,(aI.out.trans O5).trans' q9 (by have:=bD.out;omega)⟩
theorem q6y (hr:RawAt w lo hi s n cap r) (hA:U6 n r) (hH:cq w hb 0=some (Pq (s 14))) (k m i xk xn:Int) {t1 t2 t3 t4:Int} (hM:r.M m=some (t1,t2,t3,t4)) (dX:opE r k m=0) (hf:G3 (J9 t1 t2 i)=true) (hx:J2 xk xn=false):Kz 17 #[Pq hb,Vz k m,Iz i,Vz xk xn] w fun e w'=>e=.returned (Vz 33 0)/\Out 0 0 w w':=by
 have pM:∀ (fn:Fn) (first cap:Array Value) (w:World),(Instr.makeFunc fn first cap).run Tryz.prog w=.ok (.func fn first cap) w:=fun _ _ _ _=>rfl
 have fV:=Q3 (V5 (w:=w) (o:=Dz k m 32) (o2:=Dz xk xn 32) (o3:=Dz 0 0 46));have fX:=Q3 (X0 (w:=w) (o:=Dz k m 32) (o2:=Dz xk xn 32) (o3:=Dz 0 0 46));have fF:=Q3 (K4 (w:=w) (o:=Dz k m 32) (o2:=Dz xk xn 32) (o3:=Dz 0 0 46));have aI:=Q3 ((((Out.refl 0 0 w).alloc (Dz k m 32)).alloc (Dz xk xn 32)).alloc (Dz 0 0 46));have Hr:=Q3 hr;have HA:=Q3 hA;obtain⟨gv,aR⟩:∃ g,w.heap.size=g:=⟨_,rfl⟩
 have bD:=Q3 aR;obtain⟨V2,aS⟩:∃ V,((w.alloc (Dz k m 32)).alloc (Dz xk xn 32)).alloc (Dz 0 0 46)=V:=⟨_,rfl⟩
 rw[aS,aR] at fV fX fF;rw[aS] at aI;have jT:=Q3 (aI.out.cell hH z0);clear hH hr hA;obtain⟨u0,u1,u2,u3⟩:=Q5 fV.out;have mM:=Q3 dX;have HM:=Q3 hM;have Hs:Hid (1<=t2/\t2<=1024/\0<=m/\m+t2<=64*n):=by have q:=HA.out m _ hM;exact⟨q.2.2.1,q.2.2.2,q.1,q.2.1⟩
 clear dX hM;have Hf:=Q3 hf;have iD:=Q3 (fun V=>x5x hx V);clear hf hx;have HFd:Hid (∀ V,Out 0 0 V2 V->Kz 50 #[Wz m t1 t2 t3 t4,Iz i] V fun e w'=>e=.returned (Iz (J9 t1 t2 i))/\Out 0 0 V w'):=fun V o=>z4i m t1 t2 t3 t4 i ((Hr.out.quiet (aI.out.trans o)).tab) (by have:=Hs.out;omega) (by have:=Hs.out;omega) Hf.out
 have mO:Hid (∀ V,Out 0 0 V2 V->Kz 49 #[Pq hb,Vz k m] V fun e w'=>e=.returned (Wz m t1 t2 t3 t4)/\Out 0 0 V w'):=fun V o=>by
  obtain⟨a1,a2,a3,a4,h1,h2⟩:=z1n (Hr.out.quiet (aI.out.trans o)) HA.out (o.cell jT.out z0) k m mM.out;rw[HM.out] at h1;simp only[Option.some.injEq,Prod.mk.injEq] at h1;obtain⟨rfl,rfl,rfl,rfl⟩:=h1;exact h2
 go_enter_defers Tryz.func17,Tryz.ntmps17
 go_wp2_with fail;(try rw[aS]);(try rw[aR]);clear aS aR;refine(U3 _ _).mono ?_;rintro e w5 ⟨rfl,he⟩;rw[he];clear he w5;go_wp2_with fail;refine(mO.out V2 (Out.refl 0 0 _)).mono ?_;rintro e X3 ⟨rfl,q3⟩;obtain⟨gb,bG⟩:∃ g,X3.heap.size=g:=⟨_,rfl⟩
 obtain⟨V4,cG⟩:∃ V,X3.alloc (Ez m t1 t2 t3 t4 81)=V:=⟨_,rfl⟩
 have fB:V4.heap[gb]? = some (Ez m t1 t2 t3 t4 81):=by rw[<-cG,<-bG];exact heap_alloc_new _ _
 have O4:Out 0 0 V2 V4:=by rw[<-cG];exact q3.alloc _
 obtain⟨y0,y1,y2,y3,y4,y5⟩:=W7 fB;have nI:=Q3 fB;have bN:=Q3 O4;clear fB O4 q3 u0 u1 u2 u3;go_wp2_with fail;(try rw[cG]);(try rw[bG]);clear cG bG;refine(HFd.out V4 bN.out).mono ?_;rintro e X5 ⟨rfl,q5⟩;obtain⟨x0,x1,x2,x3⟩:=Q5 ((bN.out.trans q5).heap fX.out z0);have bJ:=Q3 (bN.out.trans q5);have HB5:=Q3 (q5.heap nI.out z0);clear q5 y0 y1 y2 y3 y4 y5;generalize J9 t1 t2 i=aN at *
 go_wp2_with fail;refine(iD.out _).mono ?_;rintro e X6 ⟨rfl,q6⟩;have dU:=Q3 (bJ.out.trans q6);have HB6:=Q3 (q6.heap HB5.out z0);clear q6 x0 x1 x2 x3;go_wp2_with fail;refine(z2z _ _).mono ?_;rintro e X7 ⟨rfl,he⟩;rw[he];clear he X7;simp;refine leaves_cons (f:=48) (args:=#[.pointer (some ⟨gv+2,0,none⟩)]) (by simp) (by simp[go_sem]) ?_;refine(z2c (dU.out.heap fF.out z0)).mono ?_;rintro e u' w9 ⟨rfl,rfl,f9,q9⟩;exact U0 (W6 Tryz.results17 rfl (J8 f9)) ⟨rfl,(aI.out.trans dU.out).trans' q9 (by have:=bD.out;omega)⟩
theorem j3u (hr:RawAt w lo hi s n cap r) (hA:U6 n r) (hH:cq w hb 0=some (Pq (s 14))) (k m i xk xn:Int) {t1 t2 t3 t4:Int} (hM:r.M m=some (t1,t2,t3,t4)) (dX:opE r k m=0) (hf:G3 (J9 t1 t2 i)=true) (hx:J2 xk xn=true) (hg:rgB r m (t1,t2,t3,t4) (J9 t1 t2 i) (xn*8+(xk-1))=false):Kz 17 #[Pq hb,Vz k m,Iz i,Vz xk xn] w fun e w'=>e=.returned (Vz 33 0)/\Out 0 0 w w':=by
 have pM:∀ (fn:Fn) (first cap:Array Value) (w:World),(Instr.makeFunc fn first cap).run Tryz.prog w=.ok (.func fn first cap) w:=fun _ _ _ _=>rfl
 have fV:=Q3 (V5 (w:=w) (o:=Dz k m 32) (o2:=Dz xk xn 32) (o3:=Dz 0 0 46));have fX:=Q3 (X0 (w:=w) (o:=Dz k m 32) (o2:=Dz xk xn 32) (o3:=Dz 0 0 46));have fF:=Q3 (K4 (w:=w) (o:=Dz k m 32) (o2:=Dz xk xn 32) (o3:=Dz 0 0 46));have aI:=Q3 ((((Out.refl 0 0 w).alloc (Dz k m 32)).alloc (Dz xk xn 32)).alloc (Dz 0 0 46));have Hr:=Q3 hr;have HA:=Q3 hA;obtain⟨gv,aR⟩:∃ g,w.heap.size=g:=⟨_,rfl⟩
 have bD:=Q3 aR;obtain⟨V2,aS⟩:∃ V,((w.alloc (Dz k m 32)).alloc (Dz xk xn 32)).alloc (Dz 0 0 46)=V:=⟨_,rfl⟩
 rw[aS,aR] at fV fX fF;rw[aS] at aI;have jT:=Q3 (aI.out.cell hH Oz);clear hH hr hA;obtain⟨u0,u1,u2,u3⟩:=Q5 fV.out;have mM:=Q3 dX;have HM:=Q3 hM;have Hs:Hid (1<=t2/\t2<=1024/\0<=m/\m+t2<=64*n):=by have q:=HA.out m _ hM;exact⟨q.2.2.1,q.2.2.2,q.1,q.2.1⟩
 clear dX hM;have Hf:=Q3 hf;have iD:=Q3 (fun V=>z8y hx V);have Hg:=Q3 hg;clear hg hf hx;have HFd:Hid (∀ V,Out 0 0 V2 V->Kz 50 #[Wz m t1 t2 t3 t4,Iz i] V fun e w'=>e=.returned (Iz (J9 t1 t2 i))/\Out 0 0 V w'):=fun V o=>z4i m t1 t2 t3 t4 i ((Hr.out.quiet (aI.out.trans o)).tab) (by have:=Hs.out;omega) (by have:=Hs.out;omega) Hf.out
 have mO:Hid (∀ V,Out 0 0 V2 V->Kz 49 #[Pq hb,Vz k m] V fun e w'=>e=.returned (Wz m t1 t2 t3 t4)/\Out 0 0 V w'):=fun V o=>by
  obtain⟨a1,a2,a3,a4,h1,h2⟩:=z1n (Hr.out.quiet (aI.out.trans o)) HA.out (o.cell jT.out Oz) k m mM.out;rw[HM.out] at h1;simp only[Option.some.injEq,Prod.mk.injEq] at h1;obtain⟨rfl,rfl,rfl,rfl⟩:=h1;exact h2
 go_enter_defers Tryz.func17,Tryz.ntmps17
 go_wp2_with fail;(try rw[aS]);(try rw[aR]);clear aS aR;refine(U3 _ _).mono ?_;rintro e w5 ⟨rfl,he⟩;rw[he];clear he w5;go_wp2_with fail;refine(mO.out V2 (Out.refl 0 0 _)).mono ?_;rintro e X3 ⟨rfl,q3⟩;obtain⟨gb,bG⟩:∃ g,X3.heap.size=g:=⟨_,rfl⟩
 obtain⟨V4,cG⟩:∃ V,X3.alloc (Ez m t1 t2 t3 t4 81)=V:=⟨_,rfl⟩
 have fB:V4.heap[gb]? = some (Ez m t1 t2 t3 t4 81):=by rw[<-cG,<-bG];exact heap_alloc_new _ _
 have O4:Out 0 0 V2 V4:=by rw[<-cG];exact q3.alloc _
 obtain⟨y0,y1,y2,y3,y4,y5⟩:=W7 fB;have nI:=Q3 fB;have bN:=Q3 O4;clear fB O4 q3 u0 u1 u2 u3;go_wp2_with fail;(try rw[cG]);(try rw[bG]);clear cG bG;refine(HFd.out V4 bN.out).mono ?_;rintro e X5 ⟨rfl,q5⟩;obtain⟨x0,x1,x2,x3⟩:=Q5 ((bN.out.trans q5).heap fX.out Oz);have bJ:=Q3 (bN.out.trans q5);have HB5:=Q3 (q5.heap nI.out Oz);clear q5 y0 y1 y2 y3 y4 y5;generalize J9 t1 t2 i=aN at *
 go_wp2_with fail;refine(iD.out _).mono ?_;rintro e X6 ⟨rfl,q6⟩;have dU:=Q3 (bJ.out.trans q6);have HB6:=Q3 (q6.heap HB5.out Oz);clear q6 x0 x1 x2 x3;obtain⟨pv,hpv⟩:∃ v,xn*8+(xk-1)=v:=⟨_,rfl⟩
 have Hpv:=Q3 hpv;rw[hpv] at Hg ⊢;clear hpv;obtain⟨pE,oO,oN,qJ,z4',z5'⟩:=W7 HB6.out;go_wp2_with fail;refine(z4y (Hr.out.quiet (aI.out.trans dU.out)) (dU.out.cell jT.out Oz) m t1 t2 t3 t4 aN pv).mono ?_;rw[Hg.out];rintro e X7 ⟨rfl,q7⟩;have HO7:=Q3 (dU.out.trans q7);have HB7:=Q3 (q7.heap HB6.out Oz);clear q7 pE oO oN qJ z4' z5';go_wp2_with fail;refine(z2z _ _).mono ?_;rintro e X8 ⟨rfl,he⟩;rw[he];clear he X8;simp;refine leaves_cons (f:=48) (args:=#[.pointer (some ⟨gv+2,0,none⟩)]) (by simp) (by simp[go_sem]) ?_;refine(z2c (HO7.out.heap fF.out Oz)).mono ?_;rintro e u' w9 ⟨rfl,rfl,f9,q9⟩;exact U0 (W6 Tryz.results17 rfl (J8 f9)) ⟨rfl,(aI.out.trans HO7.out).trans' q9 (by have:=bD.out;omega)⟩
theorem x3f (hr:RawAt w lo hi s n cap r) (hA:U6 n r) (hH:cq w hb 0=some (Pq (s 14))) (k m i xk xn:Int) {t1 t2 t3 t4:Int} (hM:r.M m=some (t1,t2,t3,t4)) (dX:opE r k m=0) (hf:G3 (J9 t1 t2 i)=true) (hx:J2 xk xn=true) (hg:rgB r m (t1,t2,t3,t4) (J9 t1 t2 i) (xn*8+(xk-1))=true) (hout:hb<lo\/hi<=hb):Kz 17 #[Pq hb,Vz k m,Iz i,Vz xk xn] w fun e w'=>e=.returned (Vz 0 0)/\RawAt w' lo hi s n cap { r with W:=F8 n r.W (m+i) (xn*8+(xk-1)) }/\Out lo hi w w':=by
 have pM:∀ (fn:Fn) (first cap:Array Value) (w:World),(Instr.makeFunc fn first cap).run Tryz.prog w=.ok (.func fn first cap) w:=fun _ _ _ _=>rfl
 have fV:=Q3 (V5 (w:=w) (o:=Dz k m 32) (o2:=Dz xk xn 32) (o3:=Dz 0 0 46));have fX:=Q3 (X0 (w:=w) (o:=Dz k m 32) (o2:=Dz xk xn 32) (o3:=Dz 0 0 46));have fF:=Q3 (K4 (w:=w) (o:=Dz k m 32) (o2:=Dz xk xn 32) (o3:=Dz 0 0 46));have aI:=Q3 ((((Out.refl 0 0 w).alloc (Dz k m 32)).alloc (Dz xk xn 32)).alloc (Dz 0 0 46));have Hr:=Q3 hr;have HA:=Q3 hA;obtain⟨gv,aR⟩:∃ g,w.heap.size=g:=⟨_,rfl⟩
 have bD:=Q3 aR;obtain⟨V2,aS⟩:∃ V,((w.alloc (Dz k m 32)).alloc (Dz xk xn 32)).alloc (Dz 0 0 46)=V:=⟨_,rfl⟩
 rw[aS,aR] at fV fX fF;rw[aS] at aI;have jT:=Q3 (aI.out.cell hH Oz);clear hH hr hA;obtain⟨u0,u1,u2,u3⟩:=Q5 fV.out;have mM:=Q3 dX;have HM:=Q3 hM;have Hs:Hid (1<=t2/\t2<=1024/\0<=m/\m+t2<=64*n):=by have q:=HA.out m _ hM;exact⟨q.2.2.1,q.2.2.2,q.1,q.2.1⟩
 clear dX hM;have Hf:=Q3 hf;have iD:=Q3 (fun V=>z8y hx V);have Hg:=Q3 hg;clear hg;have mD:IntKind.i64.wrap (m+i)=m+i:=by have h1:=z3w hf;have h2:=Hs.out;have h3:=Hr.out.n2;rw[IntKind.wrap_i64];omega
 have fK:=Q3 hout;clear hout hf hx;have HFd:Hid (∀ V,Out 0 0 V2 V->Kz 50 #[Wz m t1 t2 t3 t4,Iz i] V fun e w'=>e=.returned (Iz (J9 t1 t2 i))/\Out 0 0 V w'):=fun V o=>z4i m t1 t2 t3 t4 i ((Hr.out.quiet (aI.out.trans o)).tab) (by have:=Hs.out;omega) (by have:=Hs.out;omega) Hf.out
 have mO:Hid (∀ V,Out 0 0 V2 V->Kz 49 #[Pq hb,Vz k m] V fun e w'=>e=.returned (Wz m t1 t2 t3 t4)/\Out 0 0 V w'):=fun V o=>by
  obtain⟨a1,a2,a3,a4,h1,h2⟩:=z1n (Hr.out.quiet (aI.out.trans o)) HA.out (o.cell jT.out Oz) k m mM.out;rw[HM.out] at h1;simp only[Option.some.injEq,Prod.mk.injEq] at h1;obtain⟨rfl,rfl,rfl,rfl⟩:=h1;exact h2
 go_enter_defers Tryz.func17,Tryz.ntmps17
 go_wp2_with fail;(try rw[aS]);(try rw[aR]);clear aS aR;refine(U3 _ _).mono ?_;rintro e w5 ⟨rfl,he⟩;rw[he];clear he w5;go_wp2_with fail;refine(mO.out V2 (Out.refl 0 0 _)).mono ?_;rintro e X3 ⟨rfl,q3⟩;obtain⟨gb,bG⟩:∃ g,X3.heap.size=g:=⟨_,rfl⟩
 obtain⟨V4,cG⟩:∃ V,X3.alloc (Ez m t1 t2 t3 t4 81)=V:=⟨_,rfl⟩
 have fB:V4.heap[gb]? = some (Ez m t1 t2 t3 t4 81):=by rw[<-cG,<-bG];exact heap_alloc_new _ _
 have HgbO:Hid (w.heap.size<=gb):=by rw[<-bG];exact(aI.out.trans q3).size
 have O4:Out 0 0 V2 V4:=by rw[<-cG];exact q3.alloc _
 obtain⟨y0,y1,y2,y3,y4,y5⟩:=W7 fB;have nI:=Q3 fB;have bN:=Q3 O4;clear fB O4 q3 u0 u1 u2 u3;go_wp2_with fail;(try rw[cG]);(try rw[bG]);clear cG bG;refine(HFd.out V4 bN.out).mono ?_;rintro e X5 ⟨rfl,q5⟩;obtain⟨x0,x1,x2,x3⟩:=Q5 ((bN.out.trans q5).heap fX.out Oz);have bJ:=Q3 (bN.out.trans q5);have HB5:=Q3 (q5.heap nI.out Oz);clear q5 y0 y1 y2 y3 y4 y5;generalize J9 t1 t2 i=aN at *
 go_wp2_with fail;refine(iD.out _).mono ?_;rintro e X6 ⟨rfl,q6⟩;have dU:=Q3 (bJ.out.trans q6);have HB6:=Q3 (q6.heap HB5.out Oz);clear q6 x0 x1 x2 x3;obtain⟨pv,hpv⟩:∃ v,xn*8+(xk-1)=v:=⟨_,rfl⟩
 have Hpv:=Q3 hpv;rw[hpv] at Hg ⊢;clear hpv;obtain⟨pE,oO,oN,qJ,z4',z5'⟩:=W7 HB6.out;go_wp2_with fail;refine(z4y (Hr.out.quiet (aI.out.trans dU.out)) (dU.out.cell jT.out Oz) m t1 t2 t3 t4 aN pv).mono ?_;rw[Hg.out];rintro e X7 ⟨rfl,q7⟩;have HO7:=Q3 (dU.out.trans q7);have HB7:=Q3 (q7.heap HB6.out Oz);clear q7 pE oO oN qJ z4' z5';go_wp2_with fail;refine(z0o _ _).mono ?_;rintro e X8 ⟨rfl,he⟩;rw[he];clear he X8;go_wp2_with fail;obtain⟨pE,oO,oN,qJ,z4',z5'⟩:=W7 HB7.out;have y6:=HO7.out.cell jT.out Oz;have cU:Hid (w.heap.size<=gb):=HgbO.out;refine wp_region_held_drew (S:=fun w'=>cq w' hb 0=some (Pq (s 14))/\cq w' gb 0=some (Iz m)) (by kernel_rfl) ?hS227 (fun aB=>?rest227)
 case hS227=>exact⟨y6,pE⟩
 obtain⟨Z0,hZ⟩:∃ Z,X7.drew=Z:=⟨_,rfl⟩
 have O:Out 0 0 V2 Z0:=by rw[<-hZ];exact HO7.out.drew
 rw[hZ] at aB ⊢;clear hZ;refine wpAnyH_take (i:=0) (v:=?v228) rfl (by kernel_rfl) (by kernel_rfl) (by kernel_rfl) (fun _ _ _ h=>Q6 (J6 Tryz.results17 (by decide) _ _) _ _ _ h) (Or.inl ⟨by rfl,?hy228⟩) (by assumption) ?rest228
 case hy228=>(intro w aW;(try dsimp only at aW);simp only[xa,xb,xc];go_simp;(try with_reducible rfl))
 (try simp only[Act.put,xa,xb,xc,xd,xe,xf]);refine wpAnyH_take (i:=1) (v:=?v229) rfl (by kernel_rfl) (by kernel_rfl) (by kernel_rfl) (fun _ _ _ h=>Q6 (J6 Tryz.results17 (by decide) _ _) _ _ _ h) (Or.inl ⟨by rfl,?hy229⟩) (by assumption) ?rest229
 case hy229=>(intro w aW;(try dsimp only at aW);simp only[xa,xb,xc];go_simp;(try with_reducible rfl))
 (try simp only[Act.put,xa,xb,xc,xd,xe,xf]);refine wpAnyH_take (i:=2) (v:=?v230) rfl (by kernel_rfl) (by kernel_rfl) (by kernel_rfl) (fun _ _ _ h=>Q6 (J6 Tryz.results17 (by decide) _ _) _ _ _ h) (Or.inl ⟨by rfl,?hy230⟩) (by assumption) ?rest230
 case hy230=>(intro w aW;(try dsimp only at aW);simp only[xa,xb,xc];go_simp;(try with_reducible rfl))
 (try simp only[Act.put,xa,xb,xc,xd,xe,xf]);refine wpAnyH_take (i:=3) (v:=?v231) rfl (by kernel_rfl) (by kernel_rfl) (by kernel_rfl) (fun _ _ _ h=>Q6 (J6 Tryz.results17 (by decide) _ _) _ _ _ h) (Or.inl ⟨by rfl,?hy231⟩) (by assumption) ?rest231
 case hy231=>(intro w aW;(try dsimp only at aW);simp only[xa,xb,xc];go_simp;(try with_reducible rfl))
 (try simp only[Act.put,xa,xb,xc,xd,xe,xf]);refine wpAnyH_take (i:=4) (v:=?v232) rfl (by kernel_rfl) (by kernel_rfl) (by kernel_rfl) (fun _ _ _ h=>Q6 (J6 Tryz.results17 (by decide) _ _) _ _ _ h) (Or.inl ⟨by rfl,?hy232⟩) (by assumption) ?rest232
 case hy232=>(intro w aW;(try dsimp only at aW);simp only[xa,xb,xc];go_simp;(try with_reducible rfl))
 (try simp only[Act.put,xa,xb,xc,xd,xe,xf]);refine wpAnyH_take (i:=5) (v:=?v233) rfl (by kernel_rfl) (by kernel_rfl) (by kernel_rfl) (fun _ _ _ h=>Q6 (J6 Tryz.results17 (by decide) _ _) _ _ _ h) (Or.inl ⟨by rfl,?hy233⟩) (by assumption) ?rest233
 case hy233=>(intro w aW;(try dsimp only at aW);simp only[xa,xb,xc];go_simp;(try with_reducible rfl))
 (try simp only[Act.put,xa,xb,xc,xd,xe,xf]);refine wpAnyH_take (i:=6) (v:=?v234) rfl (by kernel_rfl) (by kernel_rfl) (by kernel_rfl) (fun _ _ _ h=>Q6 (J6 Tryz.results17 (by decide) _ _) _ _ _ h) (Or.inl ⟨by rfl,?hy234⟩) (by assumption) ?rest234
 case hy234=>(intro w aW;(try dsimp only at aW);simp only[xa,xb,xc];go_simp;(try with_reducible rfl))
 (try simp only[Act.put,xa,xb,xc,xd,xe,xf]);refine wpAnyH_take (i:=7) (v:=?v235) rfl (by kernel_rfl) (by kernel_rfl) (by kernel_rfl) (fun _ _ _ h=>Q6 (J6 Tryz.results17 (by decide) _ _) _ _ _ h) (Or.inl ⟨by rfl,?hy235⟩) (by assumption) ?rest235
 case hy235=>(intro w aW;(try dsimp only at aW);simp only[xa,xb,xc];go_simp;(try with_reducible rfl))
 (try simp only[Act.put,xa,xb,xc,xd,xe,xf]);refine wpAnyH_take (i:=8) (v:=?v236) rfl (by kernel_rfl) (by kernel_rfl) (by kernel_rfl) (fun _ _ _ h=>Q6 (J6 Tryz.results17 (by decide) _ _) _ _ _ h) (Or.inl ⟨by rfl,?hy236⟩) (by assumption) ?rest236
 case hy236=>(intro w aW;(try dsimp only at aW);simp only[xa,xb,xc];go_simp;(try with_reducible rfl))
 refine rd1 9 fun KK hK=>?_
 simp only[xa,xb,xc];go_simp;refine(q3i (Hr.out.quiet (aI.out.trans O)) (m+i) pv).mono ?_;rintro e X9 ⟨rfl,P9,q9⟩;refine hK.out _ _ ⟨q9.cell aB.1 (by have h1:=fK.out;omega),q9.cell aB.2 (.inr (by have h1:=Hr.out.top;have h2:=cU.out;omega))⟩ fun aB=>?_
 clear hK KK;refine dn ?_;have HP9:=Q3 P9;have HQ9:=Q3 (((aI.out.trans O).any lo hi).trans q9);have iI:=Q3 (q9.heap (O.heap fF.out Oz) (.inr (by have h1:=Hr.out.top;have h2:=bD.out;omega)));obtain⟨b0,b1,b2,b3⟩:=flt_facts iI.out;clear aB P9 q9 O y6 pE oO oN qJ z4' z5';go_wp2;have o10:=(Out.refl (gv+2) (gv+3) X9).set2 (b:=gv+2) (o:=0) (o':=1) Lz (Iz 0) (Iz 0);refine leaves_cons (f:=48) (args:=#[.pointer (some ⟨gv+2,0,none⟩)]) (by simp) (by simp[go_sem]) ?_;refine(q2k (J5 (x':=0) (y':=0) iI.out)).mono ?_;rintro e u' w9 ⟨rfl,rfl,f9,q9⟩;have hd:hi<=gv+2:=by have h1:=Hr.out.top;have h2:=bD.out;omega
 have hn:4<=gv+2:=by have h1:=Hr.out.top;have h2:=bD.out;have h3:=Hr.out.glob;have h4:=Hr.out.inn 0 (by omega);omega
 exact U0 (W6 Tryz.results17 rfl (J8 f9)) ⟨rfl,by rw[Hpv.out];exact(HP9.out.kept o10 (.inl hd) (.inl hn)).kept q9 (.inl hd) (.inl hn),(HQ9.out.then o10 (by have:=bD.out;omega)).then q9 (by have:=bD.out;omega)⟩
end
def z1z (r:Int):Int:=if z3g r then 26 else 2
theorem x2m {c:Int} (h:J2 3 c=true) (w:World):Calls Tryz.prog 105 #[.int .i64 c] w fun e w'=>e=.returned (.agg #[.int .i64 3,.int .i64 c])/\Out 0 0 w w':=by
 refine(q4z c w).mono ?_;rintro e w' ⟨rfl,q⟩;unfold z0z z1a;rw[if_pos h,if_pos h];exact⟨rfl,W8 q⟩
theorem j5h (r:Int) (w:World):Kz 45 #[Iz r] w fun e w'=>e=.returned (Iz (z1z r))/\Out 0 0 w w':=by
 have HP:=Q3 (fun w=>q0c r w);unfold z1z;cases h:z3g r
 ·rw[h] at HP;clear h;go_enter Tryz.func45,Tryz.ntmps45
  go_wp2_with fail;refine(HP.out _).mono ?_;rintro e w1 ⟨rfl,rfl⟩;go_wp2_with fail;refine(x2m (c:=0) (by decide) _).mono ?_;rintro e w1 ⟨rfl,q1⟩;go_wp2_with fail;refine(z8y (k:=3) (n:=0) (by decide) _).mono ?_;rintro e w2 ⟨rfl,q2⟩;go_wp2;go_ret;exact⟨rfl,q1.trans q2⟩
 ·rw[h] at HP;clear h;go_enter Tryz.func45,Tryz.ntmps45
  go_wp2_with fail;refine(HP.out _).mono ?_;rintro e w1 ⟨rfl,rfl⟩;go_wp2_with fail;refine(x2m (c:=3) (by decide) _).mono ?_;rintro e w1 ⟨rfl,q1⟩;go_wp2_with fail;refine(z8y (k:=3) (n:=3) (by decide) _).mono ?_;rintro e w2 ⟨rfl,q2⟩;go_wp2;go_ret;exact⟨rfl,q1.trans q2⟩
def z8c (r:Raw) (a i v:Int):Bool:=match r.M a with | none=>false | some b=>rgB r a b (J9 b.1 b.2.1 i) v
end Go.Proofs.YtjgnogflgoihfaaGreatDoor
