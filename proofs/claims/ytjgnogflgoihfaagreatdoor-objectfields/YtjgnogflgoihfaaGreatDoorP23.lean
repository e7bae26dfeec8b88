import Derived.Test.YtjgnogflgoihfaaGreatDoorP22
set_option linter.unusedSimpArgs false
set_option linter.unusedVariables false
set_option maxHeartbeats 16000000
set_option maxRecDepth 100000
namespace Go.Proofs.YtjgnogflgoihfaaGreatDoor
open Go.RowKit
theorem q9j:(Tryz.prog.info? 3).map (fun i=>(i.zero,i.size,i.bytes))=some (some (.int .i64 0),1,8):=by kernel_rfl
theorem j0v {w:World} {bw k cap:Nat} {f:Nat->Int} (hr:Row w bw 3 k (fun i=>Iz (f i))) (hk:∃ q,k<=64*q/\q<=4096) :
  Kz 86 #[Sz bw k cap] w fun e w'=>∃ g cT,e=.returned (Sz g k cT)/\k<=cT/\w.heap.size<=g/\g<w'.heap.size/\w'.ownsRow w.heap.size 3 1 (Sz g k cT) k ((List.range k).map fun i=>Iz (f i))/\Out 0 0 w w':=by
 obtain⟨i0,hi,iI,hz1,iH⟩:=z0c q9j;have heq:=fun w=>Lib.run_eql_slice_nil (P:=Tryz.prog) w 70 3 (some ⟨bw,0,none⟩) k cap 0 0 Tryz.underlying70
 simp at heq;have jR:(w.alloc (.cells #[] 3)).ownsRow w.heap.size 3 1 (Sz w.heap.size 0 0) 0 []:=
  ⟨rfl,.inr ⟨w.heap.size,0,#[],rfl,Nat.le_refl _,heap_alloc_new _ _,Nat.le_refl _,Nat.zero_le _,rfl,rfl⟩⟩
 have hnews:∀ j u,((List.range k).map fun i=>Value.int .i64 (f i))[j]? = some u->(w.alloc (.cells #[] 3)).cell? ((⟨bw,0,none⟩:Addr).add j)=some u:=by
  intro j u hj;have hjk:j<k:=by
   have:=(List.getElem?_eq_some_iff.1 hj).1;simpa using this
  simp[hjk] at hj;subst hj;have:=(Row.kept hr ((Out.refl 0 0 w).alloc (.cells #[] 3)) z0).cell hjk;rw[Addr.add_lit,Nat.zero_add];exact this
 have hone:∀ u ∈ ((List.range k).map fun i=>Value.int .i64 (f i)),u.oneCell'=true:=by
  intro u hu;simp at hu;obtain⟨i,_,rfl⟩:=hu;rfl
 have HOW:=Q3 jR;have HNE:=Q3 hnews;have HON:=Q3 hone;have HK:=Q3 hk;clear jR hnews hone hr hk;go_enter Tryz.func86,Tryz.ntmps86
 go_wp2_with (at_builtin;refine wpList_append_own _ rfl _ _ 70 rfl w.heap.size 3 i0 (Iz 0) 1 8 Tryz.underlying70 hi iI hz1 iH rfl (by decide) (Sz w.heap.size 0 0) 0 [] rfl HOW.out ⟨bw,0,none⟩ k cap ((List.range k).map fun i=>Iz (f i)) rfl (by simp) HNE.out HON.out (by unfold maxLen;obtain⟨q,h1,h2⟩:=HK.out;omega) (by obtain⟨q,h1,h2⟩:=HK.out;omega) (by simp) ?_;intro v' w1 dN aV jS);rw[Nat.zero_add,List.nil_append] at dN;have hO:Out 0 0 w w1:=by
  have h0:Out 0 0 w (w.alloc (.cells #[] 3)):=(Out.refl _ _ _).alloc _;exact⟨aV.os.trans h0.1,aV.tape.trans h0.2.1,aV.output.trans h0.2.2.1,Nat.le_trans h0.size aV.size,fun j h1 h2=>(aV.block j (Nat.lt_of_lt_of_le h1 h0.size) (by simp[Value.ownBlock];omega)).trans (h0.block h1 h2)⟩
 have dM:=dN;obtain⟨bZ,jD⟩:=dN;rcases jD with ⟨hv,_⟩ | ⟨g,cT,dI,rfl,hg1,nL,hg3,hg4,hg5,hg6⟩
 ·exact absurd (jS.1 hv).1 (by simp)
 have HR:=Q3 dM;have HO:=Q3 hO;have HG:=Q3 (Q7 nL);clear nL hg6 aV jS dM hO bZ;go_wp2;go_ret;exact⟨g,cT,by simp,by omega,hg1,HG.out,HR.out,HO.out⟩
def j7z (w:World) (base n:Nat) (r:Raw) (gw cw gp cp:Nat) (vb:Value):Prop:=
 w.ownsRow base 3 1 (.slice (some ⟨gw,0,none⟩) (64*n) cw) (64*n) ((List.range (64*n)).map fun i=>.int .i64 (r.W i))/\ListIs w base (.slice (some ⟨gp,0,none⟩) n cp) (pgl r.S n)/\F7 w base vb (K4 r (64*n))/\gw<gp/\∀ g,vb.ownBlock=some g->gp<g
theorem z2h {w:World} {base:Nat} {T:TypeId} {size n:Nat} {v:Value} {xs:List Value} (h:w.ownsRow base T size v n xs):∃ o c,v=.slice o n c:=by
 rcases h.2 with ⟨rfl,rfl⟩ | ⟨g,cap,dI,rfl,_⟩
 ·exact⟨_,_,rfl⟩
 ·exact⟨_,_,rfl⟩
theorem z1e {w:World} {g:Nat} {T:TypeId} (h:w.heap[g]? = some (.cells #[.slice none 0 0,.slice none 0 0,.slice none 0 0,.int .i64 0,.int .i64 0,.int .i64 0,.int .i64 0,.int .i64 0,.int .i64 0,.int .i64 0,.int .i64 0,.int .i64 0] T (0,0))) :
  w.cell? ⟨g,0,none⟩=some (.slice none 0 0)/\w.cell? ⟨g,1,none⟩=some (.slice none 0 0)/\w.cell? ⟨g,2,none⟩=some (.slice none 0 0)/\w.cell? ⟨g,3,none⟩=some (.int .i64 0)/\w.cell? ⟨g,4,none⟩=some (.int .i64 0)/\w.cell? ⟨g,5,none⟩=some (.int .i64 0)/\w.cell? ⟨g,6,none⟩=some (.int .i64 0)/\w.cell? ⟨g,7,none⟩=some (.int .i64 0)/\w.cell? ⟨g,8,none⟩=some (.int .i64 0)/\w.cell? ⟨g,9,none⟩=some (.int .i64 0)/\w.cell? ⟨g,10,none⟩=some (.int .i64 0)/\w.cell? ⟨g,11,none⟩=some (.int .i64 0)/\∀ i,w.frozen? ⟨g,i,none⟩=false:=by
 refine⟨?_,?_,?_,?_,?_,?_,?_,?_,?_,?_,?_,?_,fun i=>?_⟩ <;> simp[World.cell?,World.frozen?,h]
def dS (X:World) (b:Nat) (v0 v1 v2 v3:Value):World:=
 (((((((((((X.setCell ⟨b,0,none⟩ v0).setCell ⟨b,1,none⟩ v1).setCell ⟨b,2,none⟩ v2).setCell ⟨b,3,none⟩ (.int .i64 0)).setCell ⟨b,4,none⟩ (.int .i64 0)).setCell ⟨b,5,none⟩ (.int .i64 0)).setCell ⟨b,6,none⟩ (.int .i64 0)).setCell ⟨b,7,none⟩ (.int .i64 0)).setCell ⟨b,8,none⟩ (.int .i64 0)).setCell ⟨b,9,none⟩ (.int .i64 0)).setCell ⟨b,10,none⟩ (.int .i64 0)).setCell ⟨b,11,none⟩ v3
theorem z3w {X:World} {b:Nat} {T:TypeId} (h:X.heap[b]? = some (.cells #[.slice none 0 0,.slice none 0 0,.slice none 0 0,.int .i64 0,.int .i64 0,.int .i64 0,.int .i64 0,.int .i64 0,.int .i64 0,.int .i64 0,.int .i64 0,.int .i64 0] T (0,0))) (v0 v1 v2 v3:Value) :
  (dS X b v0 v1 v2 v3).heap[b]? = some (.cells #[v0,v1,v2,.int .i64 0,.int .i64 0,.int .i64 0,.int .i64 0,.int .i64 0,.int .i64 0,.int .i64 0,.int .i64 0,v3] T (0,0)):=by
 unfold dS;simp[World.setCell,Array.getElem?_modify,h]
theorem z7b (X:World) (b:Nat) (v0 v1 v2 v3:Value):Out b (b+1) X (dS X b v0 v1 v2 v3):=by
 unfold dS;have hb:∀ {Y:World},Out b (b+1) X Y->∀ (o:Nat) (v:Value),Out b (b+1) X (Y.setCell ⟨b,o,none⟩ v):=fun h o v=>h.setCell (p:=⟨b,o,none⟩) z1 v
 exact hb (hb (hb (hb (hb (hb (hb (hb (hb (hb (hb (hb (Out.refl _ _ _) _ _) _ _) _ _) _ _) _ _) _ _) _ _) _ _) _ _) _ _) _ _) _ _
def dT (X:World) (b:Nat) (v0 v1 v2 v3 v4 v5 v6 v7 v8 v9 v10 v11:Value):World:=((((((((((((X.setCell ⟨b,0,none⟩ v0).setCell ⟨b,1,none⟩ v1).setCell ⟨b,2,none⟩ v2).setCell ⟨b,3,none⟩ v3).setCell ⟨b,4,none⟩ v4).setCell ⟨b,5,none⟩ v5).setCell ⟨b,6,none⟩ v6).setCell ⟨b,7,none⟩ v7).setCell ⟨b,8,none⟩ v8).setCell ⟨b,9,none⟩ v9).setCell ⟨b,10,none⟩ v10).setCell ⟨b,11,none⟩ v11)
theorem j4a {X:World} {b:Nat} {T:TypeId} (h:X.heap[b]? = some (.cells #[.slice none 0 0,.slice none 0 0,.slice none 0 0,.int .i64 0,.int .i64 0,.int .i64 0,.int .i64 0,.int .i64 0,.int .i64 0,.int .i64 0,.int .i64 0,.int .i64 0] T (0,0))) (v0 v1 v2 v3 v4 v5 v6 v7 v8 v9 v10 v11:Value):(dT X b v0 v1 v2 v3 v4 v5 v6 v7 v8 v9 v10 v11).heap[b]? = some (.cells #[v0,v1,v2,v3,v4,v5,v6,v7,v8,v9,v10,v11] T (0,0)):=by
 unfold dT;simp[World.setCell,Array.getElem?_modify,h]
theorem x1s (X:World) (b:Nat) (v0 v1 v2 v3 v4 v5 v6 v7 v8 v9 v10 v11:Value):Out b (b+1) X (dT X b v0 v1 v2 v3 v4 v5 v6 v7 v8 v9 v10 v11):=by
 unfold dT;have hb:∀ {Y:World},Out b (b+1) X Y->∀ (o:Nat) (v:Value),Out b (b+1) X (Y.setCell ⟨b,o,none⟩ v):=fun h o v=>h.setCell (p:=⟨b,o,none⟩) z1 v
 exact hb (hb (hb (hb (hb (hb (hb (hb (hb (hb (hb (hb (Out.refl _ _ _) _ _) _ _) _ _) _ _) _ _) _ _) _ _) _ _) _ _) _ _) _ _) _ _
theorem infoD (v0 v1 v2 v3 v4 v5 v6 v7 v8 v9 v10 v11:Value):(Tryz.prog.info? 74).map (·.size)=some (#[v0,v1,v2,v3,v4,v5,v6,v7,v8,v9,v10,v11]).size:=by
 rw[show (#[v0,v1,v2,v3,v4,v5,v6,v7,v8,v9,v10,v11]).size=12 from rfl];kernel_rfl
theorem x2l {fn:Func} {p:Tmp} {a:Act} {w:World} {g:Nat} {v0 v1 v2 v3 v4 v5 v6 v7 v8 v9 v10 v11:Value} {post:Ending->World->Prop} (hr:fn.results = #[.cell p 74]) (hp:a.tmps.getD p undef=.pointer (some ⟨g,0,none⟩))
  (hd:a.defers=[]) (hg:w.heap[g]? = some (.cells #[v0,v1,v2,v3,v4,v5,v6,v7,v8,v9,v10,v11] 74 (0,0))) (h:post (.returned (.agg #[v0,v1,v2,v3,v4,v5,v6,v7,v8,v9,v10,v11])) w):bodyPost Tryz.prog fn post Exit.ret a w:=
 bodyPost_ret (v:=.agg #[v0,v1,v2,v3,v4,v5,v6,v7,v8,v9,v10,v11]) (results_cell_row hr a.tmps _ g 74 _ (0,0) _ hp hg Tryz.underlying74 rfl (infoD v0 v1 v2 v3 v4 v5 v6 v7 v8 v9 v10 v11)) hd h
def hdC (n:Nat) (r:Raw) (v0 v1 v2:Value) (i j:Nat):Value:=
 if j=0 then v0 else if j=1 then v1 else if j=2 then v2 else if j=11 then .int .i64 r.last else if j<3+i then .int .i64 (nxr (r.F (j-3)) (64*n) 0) else .int .i64 0
section
variable {w:World} {lo hi n cap:Nat} {s:Nat->Nat} {r:Raw}
theorem j8x (h:RawAt w lo hi s n cap r) (hT:q1g r) :
  Kz 30 #[Pq (s 14)] w fun e w'=>∃ gw cw gp cp vb,e=.returned (.agg #[Sz gw (64*n) cw,Sz gp n cp,vb,Iz (nxr (r.F 0) (64*n) 0),Iz (nxr (r.F 1) (64*n) 0),Iz (nxr (r.F 2) (64*n) 0),Iz (nxr (r.F 3) (64*n) 0),Iz (nxr (r.F 4) (64*n) 0),Iz (nxr (r.F 5) (64*n) 0),Iz (nxr (r.F 6) (64*n) 0),Iz (nxr (r.F 7) (64*n) 0),Iz r.last])/\j7z w' w.heap.size n r gw cw gp cp vb/\Out 0 0 w w':=by
 have kQ:=Q3 h;have HTo:=Q3 hT;have HSelf:=Q3 (fun w=>z2i (s 14) w);clear h hT;go_enter Tryz.func30,Tryz.ntmps30
 go_wp2_with (go_at_call 85;refine Q4 (HSelf.out _) ?_);obtain⟨W0,jM⟩:∃ W0,w.alloc (.cells #[.slice none 0 0,.slice none 0 0,.slice none 0 0,Iz 0,Iz 0,Iz 0,Iz 0,Iz 0,Iz 0,Iz 0,Iz 0,Iz 0] 74)=W0:=⟨_,rfl⟩
 obtain⟨B,hB⟩:∃ B,w.heap.size+1=B:=⟨_,rfl⟩
 have HO0:Hid (Out 0 0 w W0):=by rw[<-jM];exact(Out.refl 0 0 w).alloc _
 have HE0:Hid (W0.heap[w.heap.size]? = some (.cells #[.slice none 0 0,.slice none 0 0,.slice none 0 0,Iz 0,Iz 0,Iz 0,Iz 0,Iz 0,Iz 0,Iz 0,Iz 0,Iz 0] 74 (0,0))):=by rw[<-jM];exact heap_alloc_new _ _
 have hS0:W0.heap.size=w.heap.size+1:=by rw[<-jM];exact World.size_alloc _ _
 rw[jM];obtain⟨R,hR⟩:∃ R,w.heap.size=R:=⟨_,rfl⟩
 have HRw:=Q3 hR;rw[hR];rw[hR] at HE0 hS0 hB;have HRQ:=Q3 (kQ.out.quiet HO0.out);obtain⟨d0,d1,d2,d3,d4,d5⟩:=HRQ.out.cells;have HB:Hid (B=W0.heap.size/\B=R+1/\s 14<R/\hi<=R/\4<=R):=by
  have h1:=kQ.out.top;have h2:=kQ.out.inn 14 (by omega);have h3:=kQ.out.tab.lt;simp[ln] at h2
  show _/\_
  omega
 have HCl:=Q3 (fun W (o:Out 0 0 W0 W)=>j0v (cap:=cap) ((HRQ.out.quiet o).words) ⟨n,Nat.le_refl _,HRQ.out.n2⟩);have gI:=Q3 (fun W (o:Out 0 0 W0 W)=>j3d ((HRQ.out.quiet o).tbl));have HBl:=Q3 (fun W (o:Out 0 0 W0 W)=>q5f (HRQ.out.quiet o) HTo.out);clear jM hB hR hS0 d2 d3 d4;refine q8s (Post:=fun a W=>∃ gw cw gp cp ob mb cb bd,a={ tmps:=#[Pq (s 14),undef,Pq R,Pq bd,undef,Pq (s 14),Pq (s 14),Pq (s 14),Pq (s 14),Pq (s 14),.slice (some ⟨s 11,0,none⟩) (64*n) cap,Sz gw (64*n) cw,Pq (s 14),Pq (s 14),.pointer (some ⟨s 14,1,none⟩),Pq (s 9),Sz gp n cp,Pq (s 14),.slice ob mb cb,Pq (s 14),Pq (s 14),.pointer (some ⟨s 14,13,none⟩),Iz r.last,.agg #[Sz gw (64*n) cw,Sz gp n cp,.slice ob mb cb,Iz 0,Iz 0,Iz 0,Iz 0,Iz 0,Iz 0,Iz 0,Iz 0,Iz r.last],undef,undef,undef,undef,undef,undef,undef,undef,undef,undef,undef,undef,undef,undef,undef],defers:=[] } ∧
  j7z W B n r gw cw gp cp (.slice ob mb cb)/\W.heap[bd]? = some (.cells #[Sz gw (64*n) cw,Sz gp n cp,.slice ob mb cb,Iz 0,Iz 0,Iz 0,Iz 0,Iz 0,Iz 0,Iz 0,Iz 0,Iz r.last] 74 (0,0))/\B<=bd/\gw ≠ bd/\gp ≠ bd/\(∀ g,(Value.slice ob mb cb).ownBlock=some g->g ≠ bd)/\Out 0 0 W0 W) ?_ ?_
 ·refine wp_region_held_drew (S:=fun w'=>cq w' (s 14) 0=some (.slice (some ⟨s 11,0,none⟩) (64*n) cap)/\cq w' (s 14) 1=some (Pq (s 9))/\cq w' (s 14) 13=some (Iz r.last)) (by kernel_rfl) ?hS1 (fun aB=>?rest1)
  case hS1=>exact⟨d0,d1,d5⟩
  obtain⟨Z,hZ⟩:∃ Z,W0.drew=Z:=⟨_,rfl⟩
  have OZ:Out 0 0 W0 Z:=by rw[<-hZ];exact(Out.refl 0 0 W0).drew
  rw[hZ] at aB ⊢;clear hZ;refine tk 0 ?_;refine tk 1 ?_;refine tk 2 ?_;refine tk 3 ?_;refine tk 5 ?_;refine tk 6 ?_;refine tk 7 ?_;refine tk 8 ?_;refine tk 10 ?_;refine tk 12 ?_;refine tk 13 ?_;refine tk 14 ?_;refine tk 15 ?_;refine rd2 4 17 (fun KK hK=>?_) fun KK hK=>?_
  ·go_simp;refine(HCl.out _ OZ).mono ?_;rintro e XW ⟨gw,cw,rfl,k1,k2,zW,fW,o1⟩;replace fW:=z7h (base':=B) fW (by have:=OZ.size;have:=HB.out;omega);have bW:B<=gw:=by have:=OZ.size;have:=HB.out;omega
   have O2:Out 0 0 W0 XW:=OZ.trans o1;have O1:=O2;clear O2 k1 k2;refine hK.out _ _ ⟨o1.cell aB.1 z0,o1.cell aB.2.1 z0,o1.cell aB.2.2 z0⟩ fun aB=>?_
   clear o1 hK KK;refine rd2 9 17 (fun KK hK=>?_) fun KK hK=>?_
   ·go_simp;refine(gI.out _ O1).mono ?_;rintro e XWP ⟨gp,cp,rfl,jW,o1⟩;have bP:XW.heap.size<=gp:=(X0 jW gp rfl).1;have zP:gp<XWP.heap.size:=(X0 jW gp rfl).2;have wP:gw<gp:=Nat.lt_of_lt_of_le zW bP;have fP:=z7h (base':=B) jW (by have:=O1.size;have:=HB.out;omega);clear jW;replace fW:=z2m fW o1 (Nat.zero_le _);replace zW:=Nat.lt_of_lt_of_le zW o1.size;have O2:Out 0 0 W0 XWP:=O1.trans o1;have O1:=O2;clear O2 bP;refine hK.out _ _ ⟨o1.cell aB.1 z0,o1.cell aB.2.1 z0,o1.cell aB.2.2 z0⟩ fun aB=>?_
    clear o1 hK KK;refine rd2 11 17 (fun KK hK=>?_) fun KK hK=>?_
    ·go_simp;refine(HBl.out _ O1).mono ?_;rintro e XWPB ⟨vb,rfl,iE,o1⟩;have bB:∀ g,vb.ownBlock=some g->gp<g:=fun g hg=>Nat.lt_of_lt_of_le zP (X0 iE g hg).1
     have fB:=z7h (base':=B) iE (by have:=O1.size;have:=HB.out;omega);clear iE;obtain⟨ob,cb,rfl⟩:=z2h fB;obtain⟨mb,jT⟩:∃ m,(K4 r (64*n)).length=m:=⟨_,rfl⟩
     rw[jT] at bB fB ⊢;replace fW:=z2m fW o1 (Nat.zero_le _);replace zW:=Nat.lt_of_lt_of_le zW o1.size;replace fP:=z2m fP o1 (Nat.zero_le _);replace zP:=Nat.lt_of_lt_of_le zP o1.size;have O2:Out 0 0 W0 XWPB:=O1.trans o1;have O1:=O2;clear O2;refine hK.out _ _ ⟨o1.cell aB.1 z0,o1.cell aB.2.1 z0,o1.cell aB.2.2 z0⟩ fun aB=>?_
     clear o1 hK KK;refine tk 16 ?_;refine rd1 17 fun KK hK=>?_
     go_simp;obtain⟨bd,eO⟩:∃ b,XWPB.heap.size=b:=⟨_,rfl⟩
     have nD:B<=bd:=by have:=O1.size;have:=HB.out;omega
     obtain⟨gC,hW⟩:∃ W,XWPB.alloc (.cells #[.slice none 0 0,.slice none 0 0,.slice none 0 0,Iz 0,Iz 0,Iz 0,Iz 0,Iz 0,Iz 0,Iz 0,Iz 0,Iz 0] 74)=W:=⟨_,rfl⟩
     have o1:Out 0 0 XWPB gC:=by rw[<-hW];exact(Out.refl 0 0 _).alloc _
     have fD:gC.heap[bd]? = some (.cells #[.slice none 0 0,.slice none 0 0,.slice none 0 0,Iz 0,Iz 0,Iz 0,Iz 0,Iz 0,Iz 0,Iz 0,Iz 0,Iz 0] 74):=by rw[<-hW,<-eO];exact heap_alloc_new _ _
     have zD:bd<gC.heap.size:=Q7 fD;have dW:gw<bd:=by rw[<-eO];exact zW
     have dP:gp<bd:=by rw[<-eO];exact zP
     have dB:∀ g,(Value.slice ob mb cb).ownBlock=some g->g<bd:=fun g hg=>by rw[<-eO];exact(X0 fB g hg).2
     replace fW:=z2m fW o1 (Nat.zero_le _);replace zW:=Nat.lt_of_lt_of_le zW o1.size;replace fP:=z2m fP o1 (Nat.zero_le _);replace zP:=Nat.lt_of_lt_of_le zP o1.size;replace fB:=z2m fB o1 (Nat.zero_le _);(try rw[hW]);(try rw[eO]);have O2:Out 0 0 W0 gC:=O1.trans o1;have O1:=O2;clear O2 hW eO;refine hK.out _ _ ⟨o1.cell aB.1 z0,o1.cell aB.2.1 z0,o1.cell aB.2.2 z0⟩ fun aB=>?_
     clear o1 hK KK;refine rd1 18 fun KK hK=>?_
     simp only[xa,xb,xc];have hf:=z1e fD;obtain⟨y0,y1,y2,y3,y4,y5,y6,y7,y8,y9,ya,yb,yf⟩:=hf;go_simp;obtain⟨XE,eX⟩:∃ W,dS gC bd (Sz gw (64*n) cw) (Sz gp n cp) (.slice ob mb cb) (Iz r.last)=W:=⟨_,rfl⟩
     have fE:XE.heap[bd]? = some (.cells #[Sz gw (64*n) cw,Sz gp n cp,.slice ob mb cb,Iz 0,Iz 0,Iz 0,Iz 0,Iz 0,Iz 0,Iz 0,Iz 0,Iz r.last] 74 (0,0)):=by rw[<-eX];exact z3w fD _ _ _ _
     have oE:Out bd (bd+1) gC XE:=by rw[<-eX];exact z7b _ _ _ _ _ _
     unfold dS at eX;rw[eX];clear eX y0 y1 y2 y3 y4 y5 y6 y7 y8 y9 ya yb yf;refine hK.out _ _ ⟨oE.cell aB.1 (.inl (by have:=HB.out;omega)),oE.cell aB.2.1 (.inl (by have:=HB.out;omega)),oE.cell aB.2.2 (.inl (by have:=HB.out;omega))⟩ fun aB=>?_
     clear hK KK;refine dn ?_;clear aB;have uB:∀ g,(Value.slice ob mb cb).ownBlock=some g->g ≠ bd:=fun g hg=>by have:=dB g hg;omega
     refine⟨gw,cw,gp,cp,ob,mb,cb,bd,rfl,⟨?_,?_,?_,wP,bB⟩,fE,nD,by omega,by omega,uB,O1.past oE (by have:=HB.out;omega)⟩
     ·exact W7 fW fun g o hg _ hh=>oE.heap hh (by
       have e:gw=g:=by simpa [Value.ownBlock] using hg
       omega)
     ·exact W7 fP fun g o hg _ hh=>oE.heap hh (by
       have e:gp=g:=by simpa [Value.ownBlock] using hg
       omega)
     ·show XE.ownsRow _ _ _ _ _ _
      rw[jT];exact W7 fB fun g o hg _ hh=>oE.heap hh (by have:=dB g hg;omega)
    ·go_simp;obtain⟨bd,eO⟩:∃ b,XWP.heap.size=b:=⟨_,rfl⟩
     have nD:B<=bd:=by have:=O1.size;have:=HB.out;omega
     obtain⟨pH,hW⟩:∃ W,XWP.alloc (.cells #[.slice none 0 0,.slice none 0 0,.slice none 0 0,Iz 0,Iz 0,Iz 0,Iz 0,Iz 0,Iz 0,Iz 0,Iz 0,Iz 0] 74)=W:=⟨_,rfl⟩
     have o1:Out 0 0 XWP pH:=by rw[<-hW];exact(Out.refl 0 0 _).alloc _
     have fD:pH.heap[bd]? = some (.cells #[.slice none 0 0,.slice none 0 0,.slice none 0 0,Iz 0,Iz 0,Iz 0,Iz 0,Iz 0,Iz 0,Iz 0,Iz 0,Iz 0] 74):=by rw[<-hW,<-eO];exact heap_alloc_new _ _
     have zD:bd<pH.heap.size:=Q7 fD;have dW:gw<bd:=by rw[<-eO];exact zW
     have dP:gp<bd:=by rw[<-eO];exact zP
     replace fW:=z2m fW o1 (Nat.zero_le _);replace zW:=Nat.lt_of_lt_of_le zW o1.size;replace fP:=z2m fP o1 (Nat.zero_le _);replace zP:=Nat.lt_of_lt_of_le zP o1.size;(try rw[hW]);(try rw[eO]);have O2:Out 0 0 W0 pH:=O1.trans o1;have O1:=O2;clear O2 hW eO;refine hK.out _ _ ⟨o1.cell aB.1 z0,o1.cell aB.2.1 z0,o1.cell aB.2.2 z0⟩ fun aB=>?_
     clear o1 hK KK;refine rd1 11 fun KK hK=>?_
     go_simp;refine(HBl.out _ O1).mono ?_;rintro e XWPDB ⟨vb,rfl,iE,o1⟩;have bB:∀ g,vb.ownBlock=some g->gp<g:=fun g hg=>Nat.lt_of_lt_of_le zP (X0 iE g hg).1
     have dB:∀ g,vb.ownBlock=some g->bd<g:=fun g hg=>Nat.lt_of_lt_of_le zD (X0 iE g hg).1
     have fB:=z7h (base':=B) iE (by have:=O1.size;have:=HB.out;omega);clear iE;obtain⟨ob,cb,rfl⟩:=z2h fB;obtain⟨mb,jT⟩:∃ m,(K4 r (64*n)).length=m:=⟨_,rfl⟩
     rw[jT] at bB fB ⊢;rw[jT] at dB;replace fW:=z2m fW o1 (Nat.zero_le _);replace zW:=Nat.lt_of_lt_of_le zW o1.size;replace fP:=z2m fP o1 (Nat.zero_le _);replace zP:=Nat.lt_of_lt_of_le zP o1.size;replace fD:=o1.heap fD z0;replace zD:=Nat.lt_of_lt_of_le zD o1.size;have O2:Out 0 0 W0 XWPDB:=O1.trans o1;have O1:=O2;clear O2;refine hK.out _ _ ⟨o1.cell aB.1 z0,o1.cell aB.2.1 z0,o1.cell aB.2.2 z0⟩ fun aB=>?_
     clear o1 hK KK;refine tk 16 ?_;refine rd1 18 fun KK hK=>?_
     simp only[xa,xb,xc];have hf:=z1e fD;obtain⟨y0,y1,y2,y3,y4,y5,y6,y7,y8,y9,ya,yb,yf⟩:=hf;go_simp;obtain⟨XE,eX⟩:∃ W,dS XWPDB bd (Sz gw (64*n) cw) (Sz gp n cp) (.slice ob mb cb) (Iz r.last)=W:=⟨_,rfl⟩
     have fE:XE.heap[bd]? = some (.cells #[Sz gw (64*n) cw,Sz gp n cp,.slice ob mb cb,Iz 0,Iz 0,Iz 0,Iz 0,Iz 0,Iz 0,Iz 0,Iz 0,Iz r.last] 74 (0,0)):=by rw[<-eX];exact z3w fD _ _ _ _
     have oE:Out bd (bd+1) XWPDB XE:=by rw[<-eX];exact z7b _ _ _ _ _ _
     unfold dS at eX;rw[eX];clear eX y0 y1 y2 y3 y4 y5 y6 y7 y8 y9 ya yb yf;refine hK.out _ _ ⟨oE.cell aB.1 (.inl (by have:=HB.out;omega)),oE.cell aB.2.1 (.inl (by have:=HB.out;omega)),oE.cell aB.2.2 (.inl (by have:=HB.out;omega))⟩ fun aB=>?_
     clear hK KK;refine dn ?_;clear aB;have uB:∀ g,(Value.slice ob mb cb).ownBlock=some g->g ≠ bd:=fun g hg=>by have:=dB g hg;omega
     refine⟨gw,cw,gp,cp,ob,mb,cb,bd,rfl,⟨?_,?_,?_,wP,bB⟩,fE,nD,by omega,by omega,uB,O1.past oE (by have:=HB.out;omega)⟩
     ·exact W7 fW fun g o hg _ hh=>oE.heap hh (by
       have e:gw=g:=by simpa [Value.ownBlock] using hg
       omega)
     ·exact W7 fP fun g o hg _ hh=>oE.heap hh (by
       have e:gp=g:=by simpa [Value.ownBlock] using hg
       omega)
     ·show XE.ownsRow _ _ _ _ _ _
      rw[jT];exact W7 fB fun g o hg _ hh=>oE.heap hh (by have:=dB g hg;omega)
   ·go_simp;obtain⟨bd,eO⟩:∃ b,XW.heap.size=b:=⟨_,rfl⟩
    have nD:B<=bd:=by have:=O1.size;have:=HB.out;omega
    obtain⟨XWD,hW⟩:∃ W,XW.alloc (.cells #[.slice none 0 0,.slice none 0 0,.slice none 0 0,Iz 0,Iz 0,Iz 0,Iz 0,Iz 0,Iz 0,Iz 0,Iz 0,Iz 0] 74)=W:=⟨_,rfl⟩
    have o1:Out 0 0 XW XWD:=by rw[<-hW];exact(Out.refl 0 0 _).alloc _
    have fD:XWD.heap[bd]? = some (.cells #[.slice none 0 0,.slice none 0 0,.slice none 0 0,Iz 0,Iz 0,Iz 0,Iz 0,Iz 0,Iz 0,Iz 0,Iz 0,Iz 0] 74):=by rw[<-hW,<-eO];exact heap_alloc_new _ _
    have zD:bd<XWD.heap.size:=Q7 fD;have dW:gw<bd:=by rw[<-eO];exact zW
    replace fW:=z2m fW o1 (Nat.zero_le _);replace zW:=Nat.lt_of_lt_of_le zW o1.size;(try rw[hW]);(try rw[eO]);have O2:Out 0 0 W0 XWD:=O1.trans o1;have O1:=O2;clear O2 hW eO;refine hK.out _ _ ⟨o1.cell aB.1 z0,o1.cell aB.2.1 z0,o1.cell aB.2.2 z0⟩ fun aB=>?_
    clear o1 hK KK;refine rd1 9 fun KK hK=>?_
    go_simp;refine(gI.out _ O1).mono ?_;rintro e XWDP ⟨gp,cp,rfl,jW,o1⟩;have bP:XWD.heap.size<=gp:=(X0 jW gp rfl).1;have zP:gp<XWDP.heap.size:=(X0 jW gp rfl).2;have wP:gw<gp:=Nat.lt_of_lt_of_le zW bP;have dP:bd<gp:=Nat.lt_of_lt_of_le zD bP;have fP:=z7h (base':=B) jW (by have:=O1.size;have:=HB.out;omega);clear jW;replace fW:=z2m fW o1 (Nat.zero_le _);replace zW:=Nat.lt_of_lt_of_le zW o1.size;replace fD:=o1.heap fD z0;replace zD:=Nat.lt_of_lt_of_le zD o1.size;have O2:Out 0 0 W0 XWDP:=O1.trans o1;have O1:=O2;clear O2 bP;refine hK.out _ _ ⟨o1.cell aB.1 z0,o1.cell aB.2.1 z0,o1.cell aB.2.2 z0⟩ fun aB=>?_
    clear o1 hK KK;refine rd1 11 fun KK hK=>?_
    go_simp;refine(HBl.out _ O1).mono ?_;rintro e XWDPB ⟨vb,rfl,iE,o1⟩;have bB:∀ g,vb.ownBlock=some g->gp<g:=fun g hg=>Nat.lt_of_lt_of_le zP (X0 iE g hg).1
    have dB:∀ g,vb.ownBlock=some g->bd<g:=fun g hg=>Nat.lt_of_lt_of_le zD (X0 iE g hg).1
    have fB:=z7h (base':=B) iE (by have:=O1.size;have:=HB.out;omega);clear iE;obtain⟨ob,cb,rfl⟩:=z2h fB;obtain⟨mb,jT⟩:∃ m,(K4 r (64*n)).length=m:=⟨_,rfl⟩
    rw[jT] at bB fB ⊢;rw[jT] at dB;replace fW:=z2m fW o1 (Nat.zero_le _);replace zW:=Nat.lt_of_lt_of_le zW o1.size;replace fD:=o1.heap fD z0;replace zD:=Nat.lt_of_lt_of_le zD o1.size;replace fP:=z2m fP o1 (Nat.zero_le _);replace zP:=Nat.lt_of_lt_of_le zP o1.size;have O2:Out 0 0 W0 XWDPB:=O1.trans o1;have O1:=O2;clear O2;refine hK.out _ _ ⟨o1.cell aB.1 z0,o1.cell aB.2.1 z0,o1.cell aB.2.2 z0⟩ fun aB=>?_
    clear o1 hK KK;refine tk 16 ?_;refine rd1 18 fun KK hK=>?_
    simp only[xa,xb,xc];have hf:=z1e fD;obtain⟨y0,y1,y2,y3,y4,y5,y6,y7,y8,y9,ya,yb,yf⟩:=hf;go_simp;obtain⟨XE,eX⟩:∃ W,dS XWDPB bd (Sz gw (64*n) cw) (Sz gp n cp) (.slice ob mb cb) (Iz r.last)=W:=⟨_,rfl⟩
    have fE:XE.heap[bd]? = some (.cells #[Sz gw (64*n) cw,Sz gp n cp,.slice ob mb cb,Iz 0,Iz 0,Iz 0,Iz 0,Iz 0,Iz 0,Iz 0,Iz 0,Iz r.last] 74 (0,0)):=by rw[<-eX];exact z3w fD _ _ _ _
    have oE:Out bd (bd+1) XWDPB XE:=by rw[<-eX];exact z7b _ _ _ _ _ _
    unfold dS at eX;rw[eX];clear eX y0 y1 y2 y3 y4 y5 y6 y7 y8 y9 ya yb yf;refine hK.out _ _ ⟨oE.cell aB.1 (.inl (by have:=HB.out;omega)),oE.cell aB.2.1 (.inl (by have:=HB.out;omega)),oE.cell aB.2.2 (.inl (by have:=HB.out;omega))⟩ fun aB=>?_
    clear hK KK;refine dn ?_;clear aB;have uB:∀ g,(Value.slice ob mb cb).ownBlock=some g->g ≠ bd:=fun g hg=>by have:=dB g hg;omega
    refine⟨gw,cw,gp,cp,ob,mb,cb,bd,rfl,⟨?_,?_,?_,wP,bB⟩,fE,nD,by omega,by omega,uB,O1.past oE (by have:=HB.out;omega)⟩
    ·exact W7 fW fun g o hg _ hh=>oE.heap hh (by
      have e:gw=g:=by simpa [Value.ownBlock] using hg
      omega)
    ·exact W7 fP fun g o hg _ hh=>oE.heap hh (by
      have e:gp=g:=by simpa [Value.ownBlock] using hg
      omega)
    ·show XE.ownsRow _ _ _ _ _ _
     rw[jT];exact W7 fB fun g o hg _ hh=>oE.heap hh (by have:=dB g hg;omega)
  ·go_simp;obtain⟨bd,eO⟩:∃ b,Z.heap.size=b:=⟨_,rfl⟩
   have nD:B<=bd:=by have:=OZ.size;have:=HB.out;omega
   obtain⟨XD,hW⟩:∃ W,Z.alloc (.cells #[.slice none 0 0,.slice none 0 0,.slice none 0 0,Iz 0,Iz 0,Iz 0,Iz 0,Iz 0,Iz 0,Iz 0,Iz 0,Iz 0] 74)=W:=⟨_,rfl⟩
   have o1:Out 0 0 Z XD:=by rw[<-hW];exact(Out.refl 0 0 _).alloc _
   have fD:XD.heap[bd]? = some (.cells #[.slice none 0 0,.slice none 0 0,.slice none 0 0,Iz 0,Iz 0,Iz 0,Iz 0,Iz 0,Iz 0,Iz 0,Iz 0,Iz 0] 74):=by rw[<-hW,<-eO];exact heap_alloc_new _ _
   have zD:bd<XD.heap.size:=Q7 fD;(try rw[hW]);(try rw[eO]);have O2:Out 0 0 W0 XD:=OZ.trans o1;have O1:=O2;clear O2 hW eO;refine hK.out _ _ ⟨o1.cell aB.1 z0,o1.cell aB.2.1 z0,o1.cell aB.2.2 z0⟩ fun aB=>?_
   clear o1 hK KK;refine rd1 4 fun KK hK=>?_
   go_simp;refine(HCl.out _ O1).mono ?_;rintro e XDW ⟨gw,cw,rfl,k1,k2,zW,fW,o1⟩;replace fW:=z7h (base':=B) fW (by have:=O1.size;have:=HB.out;omega);have bW:B<=gw:=by have:=O1.size;have:=HB.out;omega
   have dW:bd<gw:=Nat.lt_of_lt_of_le zD k2;replace fD:=o1.heap fD z0;replace zD:=Nat.lt_of_lt_of_le zD o1.size;have O2:Out 0 0 W0 XDW:=O1.trans o1;have O1:=O2;clear O2 k1 k2;refine hK.out _ _ ⟨o1.cell aB.1 z0,o1.cell aB.2.1 z0,o1.cell aB.2.2 z0⟩ fun aB=>?_
   clear o1 hK KK;refine rd1 9 fun KK hK=>?_
   go_simp;refine(gI.out _ O1).mono ?_;rintro e XDWP ⟨gp,cp,rfl,jW,o1⟩;have bP:XDW.heap.size<=gp:=(X0 jW gp rfl).1;have zP:gp<XDWP.heap.size:=(X0 jW gp rfl).2;have wP:gw<gp:=Nat.lt_of_lt_of_le zW bP;have dP:bd<gp:=Nat.lt_of_lt_of_le zD bP;have fP:=z7h (base':=B) jW (by have:=O1.size;have:=HB.out;omega);clear jW;replace fD:=o1.heap fD z0;replace zD:=Nat.lt_of_lt_of_le zD o1.size;replace fW:=z2m fW o1 (Nat.zero_le _);replace zW:=Nat.lt_of_lt_of_le zW o1.size;have O2:Out 0 0 W0 XDWP:=O1.trans o1;have O1:=O2;clear O2 bP;refine hK.out _ _ ⟨o1.cell aB.1 z0,o1.cell aB.2.1 z0,o1.cell aB.2.2 z0⟩ fun aB=>?_
   clear o1 hK KK;refine rd1 11 fun KK hK=>?_
   go_simp;refine(HBl.out _ O1).mono ?_;rintro e XDWPB ⟨vb,rfl,iE,o1⟩;have bB:∀ g,vb.ownBlock=some g->gp<g:=fun g hg=>Nat.lt_of_lt_of_le zP (X0 iE g hg).1
   have dB:∀ g,vb.ownBlock=some g->bd<g:=fun g hg=>Nat.lt_of_lt_of_le zD (X0 iE g hg).1
   have fB:=z7h (base':=B) iE (by have:=O1.size;have:=HB.out;omega);clear iE;obtain⟨ob,cb,rfl⟩:=z2h fB;obtain⟨mb,jT⟩:∃ m,(K4 r (64*n)).length=m:=⟨_,rfl⟩
   rw[jT] at bB fB ⊢;rw[jT] at dB;replace fD:=o1.heap fD z0;replace zD:=Nat.lt_of_lt_of_le zD o1.size;replace fW:=z2m fW o1 (Nat.zero_le _);replace zW:=Nat.lt_of_lt_of_le zW o1.size;replace fP:=z2m fP o1 (Nat.zero_le _);replace zP:=Nat.lt_of_lt_of_le zP o1.size;have O2:Out 0 0 W0 XDWPB:=O1.trans o1;have O1:=O2;clear O2;refine hK.out _ _ ⟨o1.cell aB.1 z0,o1.cell aB.2.1 z0,o1.cell aB.2.2 z0⟩ fun aB=>?_
   clear o1 hK KK;refine tk 16 ?_;refine rd1 18 fun KK hK=>?_
   simp only[xa,xb,xc];have hf:=z1e fD;obtain⟨y0,y1,y2,y3,y4,y5,y6,y7,y8,y9,ya,yb,yf⟩:=hf;go_simp;obtain⟨XE,eX⟩:∃ W,dS XDWPB bd (Sz gw (64*n) cw) (Sz gp n cp) (.slice ob mb cb) (Iz r.last)=W:=⟨_,rfl⟩
   have fE:XE.heap[bd]? = some (.cells #[Sz gw (64*n) cw,Sz gp n cp,.slice ob mb cb,Iz 0,Iz 0,Iz 0,Iz 0,Iz 0,Iz 0,Iz 0,Iz 0,Iz r.last] 74 (0,0)):=by rw[<-eX];exact z3w fD _ _ _ _
   have oE:Out bd (bd+1) XDWPB XE:=by rw[<-eX];exact z7b _ _ _ _ _ _
   unfold dS at eX;rw[eX];clear eX y0 y1 y2 y3 y4 y5 y6 y7 y8 y9 ya yb yf;refine hK.out _ _ ⟨oE.cell aB.1 (.inl (by have:=HB.out;omega)),oE.cell aB.2.1 (.inl (by have:=HB.out;omega)),oE.cell aB.2.2 (.inl (by have:=HB.out;omega))⟩ fun aB=>?_
   clear hK KK;refine dn ?_;clear aB;have uB:∀ g,(Value.slice ob mb cb).ownBlock=some g->g ≠ bd:=fun g hg=>by have:=dB g hg;omega
   refine⟨gw,cw,gp,cp,ob,mb,cb,bd,rfl,⟨?_,?_,?_,wP,bB⟩,fE,nD,by omega,by omega,uB,O1.past oE (by have:=HB.out;omega)⟩
   ·exact W7 fW fun g o hg _ hh=>oE.heap hh (by
     have e:gw=g:=by simpa [Value.ownBlock] using hg
     omega)
   ·exact W7 fP fun g o hg _ hh=>oE.heap hh (by
     have e:gp=g:=by simpa [Value.ownBlock] using hg
     omega)
   ·show XE.ownsRow _ _ _ _ _ _
    rw[jT];exact W7 fB fun g o hg _ hh=>oE.heap hh (by have:=dB g hg;omega)
 ·rintro a W ⟨gw,cw,gp,cp,ob,mb,cb,bd,rfl,l1,l2,l3,l4,l5,l6,l7⟩;have HL:=Q3 (And.intro l1 (And.intro l3 (And.intro l4 (And.intro l5 (And.intro l6 l7)))));have HE:=Q3 l2;clear l1 l2 l3 l4 l5 l6 l7 d0 d1 d5 HCl gI HBl;go_wp2_with fail;go_loopw [24] (fun u wr=>∃ i:Nat,u=Iz (i:Int)/\i<=8/\Row wr bd 74 12 (hdC n r (Sz gw (64*n) cw) (Sz gp n cp) (.slice ob mb cb) i)/\Out bd (bd+1) W wr) (fun u _=>(8-intOf u).toNat)
  case atStart=>
   refine⟨0,rfl,by omega,⟨_,HE.out,Nat.le_refl _,fun j hj=>?_⟩,Out.refl _ _ _⟩;have:j=0\/j=1\/j=2\/j=3\/j=4\/j=5\/j=6\/j=7\/j=8\/j=9\/j=10\/j=11:=by omega
   rcases this with rfl | rfl | rfl | rfl | rfl | rfl | rfl | rfl | rfl | rfl | rfl | rfl <;> rfl
  case round=>
   obtain⟨i,rfl,i8,r1,r2⟩:=hrel;have eO:=HL.out.2.1;have hbb:=HB.out;have kO:RawAt wr lo hi s n cap r:=(HRQ.out.quiet HL.out.2.2.2.2.2).kept r2 (.inl (by omega)) (.inl (by omega));by_cases dD:i<8
   ·have k0:(0:Int)<=(i:Int):=by omega
    have k1:(i:Int)<8:=by omega
    have cF:=kO.cellF dD;have HX:=Q3 (z5q (kO.free i dD) 0);rw[show (0:Int).toNat=0 from rfl] at HX;have d0:cq wr bd (3+i)=some (Iz 0):=by
     have:=r1.cell (i:=3+i) (by omega);unfold hdC at this;rw[if_neg (by omega),if_neg (by omega),if_neg (by omega),if_neg (by omega),if_neg (by omega)] at this;exact this
    have d1:=Row.frozen r1 (3+i);have HRr:=Q3 (And.intro r1 r2);clear r1 r2 kO eO hbb;go_wp2_with (go_at_call 89;refine HX.out.mono ?_;rintro e w5 ⟨rfl,ho⟩;have e0:=ho.cell d0 z0;have eR:=Q3 (And.intro (HRr.out.1.kept ho z0) ho);have e1:=Row.frozen eR.out.1 (3+i);clear d0 d1 cF ho);go_roundw
    case rel=>
     refine⟨i+1,by go_num,by omega,(eR.out.1.set (3+i) _).congr fun j hj=>?_,((HRr.out.2.trans (eR.out.2.any _ _)).setCell (p:=⟨bd,3+i,none⟩) z1 _)⟩;unfold hdC;by_cases e:j=3+i
     ·rw[if_pos e,if_neg (by omega),if_neg (by omega),if_neg (by omega),if_neg (by omega),if_pos (by omega),show j-3=i from by omega]
     ·rw[if_neg e];by_cases f0:j=0
      ·rw[if_pos f0,if_pos f0]
      ·rw[if_neg f0,if_neg f0];by_cases f1:j=1
       ·rw[if_pos f1,if_pos f1]
       ·rw[if_neg f1,if_neg f1];by_cases f2:j=2
        ·rw[if_pos f2,if_pos f2]
        ·rw[if_neg f2,if_neg f2];by_cases f3:j=11
         ·rw[if_pos f3,if_pos f3]
         ·rw[if_neg f3,if_neg f3];by_cases f4:j<3+i
          ·rw[if_pos f4,if_pos (by omega)]
          ·rw[if_neg f4,if_neg (by omega)]
    case measure=>simp[intOf];omega
   ·have e:i=8:=by omega
    subst e;have y0:cq wr bd 0=some (Sz gw (64*n) cw):=r1.cell (i:=0) (by omega);have y1:cq wr bd 1=some (Sz gp n cp):=r1.cell (i:=1) (by omega);have y2:cq wr bd 2=some (.slice ob mb cb):=r1.cell (i:=2) (by omega);have y3:cq wr bd 3=some (Iz (nxr (r.F 0) (64*n) 0)):=r1.cell (i:=3) (by omega);have y4:cq wr bd 4=some (Iz (nxr (r.F 1) (64*n) 0)):=r1.cell (i:=4) (by omega);have y5:cq wr bd 5=some (Iz (nxr (r.F 2) (64*n) 0)):=r1.cell (i:=5) (by omega);have y6:cq wr bd 6=some (Iz (nxr (r.F 3) (64*n) 0)):=r1.cell (i:=6) (by omega);have y7:cq wr bd 7=some (Iz (nxr (r.F 4) (64*n) 0)):=r1.cell (i:=7) (by omega);have y8:cq wr bd 8=some (Iz (nxr (r.F 5) (64*n) 0)):=r1.cell (i:=8) (by omega);have y9:cq wr bd 9=some (Iz (nxr (r.F 6) (64*n) 0)):=r1.cell (i:=9) (by omega);have y10:cq wr bd 10=some (Iz (nxr (r.F 7) (64*n) 0)):=r1.cell (i:=10) (by omega);have y11:cq wr bd 11=some (Iz r.last):=r1.cell (i:=11) (by omega);have hER:wr.heap[R]? = some (.cells #[.slice none 0 0,.slice none 0 0,.slice none 0 0,Iz 0,Iz 0,Iz 0,Iz 0,Iz 0,Iz 0,Iz 0,Iz 0,Iz 0] 74 (0,0)):=r2.heap (HL.out.2.2.2.2.2.heap HE0.out z0) (.inl (by omega));obtain⟨x0,x1,x2,x3,x4,x5,x6,x7,x8,x9,xa,xb,xf⟩:=z1e hER;have HER:=Q3 hER;have cV:=Q3 r2;clear dD i8 hER r1 r2 kO eO hbb;go_wp2;have oF:=x1s wr R (Sz gw (64*n) cw) (Sz gp n cp) (.slice ob mb cb) (Iz (nxr (r.F 0) (64*n) 0)) (Iz (nxr (r.F 1) (64*n) 0)) (Iz (nxr (r.F 2) (64*n) 0)) (Iz (nxr (r.F 3) (64*n) 0)) (Iz (nxr (r.F 4) (64*n) 0)) (Iz (nxr (r.F 5) (64*n) 0)) (Iz (nxr (r.F 6) (64*n) 0)) (Iz (nxr (r.F 7) (64*n) 0)) (Iz r.last);have hrw:=HRw.out;have hB:=HB.out;have hL:=HL.out;refine x2l Tryz.results30 rfl rfl (j4a HER.out (Sz gw (64*n) cw) (Sz gp n cp) (.slice ob mb cb) (Iz (nxr (r.F 0) (64*n) 0)) (Iz (nxr (r.F 1) (64*n) 0)) (Iz (nxr (r.F 2) (64*n) 0)) (Iz (nxr (r.F 3) (64*n) 0)) (Iz (nxr (r.F 4) (64*n) 0)) (Iz (nxr (r.F 5) (64*n) 0)) (Iz (nxr (r.F 6) (64*n) 0)) (Iz (nxr (r.F 7) (64*n) 0)) (Iz r.last)) ?_;have oW:Out 0 0 W0 wr:=hL.2.2.2.2.2.past cV.out (by omega);have oR:Out 0 0 w (dT wr R (Sz gw (64*n) cw) (Sz gp n cp) (.slice ob mb cb) (Iz (nxr (r.F 0) (64*n) 0)) (Iz (nxr (r.F 1) (64*n) 0)) (Iz (nxr (r.F 2) (64*n) 0)) (Iz (nxr (r.F 3) (64*n) 0)) (Iz (nxr (r.F 4) (64*n) 0)) (Iz (nxr (r.F 5) (64*n) 0)) (Iz (nxr (r.F 6) (64*n) 0)) (Iz (nxr (r.F 7) (64*n) 0)) (Iz r.last)):=(HO0.out.trans oW).past oF (by omega);refine⟨gw,cw,gp,cp,_,rfl,⟨?_,?_,?_,hL.1.2.2.2⟩,oR⟩
    ·exact z7h (W7 hL.1.1 fun g o hg jJ hh=>oF.heap (cV.out.heap hh (by
      have e:gw=g:=by simpa [Value.ownBlock] using hg
      omega)) (by omega)) (by omega)
    ·exact z7h (W7 hL.1.2.1 fun g o hg jJ hh=>oF.heap (cV.out.heap hh (by
      have e:gp=g:=by simpa [Value.ownBlock] using hg
      omega)) (by omega)) (by omega)
    ·exact z7h (W7 hL.1.2.2.1 fun g o hg jJ hh=>oF.heap (cV.out.heap hh (by have e:=hL.2.2.2.2.1 g hg;omega)) (by omega)) (by omega)
end
end Go.Proofs.YtjgnogflgoihfaaGreatDoor
