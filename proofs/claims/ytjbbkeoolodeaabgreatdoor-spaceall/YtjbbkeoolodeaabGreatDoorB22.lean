import Derived.Test.YtjbbkeoolodeaabGreatDoorB21
import Derived.Test.YtjbbkeoolodeaabGreatDoorB15
namespace Go.Proofs.YtjbbkeoolodeaabGreatDoor
open Go.RowKit
set_option linter.unusedVariables false
set_option maxRecDepth 100000
set_option maxHeartbeats 16000000
set_option linter.unusedSimpArgs false
theorem z1y:(Tryz.prog.info? 3).map (fun i=>(i.zero,i.size,i.bytes))=some (some (.int .i64 0),1,8):=by kernel_rfl
theorem q7o {w:World} {bw k cap:Nat} {f:Nat->Int} (hr:Row w bw 3 k (fun i=>.int .i64 (f i))) (hk:∃ q,k<=64*q/\q<=4096) :
  Calls Tryz.prog 88 #[.slice (some ⟨bw,0,none⟩) k cap] w fun e w'=>∃ g cap',e=.returned (.slice (some ⟨g,0,none⟩) k cap')/\k<=cap'/\w.heap.size<=g/\g<w'.heap.size/\w'.ownsRow w.heap.size 3 1 (.slice (some ⟨g,0,none⟩) k cap') k ((List.range k).map fun i=>.int .i64 (f i))/\Out 0 0 w w':=by
 obtain⟨i0,hi,hz0,hz1,hz2⟩:=Q3 z1y;have heq:=fun w=>Lib.run_eql_slice_nil (P:=Tryz.prog) w 30 3 (some ⟨bw,0,none⟩) k cap 0 0 Tryz.underlying30
 simp at heq;have hown:(w.alloc (.cells #[] 3)).ownsRow w.heap.size 3 1 (.slice (some ⟨w.heap.size,0,none⟩) 0 0) 0 []:=
  ⟨rfl,.inr ⟨w.heap.size,0,#[],rfl,Nat.le_refl _,heap_alloc_new _ _,Nat.le_refl _,Nat.zero_le _,rfl,rfl⟩⟩
 have hnews:∀ j u,((List.range k).map fun i=>Value.int .i64 (f i))[j]? = some u->(w.alloc (.cells #[] 3)).cell? ((⟨bw,0,none⟩:Addr).add j)=some u:=by
  intro j u hj;have hjk:j<k:=by
   have:=(List.getElem?_eq_some_iff.1 hj).1;simpa using this
  simp[hjk] at hj;subst hj;have:=(Row.kept hr ((Out.refl 0 0 w).alloc (.cells #[] 3)) z0).cell hjk;rw[Addr.add_lit,Nat.zero_add];exact this
 have hone:∀ u ∈ ((List.range k).map fun i=>Value.int .i64 (f i)),u.oneCell'=true:=by
  intro u hu;simp at hu;obtain⟨i,_,rfl⟩:=hu;rfl
 have HOW:=Z0 hown;have HNE:=Z0 hnews;have HON:=Z0 hone;have HK:=Z0 hk;clear hown hnews hone hr hk;go_enter Tryz.func88,Tryz.ntmps88
 go_wp2_with (at_builtin;refine wpList_append_own _ rfl _ _ 30 rfl w.heap.size 3 i0 (.int .i64 0) 1 8 Tryz.underlying30 hi hz0 hz1 hz2 rfl (by decide) (.slice (some ⟨w.heap.size,0,none⟩) 0 0) 0 [] rfl HOW.out ⟨bw,0,none⟩ k cap ((List.range k).map fun i=>.int .i64 (f i)) rfl (by simp) HNE.out HON.out (by unfold maxLen;obtain⟨q,h1,h2⟩:=HK.out;omega) (by obtain⟨q,h1,h2⟩:=HK.out;omega) (by simp) ?_;intro v' w1 hown' hgrow hnil);rw[Nat.zero_add,List.nil_append] at hown';have hO:Out 0 0 w w1:=by
  have h0:Out 0 0 w (w.alloc (.cells #[] 3)):=(Out.refl _ _ _).alloc _;exact⟨hgrow.os.trans h0.1,hgrow.tape.trans h0.2.1,hgrow.output.trans h0.2.2.1,Nat.le_trans h0.size hgrow.size,fun j h1 h2=>(hgrow.block j (Nat.lt_of_lt_of_le h1 h0.size) (by simp[Value.ownBlock];omega)).trans (h0.block h1 h2)⟩
 have hown2:=hown';obtain⟨hlen,hcase⟩:=hown';rcases hcase with ⟨hv,_⟩ | ⟨g,cap',cur,rfl,hg1,hg2,hg3,hg4,hg5,hg6⟩
 ·exact absurd (hnil.1 hv).1 (by simp)
 have HR:=Z0 hown2;have HO:=Z0 hO;have HG:=Z0 (Q4 hg2);clear hg2 hg6 hgrow hnil hown2 hO hlen;go_wp2;go_ret;exact⟨g,cap',by simp,by omega,hg1,HG.out,HR.out,HO.out⟩
def DmpIs (w:World) (base n:Nat) (r:Raw) (gw cw gp cp:Nat) (vb:Value):Prop:=
 w.ownsRow base 3 1 (.slice (some ⟨gw,0,none⟩) (64*n) cw) (64*n) ((List.range (64*n)).map fun i=>.int .i64 (r.W i))/\ListIs w base (.slice (some ⟨gp,0,none⟩) n cp) (pgl r.S n)/\F8 w base vb (J5 r (64*n))/\gw<gp/\∀ g,vb.ownBlock=some g->gp<g
theorem DmpIs.kept {w w':World} {base n x y:Nat} {r:Raw} {gw cw gp cp:Nat} {vb:Value} (h:DmpIs w base n r gw cw gp cp vb) (o:Out x y w w') (hy:y<=base):DmpIs w' base n r gw cw gp cp vb:=
 ⟨z0q h.1 o hy,z0q h.2.1 o hy,z0q h.2.2.1 o hy,h.2.2.2⟩
theorem z0s {w:World} {base:Nat} {T:TypeId} {size n:Nat} {v:Value} {xs:List Value} (h:w.ownsRow base T size v n xs):∃ o c,v=.slice o n c:=by
 rcases h.2 with ⟨rfl,rfl⟩ | ⟨g,cap,cur,rfl,_⟩
 ·exact⟨_,_,rfl⟩
 ·exact⟨_,_,rfl⟩
theorem z0g {w:World} {g:Nat} {T:TypeId} (h:w.heap[g]? = some (.cells #[.slice none 0 0,.slice none 0 0,.slice none 0 0,.int .i64 0,.int .i64 0,.int .i64 0,.int .i64 0,.int .i64 0,.int .i64 0,.int .i64 0,.int .i64 0,.int .i64 0] T (0,0))) :
  w.cell? ⟨g,0,none⟩=some (.slice none 0 0)/\w.cell? ⟨g,1,none⟩=some (.slice none 0 0)/\w.cell? ⟨g,2,none⟩=some (.slice none 0 0)/\w.cell? ⟨g,3,none⟩=some (.int .i64 0)/\w.cell? ⟨g,4,none⟩=some (.int .i64 0)/\w.cell? ⟨g,5,none⟩=some (.int .i64 0)/\w.cell? ⟨g,6,none⟩=some (.int .i64 0)/\w.cell? ⟨g,7,none⟩=some (.int .i64 0)/\w.cell? ⟨g,8,none⟩=some (.int .i64 0)/\w.cell? ⟨g,9,none⟩=some (.int .i64 0)/\w.cell? ⟨g,10,none⟩=some (.int .i64 0)/\w.cell? ⟨g,11,none⟩=some (.int .i64 0)/\∀ i,w.frozen? ⟨g,i,none⟩=false:=by
 refine⟨?_,?_,?_,?_,?_,?_,?_,?_,?_,?_,?_,?_,fun i=>?_⟩ <;> simp[World.cell?,World.frozen?,h]
def dS (X:World) (b:Nat) (v0 v1 v2 v3:Value):World:=
 (((((((((((X.setCell ⟨b,0,none⟩ v0).setCell ⟨b,1,none⟩ v1).setCell ⟨b,2,none⟩ v2).setCell ⟨b,3,none⟩ (.int .i64 0)).setCell ⟨b,4,none⟩ (.int .i64 0)).setCell ⟨b,5,none⟩ (.int .i64 0)).setCell ⟨b,6,none⟩ (.int .i64 0)).setCell ⟨b,7,none⟩ (.int .i64 0)).setCell ⟨b,8,none⟩ (.int .i64 0)).setCell ⟨b,9,none⟩ (.int .i64 0)).setCell ⟨b,10,none⟩ (.int .i64 0)).setCell ⟨b,11,none⟩ v3
theorem z2w {X:World} {b:Nat} {T:TypeId} (h:X.heap[b]? = some (.cells #[.slice none 0 0,.slice none 0 0,.slice none 0 0,.int .i64 0,.int .i64 0,.int .i64 0,.int .i64 0,.int .i64 0,.int .i64 0,.int .i64 0,.int .i64 0,.int .i64 0] T (0,0))) (v0 v1 v2 v3:Value) :
  (dS X b v0 v1 v2 v3).heap[b]? = some (.cells #[v0,v1,v2,.int .i64 0,.int .i64 0,.int .i64 0,.int .i64 0,.int .i64 0,.int .i64 0,.int .i64 0,.int .i64 0,v3] T (0,0)):=by
 unfold dS;simp[World.setCell,Array.getElem?_modify,h]
theorem z6a (X:World) (b:Nat) (v0 v1 v2 v3:Value):Out b (b+1) X (dS X b v0 v1 v2 v3):=by
 unfold dS;have hb:∀ {Y:World},Out b (b+1) X Y->∀ (o:Nat) (v:Value),Out b (b+1) X (Y.setCell ⟨b,o,none⟩ v):=fun h o v=>h.setCell (p:=⟨b,o,none⟩) z1 v
 exact hb (hb (hb (hb (hb (hb (hb (hb (hb (hb (hb (hb (Out.refl _ _ _) _ _) _ _) _ _) _ _) _ _) _ _) _ _) _ _) _ _) _ _) _ _) _ _
def dT (X:World) (b:Nat) (v0 v1 v2 v3 v4 v5 v6 v7 v8 v9 v10 v11:Value):World:=((((((((((((X.setCell ⟨b,0,none⟩ v0).setCell ⟨b,1,none⟩ v1).setCell ⟨b,2,none⟩ v2).setCell ⟨b,3,none⟩ v3).setCell ⟨b,4,none⟩ v4).setCell ⟨b,5,none⟩ v5).setCell ⟨b,6,none⟩ v6).setCell ⟨b,7,none⟩ v7).setCell ⟨b,8,none⟩ v8).setCell ⟨b,9,none⟩ v9).setCell ⟨b,10,none⟩ v10).setCell ⟨b,11,none⟩ v11)
theorem j1w {X:World} {b:Nat} {T:TypeId} (h:X.heap[b]? = some (.cells #[.slice none 0 0,.slice none 0 0,.slice none 0 0,.int .i64 0,.int .i64 0,.int .i64 0,.int .i64 0,.int .i64 0,.int .i64 0,.int .i64 0,.int .i64 0,.int .i64 0] T (0,0))) (v0 v1 v2 v3 v4 v5 v6 v7 v8 v9 v10 v11:Value):(dT X b v0 v1 v2 v3 v4 v5 v6 v7 v8 v9 v10 v11).heap[b]? = some (.cells #[v0,v1,v2,v3,v4,v5,v6,v7,v8,v9,v10,v11] T (0,0)):=by
 unfold dT;simp[World.setCell,Array.getElem?_modify,h]
theorem j6r (X:World) (b:Nat) (v0 v1 v2 v3 v4 v5 v6 v7 v8 v9 v10 v11:Value):Out b (b+1) X (dT X b v0 v1 v2 v3 v4 v5 v6 v7 v8 v9 v10 v11):=by
 unfold dT;have hb:∀ {Y:World},Out b (b+1) X Y->∀ (o:Nat) (v:Value),Out b (b+1) X (Y.setCell ⟨b,o,none⟩ v):=fun h o v=>h.setCell (p:=⟨b,o,none⟩) z1 v
 exact hb (hb (hb (hb (hb (hb (hb (hb (hb (hb (hb (hb (Out.refl _ _ _) _ _) _ _) _ _) _ _) _ _) _ _) _ _) _ _) _ _) _ _) _ _) _ _
theorem infoD (v0 v1 v2 v3 v4 v5 v6 v7 v8 v9 v10 v11:Value):(Tryz.prog.info? 81).map (·.size)=some (#[v0,v1,v2,v3,v4,v5,v6,v7,v8,v9,v10,v11]).size:=by
 rw[show (#[v0,v1,v2,v3,v4,v5,v6,v7,v8,v9,v10,v11]).size=12 from rfl];kernel_rfl
theorem j7f {fn:Func} {p:Tmp} {a:Act} {w:World} {g:Nat} {v0 v1 v2 v3 v4 v5 v6 v7 v8 v9 v10 v11:Value} {post:Ending->World->Prop} (hr:fn.results = #[.cell p 81]) (hp:a.tmps.getD p undef=.pointer (some ⟨g,0,none⟩))
  (hd:a.defers=[]) (hg:w.heap[g]? = some (.cells #[v0,v1,v2,v3,v4,v5,v6,v7,v8,v9,v10,v11] 81 (0,0))) (h:post (.returned (.agg #[v0,v1,v2,v3,v4,v5,v6,v7,v8,v9,v10,v11])) w):bodyPost Tryz.prog fn post Exit.ret a w:=
 bodyPost_ret (v:=.agg #[v0,v1,v2,v3,v4,v5,v6,v7,v8,v9,v10,v11]) (results_cell_row hr a.tmps _ g 81 _ (0,0) _ hp hg Tryz.underlying81 rfl (infoD v0 v1 v2 v3 v4 v5 v6 v7 v8 v9 v10 v11)) hd h
def hdC (n:Nat) (r:Raw) (v0 v1 v2:Value) (i j:Nat):Value:=
 if j=0 then v0 else if j=1 then v1 else if j=2 then v2 else if j=11 then .int .i64 r.last else if j<3+i then .int .i64 (nxr (r.F (j-3)) (64*n) 0) else .int .i64 0
section
variable {w:World} {lo hi n cap:Nat} {s:Nat->Nat} {r:Raw}
theorem q7f (h:RawAt w lo hi s n cap r) (hT:z8q r) :
  Calls Tryz.prog 43 #[.pointer (some ⟨s 14,0,none⟩)] w fun e w'=>∃ gw cw gp cp vb,e=.returned (.agg #[.slice (some ⟨gw,0,none⟩) (64*n) cw,.slice (some ⟨gp,0,none⟩) n cp,vb,.int .i64 (nxr (r.F 0) (64*n) 0),.int .i64 (nxr (r.F 1) (64*n) 0),.int .i64 (nxr (r.F 2) (64*n) 0),.int .i64 (nxr (r.F 3) (64*n) 0),.int .i64 (nxr (r.F 4) (64*n) 0),.int .i64 (nxr (r.F 5) (64*n) 0),.int .i64 (nxr (r.F 6) (64*n) 0),.int .i64 (nxr (r.F 7) (64*n) 0),.int .i64 r.last])/\DmpIs w' w.heap.size n r gw cw gp cp vb/\Out 0 0 w w':=by
 have HR0:=Z0 h;have HTo:=Z0 hT;have HSelf:=Z0 (fun w=>z0f (s 14) w);clear h hT;go_enter Tryz.func43,Tryz.ntmps43
 go_wp2_with (go_at_call 49;refine Z5 (HSelf.out _) ?_);obtain⟨W0,hW0⟩:∃ W0,w.alloc (.cells #[.slice none 0 0,.slice none 0 0,.slice none 0 0,.int .i64 0,.int .i64 0,.int .i64 0,.int .i64 0,.int .i64 0,.int .i64 0,.int .i64 0,.int .i64 0,.int .i64 0] 81)=W0:=⟨_,rfl⟩
 obtain⟨B,hB⟩:∃ B,w.heap.size+1=B:=⟨_,rfl⟩
 have HO0:Hid (Out 0 0 w W0):=by rw[<-hW0];exact(Out.refl 0 0 w).alloc _
 have HE0:Hid (W0.heap[w.heap.size]? = some (.cells #[.slice none 0 0,.slice none 0 0,.slice none 0 0,.int .i64 0,.int .i64 0,.int .i64 0,.int .i64 0,.int .i64 0,.int .i64 0,.int .i64 0,.int .i64 0,.int .i64 0] 81 (0,0))):=by rw[<-hW0];exact heap_alloc_new _ _
 have hS0:W0.heap.size=w.heap.size+1:=by rw[<-hW0];exact World.size_alloc _ _
 rw[hW0];obtain⟨R,hR⟩:∃ R,w.heap.size=R:=⟨_,rfl⟩
 have HRw:=Z0 hR;rw[hR];rw[hR] at HE0 hS0 hB;have HRQ:=Z0 (HR0.out.quiet HO0.out);obtain⟨d0,d1,d2,d3,d4,d5⟩:=HRQ.out.cells;have HB:Hid (B=W0.heap.size/\B=R+1/\s 14<R/\hi<=R/\4<=R):=by
  have h1:=HR0.out.top;have h2:=HR0.out.inn 14 (by omega);have h3:=HR0.out.tab.lt;simp[ln] at h2
  show _/\_
  omega
 have HCl:=Z0 (fun W (o:Out 0 0 W0 W)=>q7o (cap:=cap) ((HRQ.out.quiet o).words) ⟨n,Nat.le_refl _,HRQ.out.n2⟩);have HAl:=Z0 (fun W (o:Out 0 0 W0 W)=>q4o ((HRQ.out.quiet o).tbl));have HBl:=Z0 (fun W (o:Out 0 0 W0 W)=>q1v (HRQ.out.quiet o) HTo.out);clear hW0 hB hR hS0 d2 d3 d4;refine q4w (Post:=fun a W=>∃ gw cw gp cp ob mb cb bd,a={ tmps:=#[.pointer (some ⟨s 14,0,none⟩),undef,.pointer (some ⟨R,0,none⟩),.pointer (some ⟨bd,0,none⟩),undef,.pointer (some ⟨s 14,0,none⟩),.pointer (some ⟨s 14,0,none⟩),.pointer (some ⟨s 14,0,none⟩),.pointer (some ⟨s 14,0,none⟩),.pointer (some ⟨s 14,0,none⟩),.slice (some ⟨s 11,0,none⟩) (64*n) cap,.slice (some ⟨gw,0,none⟩) (64*n) cw,.pointer (some ⟨s 14,0,none⟩),.pointer (some ⟨s 14,0,none⟩),.pointer (some ⟨s 14,1,none⟩),.pointer (some ⟨s 9,0,none⟩),.slice (some ⟨gp,0,none⟩) n cp,.pointer (some ⟨s 14,0,none⟩),.slice ob mb cb,.pointer (some ⟨s 14,0,none⟩),.pointer (some ⟨s 14,0,none⟩),.pointer (some ⟨s 14,13,none⟩),.int .i64 r.last,.agg #[.slice (some ⟨gw,0,none⟩) (64*n) cw,.slice (some ⟨gp,0,none⟩) n cp,.slice ob mb cb,.int .i64 0,.int .i64 0,.int .i64 0,.int .i64 0,.int .i64 0,.int .i64 0,.int .i64 0,.int .i64 0,.int .i64 r.last],undef,undef,undef,undef,undef,undef,undef,undef,undef,undef,undef,undef,undef,undef,undef],defers:=[] } ∧
  DmpIs W B n r gw cw gp cp (.slice ob mb cb)/\W.heap[bd]? = some (.cells #[.slice (some ⟨gw,0,none⟩) (64*n) cw,.slice (some ⟨gp,0,none⟩) n cp,.slice ob mb cb,.int .i64 0,.int .i64 0,.int .i64 0,.int .i64 0,.int .i64 0,.int .i64 0,.int .i64 0,.int .i64 0,.int .i64 r.last] 81 (0,0))/\B<=bd/\gw ≠ bd/\gp ≠ bd/\(∀ g,(Value.slice ob mb cb).ownBlock=some g->g ≠ bd)/\Out 0 0 W0 W) ?_ ?_
 ·refine wp_region_held_drew (S:=fun w'=>w'.cell? ⟨s 14,0,none⟩=some (.slice (some ⟨s 11,0,none⟩) (64*n) cap)/\w'.cell? ⟨s 14,1,none⟩=some (.pointer (some ⟨s 9,0,none⟩))/\w'.cell? ⟨s 14,13,none⟩=some (.int .i64 r.last)) (by kernel_rfl) ?hS1 (fun hHeld=>?rest1)
  case hS1=>exact⟨d0,d1,d5⟩
  obtain⟨Z,hZ⟩:∃ Z,W0.drew=Z:=⟨_,rfl⟩
  have OZ:Out 0 0 W0 Z:=by rw[<-hZ];exact(Out.refl 0 0 W0).drew
  rw[hZ] at hHeld ⊢;clear hZ;refine tk 0 ?_;refine tk 1 ?_;refine tk 2 ?_;refine tk 3 ?_;refine tk 5 ?_;refine tk 6 ?_;refine tk 7 ?_;refine tk 8 ?_;refine tk 10 ?_;refine tk 12 ?_;refine tk 13 ?_;refine tk 14 ?_;refine tk 15 ?_;refine rd2 4 17 (fun KK hK=>?_) fun KK hK=>?_
  ·simp only[xa,xb,xc];go_simp;refine(HCl.out _ OZ).mono ?_;rintro e XW ⟨gw,cw,rfl,k1,k2,zW,fW,o1⟩;replace fW:=z5x (base':=B) fW (by have:=OZ.size;have:=HB.out;omega);have bW:B<=gw:=by have:=OZ.size;have:=HB.out;omega
   have O2:Out 0 0 W0 XW:=OZ.trans o1;(try clear O1);have O1:=O2;clear O2;clear k1 k2;refine hK.out _ _ ?hS15 (fun hHeld2=>?rest15)
   case hS15=>exact⟨o1.cell hHeld.1 z0,o1.cell hHeld.2.1 z0,o1.cell hHeld.2.2 z0⟩
   clear o1;clear hK KK;replace hHeld:=hHeld2;clear hHeld2;refine rd2 9 17 (fun KK hK=>?_) fun KK hK=>?_
   ·simp only[xa,xb,xc];go_simp;refine(HAl.out _ O1).mono ?_;rintro e XWP ⟨gp,cp,rfl,fP0,o1⟩;have bP:XW.heap.size<=gp:=(Z8 fP0 gp rfl).1;have zP:gp<XWP.heap.size:=(Z8 fP0 gp rfl).2;have wP:gw<gp:=Nat.lt_of_lt_of_le zW bP;have fP:=z5x (base':=B) fP0 (by have:=O1.size;have:=HB.out;omega);clear fP0;replace fW:=z0q fW o1 (Nat.zero_le _);replace zW:=Nat.lt_of_lt_of_le zW o1.size;have O2:Out 0 0 W0 XWP:=O1.trans o1;(try clear O1);have O1:=O2;clear O2;clear bP;refine hK.out _ _ ?hS16 (fun hHeld2=>?rest16)
    case hS16=>exact⟨o1.cell hHeld.1 z0,o1.cell hHeld.2.1 z0,o1.cell hHeld.2.2 z0⟩
    clear o1;clear hK KK;replace hHeld:=hHeld2;clear hHeld2;refine rd2 11 17 (fun KK hK=>?_) fun KK hK=>?_
    ·simp only[xa,xb,xc];go_simp;refine(HBl.out _ O1).mono ?_;rintro e XWPB ⟨vb,rfl,fB0,o1⟩;have bB:∀ g,vb.ownBlock=some g->gp<g:=fun g hg=>Nat.lt_of_lt_of_le zP (Z8 fB0 g hg).1
     have fB:=z5x (base':=B) fB0 (by have:=O1.size;have:=HB.out;omega);clear fB0;obtain⟨ob,cb,rfl⟩:=z0s fB;obtain⟨mb,hmb⟩:∃ m,(J5 r (64*n)).length=m:=⟨_,rfl⟩
     rw[hmb] at bB fB ⊢;replace fW:=z0q fW o1 (Nat.zero_le _);replace zW:=Nat.lt_of_lt_of_le zW o1.size;replace fP:=z0q fP o1 (Nat.zero_le _);replace zP:=Nat.lt_of_lt_of_le zP o1.size;have O2:Out 0 0 W0 XWPB:=O1.trans o1;(try clear O1);have O1:=O2;clear O2;refine hK.out _ _ ?hS17 (fun hHeld2=>?rest17)
     case hS17=>exact⟨o1.cell hHeld.1 z0,o1.cell hHeld.2.1 z0,o1.cell hHeld.2.2 z0⟩
     clear o1;clear hK KK;replace hHeld:=hHeld2;clear hHeld2;refine tk 16 ?_;refine rd1 17 fun KK hK=>?_
     simp only[xa,xb,xc];go_simp;obtain⟨bd,hbd⟩:∃ b,XWPB.heap.size=b:=⟨_,rfl⟩
     have nD:B<=bd:=by have:=O1.size;have:=HB.out;omega
     obtain⟨XWPBD,hW⟩:∃ W,XWPB.alloc (.cells #[.slice none 0 0,.slice none 0 0,.slice none 0 0,.int .i64 0,.int .i64 0,.int .i64 0,.int .i64 0,.int .i64 0,.int .i64 0,.int .i64 0,.int .i64 0,.int .i64 0] 81)=W:=⟨_,rfl⟩
     have o1:Out 0 0 XWPB XWPBD:=by rw[<-hW];exact(Out.refl 0 0 _).alloc _
     have fD:XWPBD.heap[bd]? = some (.cells #[.slice none 0 0,.slice none 0 0,.slice none 0 0,.int .i64 0,.int .i64 0,.int .i64 0,.int .i64 0,.int .i64 0,.int .i64 0,.int .i64 0,.int .i64 0,.int .i64 0] 81):=by rw[<-hW,<-hbd];exact heap_alloc_new _ _
     have zD:bd<XWPBD.heap.size:=Q4 fD;have dW:gw<bd:=by rw[<-hbd];exact zW
     have dP:gp<bd:=by rw[<-hbd];exact zP
     have dB:∀ g,(Value.slice ob mb cb).ownBlock=some g->g<bd:=fun g hg=>by rw[<-hbd];exact(Z8 fB g hg).2
     replace fW:=z0q fW o1 (Nat.zero_le _);replace zW:=Nat.lt_of_lt_of_le zW o1.size;replace fP:=z0q fP o1 (Nat.zero_le _);replace zP:=Nat.lt_of_lt_of_le zP o1.size;replace fB:=z0q fB o1 (Nat.zero_le _);(try rw[hW]);(try rw[hbd]);have O2:Out 0 0 W0 XWPBD:=O1.trans o1;(try clear O1);have O1:=O2;clear O2;clear hW hbd;refine hK.out _ _ ?hS19 (fun hHeld2=>?rest19)
     case hS19=>exact⟨o1.cell hHeld.1 z0,o1.cell hHeld.2.1 z0,o1.cell hHeld.2.2 z0⟩
     clear o1;clear hK KK;replace hHeld:=hHeld2;clear hHeld2;refine rd1 18 fun KK hK=>?_
     simp only[xa,xb,xc];have hf:=z0g fD;obtain⟨y0,y1,y2,y3,y4,y5,y6,y7,y8,y9,ya,yb,yf⟩:=hf;go_simp;obtain⟨XE,hXE⟩:∃ W,dS XWPBD bd (.slice (some ⟨gw,0,none⟩) (64*n) cw) (.slice (some ⟨gp,0,none⟩) n cp) (.slice ob mb cb) (.int .i64 r.last)=W:=⟨_,rfl⟩
     have fE:XE.heap[bd]? = some (.cells #[.slice (some ⟨gw,0,none⟩) (64*n) cw,.slice (some ⟨gp,0,none⟩) n cp,.slice ob mb cb,.int .i64 0,.int .i64 0,.int .i64 0,.int .i64 0,.int .i64 0,.int .i64 0,.int .i64 0,.int .i64 0,.int .i64 r.last] 81 (0,0)):=by rw[<-hXE];exact z2w fD _ _ _ _
     have oE:Out bd (bd+1) XWPBD XE:=by rw[<-hXE];exact z6a _ _ _ _ _ _
     unfold dS at hXE;rw[hXE];clear hXE y0 y1 y2 y3 y4 y5 y6 y7 y8 y9 ya yb yf;refine hK.out _ _ ?hS20 (fun hHeld2=>?rest20)
     case hS20=>exact⟨oE.cell hHeld.1 (.inl (by have:=HB.out;omega)),oE.cell hHeld.2.1 (.inl (by have:=HB.out;omega)),oE.cell hHeld.2.2 (.inl (by have:=HB.out;omega))⟩
     clear hK KK;replace hHeld:=hHeld2;clear hHeld2;refine dn ?_;clear hHeld;have uB:∀ g,(Value.slice ob mb cb).ownBlock=some g->g ≠ bd:=fun g hg=>by have:=dB g hg;omega
     refine⟨gw,cw,gp,cp,ob,mb,cb,bd,rfl,⟨?_,?_,?_,wP,bB⟩,fE,nD,by omega,by omega,uB,O1.past oE (by have:=HB.out;omega)⟩
     ·exact J0 fW fun g o hg _ hh=>oE.heap hh (by
       have e:gw=g:=by simpa [Value.ownBlock] using hg
       omega)
     ·exact J0 fP fun g o hg _ hh=>oE.heap hh (by
       have e:gp=g:=by simpa [Value.ownBlock] using hg
       omega)
     ·show XE.ownsRow _ _ _ _ _ _
      rw[hmb];exact J0 fB fun g o hg _ hh=>oE.heap hh (by have:=dB g hg;omega)
    ·simp only[xa,xb,xc];go_simp;obtain⟨bd,hbd⟩:∃ b,XWP.heap.size=b:=⟨_,rfl⟩
     have nD:B<=bd:=by have:=O1.size;have:=HB.out;omega
     obtain⟨XWPD,hW⟩:∃ W,XWP.alloc (.cells #[.slice none 0 0,.slice none 0 0,.slice none 0 0,.int .i64 0,.int .i64 0,.int .i64 0,.int .i64 0,.int .i64 0,.int .i64 0,.int .i64 0,.int .i64 0,.int .i64 0] 81)=W:=⟨_,rfl⟩
     have o1:Out 0 0 XWP XWPD:=by rw[<-hW];exact(Out.refl 0 0 _).alloc _
     have fD:XWPD.heap[bd]? = some (.cells #[.slice none 0 0,.slice none 0 0,.slice none 0 0,.int .i64 0,.int .i64 0,.int .i64 0,.int .i64 0,.int .i64 0,.int .i64 0,.int .i64 0,.int .i64 0,.int .i64 0] 81):=by rw[<-hW,<-hbd];exact heap_alloc_new _ _
     have zD:bd<XWPD.heap.size:=Q4 fD;have dW:gw<bd:=by rw[<-hbd];exact zW
     have dP:gp<bd:=by rw[<-hbd];exact zP
     replace fW:=z0q fW o1 (Nat.zero_le _);replace zW:=Nat.lt_of_lt_of_le zW o1.size;replace fP:=z0q fP o1 (Nat.zero_le _);replace zP:=Nat.lt_of_lt_of_le zP o1.size;(try rw[hW]);(try rw[hbd]);have O2:Out 0 0 W0 XWPD:=O1.trans o1;(try clear O1);have O1:=O2;clear O2;clear hW hbd;refine hK.out _ _ ?hS21 (fun hHeld2=>?rest21)
     case hS21=>exact⟨o1.cell hHeld.1 z0,o1.cell hHeld.2.1 z0,o1.cell hHeld.2.2 z0⟩
     clear o1;clear hK KK;replace hHeld:=hHeld2;clear hHeld2;refine rd1 11 fun KK hK=>?_
     simp only[xa,xb,xc];go_simp;refine(HBl.out _ O1).mono ?_;rintro e XWPDB ⟨vb,rfl,fB0,o1⟩;have bB:∀ g,vb.ownBlock=some g->gp<g:=fun g hg=>Nat.lt_of_lt_of_le zP (Z8 fB0 g hg).1
     have dB:∀ g,vb.ownBlock=some g->bd<g:=fun g hg=>Nat.lt_of_lt_of_le zD (Z8 fB0 g hg).1
     have fB:=z5x (base':=B) fB0 (by have:=O1.size;have:=HB.out;omega);clear fB0;obtain⟨ob,cb,rfl⟩:=z0s fB;obtain⟨mb,hmb⟩:∃ m,(J5 r (64*n)).length=m:=⟨_,rfl⟩
     rw[hmb] at bB fB ⊢;rw[hmb] at dB;replace fW:=z0q fW o1 (Nat.zero_le _);replace zW:=Nat.lt_of_lt_of_le zW o1.size;replace fP:=z0q fP o1 (Nat.zero_le _);replace zP:=Nat.lt_of_lt_of_le zP o1.size;replace fD:=o1.heap fD z0;replace zD:=Nat.lt_of_lt_of_le zD o1.size;have O2:Out 0 0 W0 XWPDB:=O1.trans o1;(try clear O1);have O1:=O2;clear O2;refine hK.out _ _ ?hS22 (fun hHeld2=>?rest22)
     case hS22=>exact⟨o1.cell hHeld.1 z0,o1.cell hHeld.2.1 z0,o1.cell hHeld.2.2 z0⟩
     clear o1;clear hK KK;replace hHeld:=hHeld2;clear hHeld2;refine tk 16 ?_;refine rd1 18 fun KK hK=>?_
     simp only[xa,xb,xc];have hf:=z0g fD;obtain⟨y0,y1,y2,y3,y4,y5,y6,y7,y8,y9,ya,yb,yf⟩:=hf;go_simp;obtain⟨XE,hXE⟩:∃ W,dS XWPDB bd (.slice (some ⟨gw,0,none⟩) (64*n) cw) (.slice (some ⟨gp,0,none⟩) n cp) (.slice ob mb cb) (.int .i64 r.last)=W:=⟨_,rfl⟩
     have fE:XE.heap[bd]? = some (.cells #[.slice (some ⟨gw,0,none⟩) (64*n) cw,.slice (some ⟨gp,0,none⟩) n cp,.slice ob mb cb,.int .i64 0,.int .i64 0,.int .i64 0,.int .i64 0,.int .i64 0,.int .i64 0,.int .i64 0,.int .i64 0,.int .i64 r.last] 81 (0,0)):=by rw[<-hXE];exact z2w fD _ _ _ _
     have oE:Out bd (bd+1) XWPDB XE:=by rw[<-hXE];exact z6a _ _ _ _ _ _
     unfold dS at hXE;rw[hXE];clear hXE y0 y1 y2 y3 y4 y5 y6 y7 y8 y9 ya yb yf;refine hK.out _ _ ?hS24 (fun hHeld2=>?rest24)
     case hS24=>exact⟨oE.cell hHeld.1 (.inl (by have:=HB.out;omega)),oE.cell hHeld.2.1 (.inl (by have:=HB.out;omega)),oE.cell hHeld.2.2 (.inl (by have:=HB.out;omega))⟩
     clear hK KK;replace hHeld:=hHeld2;clear hHeld2;refine dn ?_;clear hHeld;have uB:∀ g,(Value.slice ob mb cb).ownBlock=some g->g ≠ bd:=fun g hg=>by have:=dB g hg;omega
     refine⟨gw,cw,gp,cp,ob,mb,cb,bd,rfl,⟨?_,?_,?_,wP,bB⟩,fE,nD,by omega,by omega,uB,O1.past oE (by have:=HB.out;omega)⟩
     ·exact J0 fW fun g o hg _ hh=>oE.heap hh (by
       have e:gw=g:=by simpa [Value.ownBlock] using hg
       omega)
     ·exact J0 fP fun g o hg _ hh=>oE.heap hh (by
       have e:gp=g:=by simpa [Value.ownBlock] using hg
       omega)
     ·show XE.ownsRow _ _ _ _ _ _
      rw[hmb];exact J0 fB fun g o hg _ hh=>oE.heap hh (by have:=dB g hg;omega)
   ·simp only[xa,xb,xc];go_simp;obtain⟨bd,hbd⟩:∃ b,XW.heap.size=b:=⟨_,rfl⟩
    have nD:B<=bd:=by have:=O1.size;have:=HB.out;omega
    obtain⟨XWD,hW⟩:∃ W,XW.alloc (.cells #[.slice none 0 0,.slice none 0 0,.slice none 0 0,.int .i64 0,.int .i64 0,.int .i64 0,.int .i64 0,.int .i64 0,.int .i64 0,.int .i64 0,.int .i64 0,.int .i64 0] 81)=W:=⟨_,rfl⟩
    have o1:Out 0 0 XW XWD:=by rw[<-hW];exact(Out.refl 0 0 _).alloc _
    have fD:XWD.heap[bd]? = some (.cells #[.slice none 0 0,.slice none 0 0,.slice none 0 0,.int .i64 0,.int .i64 0,.int .i64 0,.int .i64 0,.int .i64 0,.int .i64 0,.int .i64 0,.int .i64 0,.int .i64 0] 81):=by rw[<-hW,<-hbd];exact heap_alloc_new _ _
    have zD:bd<XWD.heap.size:=Q4 fD;have dW:gw<bd:=by rw[<-hbd];exact zW
    replace fW:=z0q fW o1 (Nat.zero_le _);replace zW:=Nat.lt_of_lt_of_le zW o1.size;(try rw[hW]);(try rw[hbd]);have O2:Out 0 0 W0 XWD:=O1.trans o1;(try clear O1);have O1:=O2;clear O2;clear hW hbd;refine hK.out _ _ ?hS25 (fun hHeld2=>?rest25)
    case hS25=>exact⟨o1.cell hHeld.1 z0,o1.cell hHeld.2.1 z0,o1.cell hHeld.2.2 z0⟩
    clear o1;clear hK KK;replace hHeld:=hHeld2;clear hHeld2;refine rd1 9 fun KK hK=>?_
    simp only[xa,xb,xc];go_simp;refine(HAl.out _ O1).mono ?_;rintro e XWDP ⟨gp,cp,rfl,fP0,o1⟩;have bP:XWD.heap.size<=gp:=(Z8 fP0 gp rfl).1;have zP:gp<XWDP.heap.size:=(Z8 fP0 gp rfl).2;have wP:gw<gp:=Nat.lt_of_lt_of_le zW bP;have dP:bd<gp:=Nat.lt_of_lt_of_le zD bP;have fP:=z5x (base':=B) fP0 (by have:=O1.size;have:=HB.out;omega);clear fP0;replace fW:=z0q fW o1 (Nat.zero_le _);replace zW:=Nat.lt_of_lt_of_le zW o1.size;replace fD:=o1.heap fD z0;replace zD:=Nat.lt_of_lt_of_le zD o1.size;have O2:Out 0 0 W0 XWDP:=O1.trans o1;(try clear O1);have O1:=O2;clear O2;clear bP;refine hK.out _ _ ?hS26 (fun hHeld2=>?rest26)
    case hS26=>exact⟨o1.cell hHeld.1 z0,o1.cell hHeld.2.1 z0,o1.cell hHeld.2.2 z0⟩
    clear o1;clear hK KK;replace hHeld:=hHeld2;clear hHeld2;refine rd1 11 fun KK hK=>?_
    simp only[xa,xb,xc];go_simp;refine(HBl.out _ O1).mono ?_;rintro e XWDPB ⟨vb,rfl,fB0,o1⟩;have bB:∀ g,vb.ownBlock=some g->gp<g:=fun g hg=>Nat.lt_of_lt_of_le zP (Z8 fB0 g hg).1
    have dB:∀ g,vb.ownBlock=some g->bd<g:=fun g hg=>Nat.lt_of_lt_of_le zD (Z8 fB0 g hg).1
    have fB:=z5x (base':=B) fB0 (by have:=O1.size;have:=HB.out;omega);clear fB0;obtain⟨ob,cb,rfl⟩:=z0s fB;obtain⟨mb,hmb⟩:∃ m,(J5 r (64*n)).length=m:=⟨_,rfl⟩
    rw[hmb] at bB fB ⊢;rw[hmb] at dB;replace fW:=z0q fW o1 (Nat.zero_le _);replace zW:=Nat.lt_of_lt_of_le zW o1.size;replace fD:=o1.heap fD z0;replace zD:=Nat.lt_of_lt_of_le zD o1.size;replace fP:=z0q fP o1 (Nat.zero_le _);replace zP:=Nat.lt_of_lt_of_le zP o1.size;have O2:Out 0 0 W0 XWDPB:=O1.trans o1;(try clear O1);have O1:=O2;clear O2;refine hK.out _ _ ?hS27 (fun hHeld2=>?rest27)
    case hS27=>exact⟨o1.cell hHeld.1 z0,o1.cell hHeld.2.1 z0,o1.cell hHeld.2.2 z0⟩
    clear o1;clear hK KK;replace hHeld:=hHeld2;clear hHeld2;refine tk 16 ?_;refine rd1 18 fun KK hK=>?_
    simp only[xa,xb,xc];have hf:=z0g fD;obtain⟨y0,y1,y2,y3,y4,y5,y6,y7,y8,y9,ya,yb,yf⟩:=hf;go_simp;obtain⟨XE,hXE⟩:∃ W,dS XWDPB bd (.slice (some ⟨gw,0,none⟩) (64*n) cw) (.slice (some ⟨gp,0,none⟩) n cp) (.slice ob mb cb) (.int .i64 r.last)=W:=⟨_,rfl⟩
    have fE:XE.heap[bd]? = some (.cells #[.slice (some ⟨gw,0,none⟩) (64*n) cw,.slice (some ⟨gp,0,none⟩) n cp,.slice ob mb cb,.int .i64 0,.int .i64 0,.int .i64 0,.int .i64 0,.int .i64 0,.int .i64 0,.int .i64 0,.int .i64 0,.int .i64 r.last] 81 (0,0)):=by rw[<-hXE];exact z2w fD _ _ _ _
    have oE:Out bd (bd+1) XWDPB XE:=by rw[<-hXE];exact z6a _ _ _ _ _ _
    unfold dS at hXE;rw[hXE];clear hXE y0 y1 y2 y3 y4 y5 y6 y7 y8 y9 ya yb yf;refine hK.out _ _ ?hS29 (fun hHeld2=>?rest29)
    case hS29=>exact⟨oE.cell hHeld.1 (.inl (by have:=HB.out;omega)),oE.cell hHeld.2.1 (.inl (by have:=HB.out;omega)),oE.cell hHeld.2.2 (.inl (by have:=HB.out;omega))⟩
    clear hK KK;replace hHeld:=hHeld2;clear hHeld2;refine dn ?_;clear hHeld;have uB:∀ g,(Value.slice ob mb cb).ownBlock=some g->g ≠ bd:=fun g hg=>by have:=dB g hg;omega
    refine⟨gw,cw,gp,cp,ob,mb,cb,bd,rfl,⟨?_,?_,?_,wP,bB⟩,fE,nD,by omega,by omega,uB,O1.past oE (by have:=HB.out;omega)⟩
    ·exact J0 fW fun g o hg _ hh=>oE.heap hh (by
      have e:gw=g:=by simpa [Value.ownBlock] using hg
      omega)
    ·exact J0 fP fun g o hg _ hh=>oE.heap hh (by
      have e:gp=g:=by simpa [Value.ownBlock] using hg
      omega)
    ·show XE.ownsRow _ _ _ _ _ _
     rw[hmb];exact J0 fB fun g o hg _ hh=>oE.heap hh (by have:=dB g hg;omega)
  ·simp only[xa,xb,xc];go_simp;obtain⟨bd,hbd⟩:∃ b,Z.heap.size=b:=⟨_,rfl⟩
   have nD:B<=bd:=by have:=OZ.size;have:=HB.out;omega
   obtain⟨XD,hW⟩:∃ W,Z.alloc (.cells #[.slice none 0 0,.slice none 0 0,.slice none 0 0,.int .i64 0,.int .i64 0,.int .i64 0,.int .i64 0,.int .i64 0,.int .i64 0,.int .i64 0,.int .i64 0,.int .i64 0] 81)=W:=⟨_,rfl⟩
   have o1:Out 0 0 Z XD:=by rw[<-hW];exact(Out.refl 0 0 _).alloc _
   have fD:XD.heap[bd]? = some (.cells #[.slice none 0 0,.slice none 0 0,.slice none 0 0,.int .i64 0,.int .i64 0,.int .i64 0,.int .i64 0,.int .i64 0,.int .i64 0,.int .i64 0,.int .i64 0,.int .i64 0] 81):=by rw[<-hW,<-hbd];exact heap_alloc_new _ _
   have zD:bd<XD.heap.size:=Q4 fD;(try rw[hW]);(try rw[hbd]);have O2:Out 0 0 W0 XD:=OZ.trans o1;(try clear O1);have O1:=O2;clear O2;clear hW hbd;refine hK.out _ _ ?hS30 (fun hHeld2=>?rest30)
   case hS30=>exact⟨o1.cell hHeld.1 z0,o1.cell hHeld.2.1 z0,o1.cell hHeld.2.2 z0⟩
   clear o1;clear hK KK;replace hHeld:=hHeld2;clear hHeld2;refine rd1 4 fun KK hK=>?_
   simp only[xa,xb,xc];go_simp;refine(HCl.out _ O1).mono ?_;rintro e XDW ⟨gw,cw,rfl,k1,k2,zW,fW,o1⟩;replace fW:=z5x (base':=B) fW (by have:=O1.size;have:=HB.out;omega);have bW:B<=gw:=by have:=O1.size;have:=HB.out;omega
   have dW:bd<gw:=Nat.lt_of_lt_of_le zD k2;replace fD:=o1.heap fD z0;replace zD:=Nat.lt_of_lt_of_le zD o1.size;have O2:Out 0 0 W0 XDW:=O1.trans o1;(try clear O1);have O1:=O2;clear O2;clear k1 k2;refine hK.out _ _ ?hS31 (fun hHeld2=>?rest31)
   case hS31=>exact⟨o1.cell hHeld.1 z0,o1.cell hHeld.2.1 z0,o1.cell hHeld.2.2 z0⟩
   clear o1;clear hK KK;replace hHeld:=hHeld2;clear hHeld2;refine rd1 9 fun KK hK=>?_
   simp only[xa,xb,xc];go_simp;refine(HAl.out _ O1).mono ?_;rintro e XDWP ⟨gp,cp,rfl,fP0,o1⟩;have bP:XDW.heap.size<=gp:=(Z8 fP0 gp rfl).1;have zP:gp<XDWP.heap.size:=(Z8 fP0 gp rfl).2;have wP:gw<gp:=Nat.lt_of_lt_of_le zW bP;have dP:bd<gp:=Nat.lt_of_lt_of_le zD bP;have fP:=z5x (base':=B) fP0 (by have:=O1.size;have:=HB.out;omega);clear fP0;replace fD:=o1.heap fD z0;replace zD:=Nat.lt_of_lt_of_le zD o1.size;replace fW:=z0q fW o1 (Nat.zero_le _);replace zW:=Nat.lt_of_lt_of_le zW o1.size;have O2:Out 0 0 W0 XDWP:=O1.trans o1;(try clear O1);have O1:=O2;clear O2;clear bP;refine hK.out _ _ ?hS32 (fun hHeld2=>?rest32)
   case hS32=>exact⟨o1.cell hHeld.1 z0,o1.cell hHeld.2.1 z0,o1.cell hHeld.2.2 z0⟩
   clear o1;clear hK KK;replace hHeld:=hHeld2;clear hHeld2;refine rd1 11 fun KK hK=>?_
   simp only[xa,xb,xc];go_simp;refine(HBl.out _ O1).mono ?_;rintro e XDWPB ⟨vb,rfl,fB0,o1⟩;have bB:∀ g,vb.ownBlock=some g->gp<g:=fun g hg=>Nat.lt_of_lt_of_le zP (Z8 fB0 g hg).1
   have dB:∀ g,vb.ownBlock=some g->bd<g:=fun g hg=>Nat.lt_of_lt_of_le zD (Z8 fB0 g hg).1
   have fB:=z5x (base':=B) fB0 (by have:=O1.size;have:=HB.out;omega);clear fB0;obtain⟨ob,cb,rfl⟩:=z0s fB;obtain⟨mb,hmb⟩:∃ m,(J5 r (64*n)).length=m:=⟨_,rfl⟩
   rw[hmb] at bB fB ⊢;rw[hmb] at dB;replace fD:=o1.heap fD z0;replace zD:=Nat.lt_of_lt_of_le zD o1.size;replace fW:=z0q fW o1 (Nat.zero_le _);replace zW:=Nat.lt_of_lt_of_le zW o1.size;replace fP:=z0q fP o1 (Nat.zero_le _);replace zP:=Nat.lt_of_lt_of_le zP o1.size;have O2:Out 0 0 W0 XDWPB:=O1.trans o1;(try clear O1);have O1:=O2;clear O2;refine hK.out _ _ ?hS33 (fun hHeld2=>?rest33)
   case hS33=>exact⟨o1.cell hHeld.1 z0,o1.cell hHeld.2.1 z0,o1.cell hHeld.2.2 z0⟩
   clear o1;clear hK KK;replace hHeld:=hHeld2;clear hHeld2;refine tk 16 ?_;refine rd1 18 fun KK hK=>?_
   simp only[xa,xb,xc];have hf:=z0g fD;obtain⟨y0,y1,y2,y3,y4,y5,y6,y7,y8,y9,ya,yb,yf⟩:=hf;go_simp;obtain⟨XE,hXE⟩:∃ W,dS XDWPB bd (.slice (some ⟨gw,0,none⟩) (64*n) cw) (.slice (some ⟨gp,0,none⟩) n cp) (.slice ob mb cb) (.int .i64 r.last)=W:=⟨_,rfl⟩
   have fE:XE.heap[bd]? = some (.cells #[.slice (some ⟨gw,0,none⟩) (64*n) cw,.slice (some ⟨gp,0,none⟩) n cp,.slice ob mb cb,.int .i64 0,.int .i64 0,.int .i64 0,.int .i64 0,.int .i64 0,.int .i64 0,.int .i64 0,.int .i64 0,.int .i64 r.last] 81 (0,0)):=by rw[<-hXE];exact z2w fD _ _ _ _
   have oE:Out bd (bd+1) XDWPB XE:=by rw[<-hXE];exact z6a _ _ _ _ _ _
   unfold dS at hXE;rw[hXE];clear hXE y0 y1 y2 y3 y4 y5 y6 y7 y8 y9 ya yb yf;refine hK.out _ _ ?hS35 (fun hHeld2=>?rest35)
   case hS35=>exact⟨oE.cell hHeld.1 (.inl (by have:=HB.out;omega)),oE.cell hHeld.2.1 (.inl (by have:=HB.out;omega)),oE.cell hHeld.2.2 (.inl (by have:=HB.out;omega))⟩
   clear hK KK;replace hHeld:=hHeld2;clear hHeld2;refine dn ?_;clear hHeld;have uB:∀ g,(Value.slice ob mb cb).ownBlock=some g->g ≠ bd:=fun g hg=>by have:=dB g hg;omega
   refine⟨gw,cw,gp,cp,ob,mb,cb,bd,rfl,⟨?_,?_,?_,wP,bB⟩,fE,nD,by omega,by omega,uB,O1.past oE (by have:=HB.out;omega)⟩
   ·exact J0 fW fun g o hg _ hh=>oE.heap hh (by
     have e:gw=g:=by simpa [Value.ownBlock] using hg
     omega)
   ·exact J0 fP fun g o hg _ hh=>oE.heap hh (by
     have e:gp=g:=by simpa [Value.ownBlock] using hg
     omega)
   ·show XE.ownsRow _ _ _ _ _ _
    rw[hmb];exact J0 fB fun g o hg _ hh=>oE.heap hh (by have:=dB g hg;omega)
 ·rintro a W ⟨gw,cw,gp,cp,ob,mb,cb,bd,rfl,l1,l2,l3,l4,l5,l6,l7⟩;have HL:=Z0 (And.intro l1 (And.intro l3 (And.intro l4 (And.intro l5 (And.intro l6 l7)))));have HE:=Z0 l2;clear l1 l2 l3 l4 l5 l6 l7 d0 d1 d5 HCl HAl HBl;go_wp2_with fail;go_loopw [24] (fun u wr=>∃ i:Nat,u=.int .i64 (i:Int)/\i<=8/\Row wr bd 81 12 (hdC n r (.slice (some ⟨gw,0,none⟩) (64*n) cw) (.slice (some ⟨gp,0,none⟩) n cp) (.slice ob mb cb) i)/\Out bd (bd+1) W wr) (fun u _=>(8-intOf u).toNat)
  case atStart=>
   refine⟨0,rfl,by omega,⟨_,HE.out,Nat.le_refl _,fun j hj=>?_⟩,Out.refl _ _ _⟩;have:j=0\/j=1\/j=2\/j=3\/j=4\/j=5\/j=6\/j=7\/j=8\/j=9\/j=10\/j=11:=by omega
   rcases this with rfl | rfl | rfl | rfl | rfl | rfl | rfl | rfl | rfl | rfl | rfl | rfl <;> rfl
  case round=>
   obtain⟨i,rfl,i8,r1,r2⟩:=hrel;have hbd:=HL.out.2.1;have hbb:=HB.out;have hwr:RawAt wr lo hi s n cap r:=(HRQ.out.quiet HL.out.2.2.2.2.2).kept r2 (.inl (by omega)) (.inl (by omega));by_cases hlt:i<8
   ·have k0:(0:Int)<=(i:Int):=by omega
    have k1:(i:Int)<8:=by omega
    have cF:=hwr.cellF hlt;have HX:=Z0 (z2a (hwr.free i hlt) 0);rw[show (0:Int).toNat=0 from rfl] at HX;have d0:wr.cell? ⟨bd,3+i,none⟩=some (.int .i64 0):=by
     have:=r1.cell (i:=3+i) (by omega);unfold hdC at this;rw[if_neg (by omega),if_neg (by omega),if_neg (by omega),if_neg (by omega),if_neg (by omega)] at this;exact this
    have d1:=Row.frozen r1 (3+i);have HRr:=Z0 (And.intro r1 r2);clear r1 r2 hwr hbd hbb;go_wp2_with (go_at_call 90;refine HX.out.mono ?_;rintro e w5 ⟨rfl,ho⟩;have e0:=ho.cell d0 z0;have HR5:=Z0 (And.intro (HRr.out.1.kept ho z0) ho);have e1:=Row.frozen HR5.out.1 (3+i);clear d0 d1 cF ho);go_roundw
    case rel=>
     refine⟨i+1,by go_num,by omega,(HR5.out.1.set (3+i) _).congr fun j hj=>?_,((HRr.out.2.trans (HR5.out.2.any _ _)).setCell (p:=⟨bd,3+i,none⟩) z1 _)⟩;unfold hdC;by_cases e:j=3+i
     ·rw[if_pos e,if_neg (by omega),if_neg (by omega),if_neg (by omega),if_neg (by omega),if_pos (by omega),show j-3=i from by omega]
     ·rw[if_neg e];by_cases f0:j=0
      ·rw[if_pos f0,if_pos f0]
      ·rw[if_neg f0,if_neg f0];by_cases f1:j=1
       ·rw[if_pos f1,if_pos f1]
       ·rw[if_neg f1,if_neg f1];by_cases f2:j=2
        ·rw[if_pos f2,if_pos f2]
        ·rw[if_neg f2,if_neg f2];by_cases f3:j=11
         ·rw[if_pos f3,if_pos f3]
         ·rw[if_neg f3,if_neg f3];by_cases f4:j<3+i
          ·rw[if_pos f4,if_pos (by omega)]
          ·rw[if_neg f4,if_neg (by omega)]
    case measure=>simp[intOf];omega
   ·have e:i=8:=by omega
    subst e;have y0:wr.cell? ⟨bd,0,none⟩=some (.slice (some ⟨gw,0,none⟩) (64*n) cw):=r1.cell (i:=0) (by omega);have y1:wr.cell? ⟨bd,1,none⟩=some (.slice (some ⟨gp,0,none⟩) n cp):=r1.cell (i:=1) (by omega);have y2:wr.cell? ⟨bd,2,none⟩=some (.slice ob mb cb):=r1.cell (i:=2) (by omega);have y3:wr.cell? ⟨bd,3,none⟩=some (.int .i64 (nxr (r.F 0) (64*n) 0)):=r1.cell (i:=3) (by omega);have y4:wr.cell? ⟨bd,4,none⟩=some (.int .i64 (nxr (r.F 1) (64*n) 0)):=r1.cell (i:=4) (by omega);have y5:wr.cell? ⟨bd,5,none⟩=some (.int .i64 (nxr (r.F 2) (64*n) 0)):=r1.cell (i:=5) (by omega);have y6:wr.cell? ⟨bd,6,none⟩=some (.int .i64 (nxr (r.F 3) (64*n) 0)):=r1.cell (i:=6) (by omega);have y7:wr.cell? ⟨bd,7,none⟩=some (.int .i64 (nxr (r.F 4) (64*n) 0)):=r1.cell (i:=7) (by omega);have y8:wr.cell? ⟨bd,8,none⟩=some (.int .i64 (nxr (r.F 5) (64*n) 0)):=r1.cell (i:=8) (by omega);have y9:wr.cell? ⟨bd,9,none⟩=some (.int .i64 (nxr (r.F 6) (64*n) 0)):=r1.cell (i:=9) (by omega);have y10:wr.cell? ⟨bd,10,none⟩=some (.int .i64 (nxr (r.F 7) (64*n) 0)):=r1.cell (i:=10) (by omega);have y11:wr.cell? ⟨bd,11,none⟩=some (.int .i64 r.last):=r1.cell (i:=11) (by omega);have hER:wr.heap[R]? = some (.cells #[.slice none 0 0,.slice none 0 0,.slice none 0 0,.int .i64 0,.int .i64 0,.int .i64 0,.int .i64 0,.int .i64 0,.int .i64 0,.int .i64 0,.int .i64 0,.int .i64 0] 81 (0,0)):=r2.heap (HL.out.2.2.2.2.2.heap HE0.out z0) (.inl (by omega));obtain⟨x0,x1,x2,x3,x4,x5,x6,x7,x8,x9,xa,xb,xf⟩:=z0g hER;have HER:=Z0 hER;have HR2:=Z0 r2;clear hlt i8 hER r1 r2 hwr hbd hbb;go_wp2;have oF:=j6r wr R (.slice (some ⟨gw,0,none⟩) (64*n) cw) (.slice (some ⟨gp,0,none⟩) n cp) (.slice ob mb cb) (.int .i64 (nxr (r.F 0) (64*n) 0)) (.int .i64 (nxr (r.F 1) (64*n) 0)) (.int .i64 (nxr (r.F 2) (64*n) 0)) (.int .i64 (nxr (r.F 3) (64*n) 0)) (.int .i64 (nxr (r.F 4) (64*n) 0)) (.int .i64 (nxr (r.F 5) (64*n) 0)) (.int .i64 (nxr (r.F 6) (64*n) 0)) (.int .i64 (nxr (r.F 7) (64*n) 0)) (.int .i64 r.last);have hrw:=HRw.out;have hB:=HB.out;have hL:=HL.out;refine j7f Tryz.results43 rfl rfl (j1w HER.out (.slice (some ⟨gw,0,none⟩) (64*n) cw) (.slice (some ⟨gp,0,none⟩) n cp) (.slice ob mb cb) (.int .i64 (nxr (r.F 0) (64*n) 0)) (.int .i64 (nxr (r.F 1) (64*n) 0)) (.int .i64 (nxr (r.F 2) (64*n) 0)) (.int .i64 (nxr (r.F 3) (64*n) 0)) (.int .i64 (nxr (r.F 4) (64*n) 0)) (.int .i64 (nxr (r.F 5) (64*n) 0)) (.int .i64 (nxr (r.F 6) (64*n) 0)) (.int .i64 (nxr (r.F 7) (64*n) 0)) (.int .i64 r.last)) ?_;have oW:Out 0 0 W0 wr:=hL.2.2.2.2.2.past HR2.out (by omega);have oR:Out 0 0 w (dT wr R (.slice (some ⟨gw,0,none⟩) (64*n) cw) (.slice (some ⟨gp,0,none⟩) n cp) (.slice ob mb cb) (.int .i64 (nxr (r.F 0) (64*n) 0)) (.int .i64 (nxr (r.F 1) (64*n) 0)) (.int .i64 (nxr (r.F 2) (64*n) 0)) (.int .i64 (nxr (r.F 3) (64*n) 0)) (.int .i64 (nxr (r.F 4) (64*n) 0)) (.int .i64 (nxr (r.F 5) (64*n) 0)) (.int .i64 (nxr (r.F 6) (64*n) 0)) (.int .i64 (nxr (r.F 7) (64*n) 0)) (.int .i64 r.last)):=(HO0.out.trans oW).past oF (by omega);refine⟨gw,cw,gp,cp,_,rfl,⟨?_,?_,?_,hL.1.2.2.2⟩,oR⟩
    ·exact z5x (J0 hL.1.1 fun g o hg hbs hh=>oF.heap (HR2.out.heap hh (by
      have e:gw=g:=by simpa [Value.ownBlock] using hg
      omega)) (by omega)) (by omega)
    ·exact z5x (J0 hL.1.2.1 fun g o hg hbs hh=>oF.heap (HR2.out.heap hh (by
      have e:gp=g:=by simpa [Value.ownBlock] using hg
      omega)) (by omega)) (by omega)
    ·exact z5x (J0 hL.1.2.2.1 fun g o hg hbs hh=>oF.heap (HR2.out.heap hh (by have e:=hL.2.2.2.2.1 g hg;omega)) (by omega)) (by omega)
end
end Go.Proofs.YtjbbkeoolodeaabGreatDoor
