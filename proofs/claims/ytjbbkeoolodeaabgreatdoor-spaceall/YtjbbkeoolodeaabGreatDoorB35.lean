import Derived.Test.YtjbbkeoolodeaabGreatDoorB34
import Derived.Test.YtjbbkeoolodeaabGreatDoorB22
namespace Go.Proofs.YtjbbkeoolodeaabGreatDoor
open Go.RowKit
set_option linter.unusedVariables false
set_option maxRecDepth 100000
set_option maxHeartbeats 16000000
set_option linter.unusedSimpArgs false
theorem z8i {ops:Array Oper} {o:Oper} {ac:Go.Act} {w:World} {K:Go.Act->World->Prop} {Q:Exit->Go.Act->World->Prop} {E:Prop} (hgd:o.guard=none) (sx xx:Operand)
  (ho:o.op=.call { callee:=.builtin .append,args:=#[sx,xx],argTypes:=#[30,30] }) (hs:ac.eval sx=.slice none 0 0)
  (bw k cap:Nat) (f:Nat->Int) (hx:ac.eval xx=.slice (some ⟨bw,0,none⟩) k cap) (hr:Row w bw 3 k (fun i=>.int .i64 (f i))) (k1:1<=k) (k2:k<=262144)
  (h:∀ g cap' w',w'.ownsRow w.heap.size 3 1 (.slice (some ⟨g,0,none⟩) k cap') k ((List.range k).map fun i=>.int .i64 (f i))->Out 0 0 w w'->K (ac.put o.dst (.slice (some ⟨g,0,none⟩) k cap')) w') :
  if Region.wanted o (yielded ops ac.tmps)=true then Oper.wp Tryz.prog o ac w K Q else E:=by
 have hw:Region.wanted o (yielded ops ac.tmps)=true:=by simp[Region.wanted,hgd]
 rw[if_pos hw];obtain⟨i0,hi0,hz0,hz1,hz2⟩:=Q3 z1y;obtain⟨v2,w',hrun,hown2,hgrow,hnil⟩:=run_append_own (P:=Tryz.prog) w w.heap.size 30 o.type 3 i0 (.int .i64 0) 1 8 Tryz.underlying30 hi0 hz0 hz1 hz2 rfl (by decide) (.slice none 0 0) 0 [] (World.ownsRow_nil _ _ _ 1) ⟨bw,0,none⟩ k cap ((List.range k).map fun i=>.int .i64 (f i)) (by simp) (by
   intro j u hj;have hjk:j<k:=by have:=(List.getElem?_eq_some_iff.1 hj).1;simpa using this
   simp[hjk] at hj;subst hj;rw[Addr.add_lit,Nat.zero_add];exact hr.cell hjk) (by intro u hu;simp at hu;obtain⟨i,_,rfl⟩:=hu;rfl) (by unfold maxLen;omega) (by omega) (Nat.le_refl _)
 rw[Nat.zero_add,List.nil_append] at hown2;obtain⟨g4,cap4,rfl,hg4,_⟩:=hown2.form (by omega);unfold Oper.wp;simp[execOp,ho,resolve,invoke,builtin,hs,hx,hrun,Result.andThen];exact h g4 cap4 w' hown2 ⟨hgrow.os,hgrow.tape,hgrow.output,hgrow.size,fun j h1 h2=>hgrow.block j h1 (by simp[Value.ownBlock])⟩
theorem z7q {ops:Array Oper} {o:Oper} {ac:Go.Act} {w:World} {K:Go.Act->World->Prop} {Q:Exit->Go.Act->World->Prop} {E:Prop} (hgd:o.guard=none) (sx xx:Operand)
  (ho:o.op=.call { callee:=.builtin .append,args:=#[sx,xx],argTypes:=#[78,78] }) (hs:ac.eval sx=.slice none 0 0)
  (T:TypeId) (b bw n cap:Nat) (S:Nat->Int × Int × Int) (hx:ac.eval xx=.slice (some ⟨bw,0,none⟩) n cap) (hr:TblAt T w b bw n S)
  (h:∀ g cap' w',ListIs w' w.heap.size (.slice (some ⟨g,0,none⟩) n cap') (pgl S n)->Out 0 0 w w'->K (ac.put o.dst (.slice (some ⟨g,0,none⟩) n cap')) w') :
  if Region.wanted o (yielded ops ac.tmps)=true then Oper.wp Tryz.prog o ac w K Q else E:=by
 have hw:Region.wanted o (yielded ops ac.tmps)=true:=by simp[Region.wanted,hgd]
 rw[if_pos hw];obtain⟨i0,hi0,hz0,hz1,hz2⟩:=Q3 z4h;have hN:=hr.nums;obtain⟨v2,w',hrun,hown2,hgrow,hnil⟩:=run_append_own (P:=Tryz.prog) w w.heap.size 78 o.type 147 i0 (.agg #[.int .i64 0,.int .i64 0,.int .i64 0]) 3 24 Tryz.underlying78 hi0 hz0 hz1 hz2 rfl (by decide) (.slice none 0 0) 0 [] (World.ownsRow_nil _ _ _ 3) ⟨bw,0,none⟩ n cap (pgs (pgl S n)) (by rw[z4x,z1b]) (by
   intro j u hj;have hjk:j<n*3:=by
    have:=(List.getElem?_eq_some_iff.1 hj).1;rw[z4x,z1b] at this;exact this
   rw[z3z S n hjk] at hj;cases hj;rw[Addr.add_lit,Nat.zero_add];exact Row.cell hr.row hjk) (q4v _) (by unfold maxLen;omega) (by omega) (Nat.le_refl _)
 rw[Nat.zero_add,List.nil_append] at hown2;obtain⟨g4,cap4,rfl,hg4,_⟩:=hown2.form (by omega);unfold Oper.wp;simp[execOp,ho,resolve,invoke,builtin,hs,hx,hrun,Result.andThen];exact h g4 cap4 w' (by show World.ownsRow _ _ _ _ _ _ _;rw[z1b];exact hown2) ⟨hgrow.os,hgrow.tape,hgrow.output,hgrow.size,fun j h1 h2=>hgrow.block j h1 (by simp[Value.ownBlock])⟩
section
variable {w:World} {lo hi n ca co:Nat} {s:Nat->Nat} {st:Sp}
theorem z6z (h:RfAt w lo hi s n ca co st) (hI:Inv n st) {r:Raw} (hr:r=Z6 n st) :
  Calls Tryz.prog 44 #[.pointer (some ⟨s 0,0,none⟩)] w fun e w'=>∃ gw cw gp cp vb,e=.returned (.agg #[.slice (some ⟨gw,0,none⟩) (64*n) cw,.slice (some ⟨gp,0,none⟩) n cp,vb,.int .i64 (nxr (r.F 0) (64*n) 0),.int .i64 (nxr (r.F 1) (64*n) 0),.int .i64 (nxr (r.F 2) (64*n) 0),.int .i64 (nxr (r.F 3) (64*n) 0),.int .i64 (nxr (r.F 4) (64*n) 0),.int .i64 (nxr (r.F 5) (64*n) 0),.int .i64 (nxr (r.F 6) (64*n) 0),.int .i64 (nxr (r.F 7) (64*n) 0),.int .i64 r.last])/\DmpIs w' w.heap.size n r gw cw gp cp vb/\Out 0 0 w w':=by
 have HR0:=Z0 h;have HIn:=Z0 hI;have HRr0:=Z0 hr;clear h hI hr;go_enter Tryz.func44,Tryz.ntmps44
 go_wp2_with fail;obtain⟨W0,hW0⟩:∃ W0,w.alloc (.cells #[.slice none 0 0,.slice none 0 0,.slice none 0 0,.int .i64 0,.int .i64 0,.int .i64 0,.int .i64 0,.int .i64 0,.int .i64 0,.int .i64 0,.int .i64 0,.int .i64 0] 81)=W0:=⟨_,rfl⟩
 obtain⟨B,hB⟩:∃ B,w.heap.size+1=B:=⟨_,rfl⟩
 have HO0:Hid (Out 0 0 w W0):=by rw[<-hW0];exact(Out.refl 0 0 w).alloc _
 have HE0:Hid (W0.heap[w.heap.size]? = some (.cells #[.slice none 0 0,.slice none 0 0,.slice none 0 0,.int .i64 0,.int .i64 0,.int .i64 0,.int .i64 0,.int .i64 0,.int .i64 0,.int .i64 0,.int .i64 0,.int .i64 0] 81 (0,0))):=by rw[<-hW0];exact heap_alloc_new _ _
 have hS0:W0.heap.size=w.heap.size+1:=by rw[<-hW0];exact World.size_alloc _ _
 rw[hW0];obtain⟨R,hR⟩:∃ R,w.heap.size=R:=⟨_,rfl⟩
 have HRw:=Z0 hR;rw[hR];rw[hR] at HE0 hS0 hB;have HRQ:=Z0 (HR0.out.quiet HO0.out);obtain⟨d0,d1,d3,d5,d4⟩:=HRQ.out.cells;obtain⟨ct,d2,_⟩:=HRQ.out.rt.cell;rw[show st.last=r.last from by rw[HRr0.out];rfl] at d5;have HB:Hid (B=W0.heap.size/\B=R+1/\s 0<R/\s 2<R/\hi<=R/\4<=R/\1<=n/\n<=4096):=by
  have h1:=HR0.out.top;have h2:=HR0.out.inn 0 (by omega);have h4:=HR0.out.inn 2 (by omega);have h3:=HR0.out.glob;have h5:=HR0.out.n1;have h6:=HR0.out.n2
  show _/\_
  omega
 have HCl:Hid (∀ W,Out 0 0 W0 W->Row W (s 1) 3 (64*n) (fun i=>.int .i64 (r.W i))):=fun W o=>by rw[HRr0.out];exact(HRQ.out.quiet o).rw
 have HAl:Hid (∀ W,Out 0 0 W0 W->TblAt 130 W (s 2) (s 3) n r.S):=fun W o=>by rw[HRr0.out];exact(HRQ.out.quiet o).rt
 have HBl:Hid (∀ W,Out 0 0 W0 W->Calls Tryz.prog 36 #[.pointer (some ⟨s 0,0,none⟩)] W fun e w'=>∃ v,e=.returned v/\F8 w' W.heap.size v (J5 r (64*n))/\Out 0 0 W w'):=fun W o=>by rw[HRr0.out];exact z3y (HRQ.out.quiet o) HIn.out
 clear hW0 hB hR hS0 d3 d4;refine q4w (Post:=fun a W=>∃ gw cw gp cp ob mb cb bd,a={ tmps:=#[.pointer (some ⟨s 0,0,none⟩),undef,.pointer (some ⟨R,0,none⟩),.pointer (some ⟨bd,0,none⟩),undef,.pointer (some ⟨s 0,0,none⟩),.pointer (some ⟨s 0,0,none⟩),.pointer (some ⟨s 0,0,none⟩),.slice (some ⟨s 1,0,none⟩) (64*n) ca,.slice (some ⟨gw,0,none⟩) (64*n) cw,.pointer (some ⟨s 0,0,none⟩),.pointer (some ⟨s 0,0,none⟩),.pointer (some ⟨s 0,1,none⟩),.pointer (some ⟨s 2,0,none⟩),.pointer (some ⟨s 2,0,none⟩),.pointer (some ⟨s 2,0,none⟩),.slice (some ⟨s 3,0,none⟩) n ct,.slice (some ⟨gp,0,none⟩) n cp,.pointer (some ⟨s 0,0,none⟩),.slice ob mb cb,.pointer (some ⟨s 0,0,none⟩),.pointer (some ⟨s 0,0,none⟩),.pointer (some ⟨s 0,3,none⟩),.int .i64 r.last,.agg #[.slice (some ⟨gw,0,none⟩) (64*n) cw,.slice (some ⟨gp,0,none⟩) n cp,.slice ob mb cb,.int .i64 0,.int .i64 0,.int .i64 0,.int .i64 0,.int .i64 0,.int .i64 0,.int .i64 0,.int .i64 0,.int .i64 r.last],undef,undef,undef,undef,undef,undef,undef,undef,undef,undef,undef],defers:=[] } ∧
  DmpIs W B n r gw cw gp cp (.slice ob mb cb)/\W.heap[bd]? = some (.cells #[.slice (some ⟨gw,0,none⟩) (64*n) cw,.slice (some ⟨gp,0,none⟩) n cp,.slice ob mb cb,.int .i64 0,.int .i64 0,.int .i64 0,.int .i64 0,.int .i64 0,.int .i64 0,.int .i64 0,.int .i64 0,.int .i64 r.last] 81 (0,0))/\B<=bd/\gw ≠ bd/\gp ≠ bd/\(∀ g,(Value.slice ob mb cb).ownBlock=some g->g ≠ bd)/\Out 0 0 W0 W) ?_ ?_
 ·refine wp_region_held_drew (S:=fun w'=>w'.cell? ⟨s 0,0,none⟩=some (.slice (some ⟨s 1,0,none⟩) (64*n) ca)/\w'.cell? ⟨s 0,1,none⟩=some (.pointer (some ⟨s 2,0,none⟩))/\w'.cell? ⟨s 2,0,none⟩=some (.slice (some ⟨s 3,0,none⟩) n ct)/\w'.cell? ⟨s 0,3,none⟩=some (.int .i64 r.last)) (by kernel_rfl) ?hS1 (fun hHeld=>?rest1)
  case hS1=>exact⟨d0,d1,d2,d5⟩
  obtain⟨Z,hZ⟩:∃ Z,W0.drew=Z:=⟨_,rfl⟩
  have OZ:Out 0 0 W0 Z:=by rw[<-hZ];exact(Out.refl 0 0 W0).drew
  rw[hZ] at hHeld ⊢;clear hZ;refine tk 0 ?_;refine tk 1 ?_;refine tk 2 ?_;refine tk 3 ?_;refine tk 5 ?_;refine tk 6 ?_;refine tk 7 ?_;refine tk 8 ?_;refine tk 9 ?_;refine tk 10 ?_;refine tk 11 ?_;refine tk 13 ?_;refine tk 15 ?_;refine tk 16 ?_;refine tk 17 ?_;refine tk 18 ?_;refine rd2 4 20 (fun KK hK=>?_) fun KK hK=>?_
  ·refine z8i (by rfl) _ _ (by rfl) (by rfl) (s 1) (64*n) ca r.W (by rfl) (HCl.out _ OZ) (by have:=HB.out;omega) (by have:=HB.out;omega) ?_;intro gw cw XW fW o1;have k2:=(Z8 fW gw rfl).1;have zW:=(Z8 fW gw rfl).2;replace fW:=z5x (base':=B) fW (by have:=OZ.size;have:=HB.out;omega);have bW:B<=gw:=by have:=OZ.size;have:=HB.out;omega
   have O2:Out 0 0 W0 XW:=OZ.trans o1;(try clear O1);have O1:=O2;clear O2;clear k2;refine hK.out _ _ ?hS18 (fun hHeld2=>?rest18)
   case hS18=>exact⟨o1.cell hHeld.1 z0,o1.cell hHeld.2.1 z0,o1.cell hHeld.2.2.1 z0,o1.cell hHeld.2.2.2 z0⟩
   clear o1;clear hK KK;replace hHeld:=hHeld2;clear hHeld2;refine rd2 12 20 (fun KK hK=>?_) fun KK hK=>?_
   ·refine z7q (by rfl) _ _ (by rfl) (by rfl) 130 (s 2) (s 3) n ct r.S (by rfl) (HAl.out _ O1) ?_;intro gp cp XWP fP0 o1;have bP:XW.heap.size<=gp:=(Z8 fP0 gp rfl).1;have zP:gp<XWP.heap.size:=(Z8 fP0 gp rfl).2;have wP:gw<gp:=Nat.lt_of_lt_of_le zW bP;have fP:=z5x (base':=B) fP0 (by have:=O1.size;have:=HB.out;omega);clear fP0;replace fW:=z0q fW o1 (Nat.zero_le _);replace zW:=Nat.lt_of_lt_of_le zW o1.size;have O2:Out 0 0 W0 XWP:=O1.trans o1;(try clear O1);have O1:=O2;clear O2;clear bP;refine hK.out _ _ ?hS19 (fun hHeld2=>?rest19)
    case hS19=>exact⟨o1.cell hHeld.1 z0,o1.cell hHeld.2.1 z0,o1.cell hHeld.2.2.1 z0,o1.cell hHeld.2.2.2 z0⟩
    clear o1;clear hK KK;replace hHeld:=hHeld2;clear hHeld2;refine rd2 14 20 (fun KK hK=>?_) fun KK hK=>?_
    ·simp only[xa,xb,xc];go_simp;refine(HBl.out _ O1).mono ?_;rintro e XWPB ⟨vb,rfl,fB0,o1⟩;have bB:∀ g,vb.ownBlock=some g->gp<g:=fun g hg=>Nat.lt_of_lt_of_le zP (Z8 fB0 g hg).1
     have fB:=z5x (base':=B) fB0 (by have:=O1.size;have:=HB.out;omega);clear fB0;obtain⟨ob,cb,rfl⟩:=z0s fB;obtain⟨mb,hmb⟩:∃ m,(J5 r (64*n)).length=m:=⟨_,rfl⟩
     rw[hmb] at bB fB ⊢;replace fW:=z0q fW o1 (Nat.zero_le _);replace zW:=Nat.lt_of_lt_of_le zW o1.size;replace fP:=z0q fP o1 (Nat.zero_le _);replace zP:=Nat.lt_of_lt_of_le zP o1.size;have O2:Out 0 0 W0 XWPB:=O1.trans o1;(try clear O1);have O1:=O2;clear O2;refine hK.out _ _ ?hS20 (fun hHeld2=>?rest20)
     case hS20=>exact⟨o1.cell hHeld.1 z0,o1.cell hHeld.2.1 z0,o1.cell hHeld.2.2.1 z0,o1.cell hHeld.2.2.2 z0⟩
     clear o1;clear hK KK;replace hHeld:=hHeld2;clear hHeld2;refine tk 19 ?_;refine rd1 20 fun KK hK=>?_
     simp only[xa,xb,xc];go_simp;obtain⟨bd,hbd⟩:∃ b,XWPB.heap.size=b:=⟨_,rfl⟩
     have nD:B<=bd:=by have:=O1.size;have:=HB.out;omega
     obtain⟨XWPBD,hW⟩:∃ W,XWPB.alloc (.cells #[.slice none 0 0,.slice none 0 0,.slice none 0 0,.int .i64 0,.int .i64 0,.int .i64 0,.int .i64 0,.int .i64 0,.int .i64 0,.int .i64 0,.int .i64 0,.int .i64 0] 81)=W:=⟨_,rfl⟩
     have o1:Out 0 0 XWPB XWPBD:=by rw[<-hW];exact(Out.refl 0 0 _).alloc _
     have fD:XWPBD.heap[bd]? = some (.cells #[.slice none 0 0,.slice none 0 0,.slice none 0 0,.int .i64 0,.int .i64 0,.int .i64 0,.int .i64 0,.int .i64 0,.int .i64 0,.int .i64 0,.int .i64 0,.int .i64 0] 81):=by rw[<-hW,<-hbd];exact heap_alloc_new _ _
     have zD:bd<XWPBD.heap.size:=Q4 fD;have dW:gw<bd:=by rw[<-hbd];exact zW
     have dP:gp<bd:=by rw[<-hbd];exact zP
     have dB:∀ g,(Value.slice ob mb cb).ownBlock=some g->g<bd:=fun g hg=>by rw[<-hbd];exact(Z8 fB g hg).2
     replace fW:=z0q fW o1 (Nat.zero_le _);replace zW:=Nat.lt_of_lt_of_le zW o1.size;replace fP:=z0q fP o1 (Nat.zero_le _);replace zP:=Nat.lt_of_lt_of_le zP o1.size;replace fB:=z0q fB o1 (Nat.zero_le _);(try rw[hW]);(try rw[hbd]);have O2:Out 0 0 W0 XWPBD:=O1.trans o1;(try clear O1);have O1:=O2;clear O2;clear hW hbd;refine hK.out _ _ ?hS22 (fun hHeld2=>?rest22)
     case hS22=>exact⟨o1.cell hHeld.1 z0,o1.cell hHeld.2.1 z0,o1.cell hHeld.2.2.1 z0,o1.cell hHeld.2.2.2 z0⟩
     clear o1;clear hK KK;replace hHeld:=hHeld2;clear hHeld2;refine rd1 21 fun KK hK=>?_
     simp only[xa,xb,xc];have hf:=z0g fD;obtain⟨y0,y1,y2,y3,y4,y5,y6,y7,y8,y9,ya,yb,yf⟩:=hf;go_simp;obtain⟨XE,hXE⟩:∃ W,dS XWPBD bd (.slice (some ⟨gw,0,none⟩) (64*n) cw) (.slice (some ⟨gp,0,none⟩) n cp) (.slice ob mb cb) (.int .i64 r.last)=W:=⟨_,rfl⟩
     have fE:XE.heap[bd]? = some (.cells #[.slice (some ⟨gw,0,none⟩) (64*n) cw,.slice (some ⟨gp,0,none⟩) n cp,.slice ob mb cb,.int .i64 0,.int .i64 0,.int .i64 0,.int .i64 0,.int .i64 0,.int .i64 0,.int .i64 0,.int .i64 0,.int .i64 r.last] 81 (0,0)):=by rw[<-hXE];exact z2w fD _ _ _ _
     have oE:Out bd (bd+1) XWPBD XE:=by rw[<-hXE];exact z6a _ _ _ _ _ _
     unfold dS at hXE;rw[hXE];clear hXE y0 y1 y2 y3 y4 y5 y6 y7 y8 y9 ya yb yf;refine hK.out _ _ ?hS23 (fun hHeld2=>?rest23)
     case hS23=>exact⟨oE.cell hHeld.1 (.inl (by have:=HB.out;omega)),oE.cell hHeld.2.1 (.inl (by have:=HB.out;omega)),oE.cell hHeld.2.2.1 (.inl (by have:=HB.out;omega)),oE.cell hHeld.2.2.2 (.inl (by have:=HB.out;omega))⟩
     clear hK KK;replace hHeld:=hHeld2;clear hHeld2;refine dn ?_;clear hHeld;have uB:∀ g,(Value.slice ob mb cb).ownBlock=some g->g ≠ bd:=fun g hg=>by have:=dB g hg;omega
     refine⟨gw,cw,gp,cp,ob,mb,cb,bd,rfl,⟨?_,?_,?_,wP,bB⟩,fE,nD,by omega,by omega,uB,O1.past oE (by have:=HB.out;omega)⟩
     ·exact J0 fW fun g o hg _ hh=>oE.heap hh (by
       have e:gw=g:=by simpa [Value.ownBlock] using hg
       omega)
     ·exact J0 fP fun g o hg _ hh=>oE.heap hh (by
       have e:gp=g:=by simpa [Value.ownBlock] using hg
       omega)
     ·show XE.ownsRow _ _ _ _ _ _
      rw[hmb];exact J0 fB fun g o hg _ hh=>oE.heap hh (by have:=dB g hg;omega)
    ·simp only[xa,xb,xc];go_simp;obtain⟨bd,hbd⟩:∃ b,XWP.heap.size=b:=⟨_,rfl⟩
     have nD:B<=bd:=by have:=O1.size;have:=HB.out;omega
     obtain⟨XWPD,hW⟩:∃ W,XWP.alloc (.cells #[.slice none 0 0,.slice none 0 0,.slice none 0 0,.int .i64 0,.int .i64 0,.int .i64 0,.int .i64 0,.int .i64 0,.int .i64 0,.int .i64 0,.int .i64 0,.int .i64 0] 81)=W:=⟨_,rfl⟩
     have o1:Out 0 0 XWP XWPD:=by rw[<-hW];exact(Out.refl 0 0 _).alloc _
     have fD:XWPD.heap[bd]? = some (.cells #[.slice none 0 0,.slice none 0 0,.slice none 0 0,.int .i64 0,.int .i64 0,.int .i64 0,.int .i64 0,.int .i64 0,.int .i64 0,.int .i64 0,.int .i64 0,.int .i64 0] 81):=by rw[<-hW,<-hbd];exact heap_alloc_new _ _
     have zD:bd<XWPD.heap.size:=Q4 fD;have dW:gw<bd:=by rw[<-hbd];exact zW
     have dP:gp<bd:=by rw[<-hbd];exact zP
     replace fW:=z0q fW o1 (Nat.zero_le _);replace zW:=Nat.lt_of_lt_of_le zW o1.size;replace fP:=z0q fP o1 (Nat.zero_le _);replace zP:=Nat.lt_of_lt_of_le zP o1.size;(try rw[hW]);(try rw[hbd]);have O2:Out 0 0 W0 XWPD:=O1.trans o1;(try clear O1);have O1:=O2;clear O2;clear hW hbd;refine hK.out _ _ ?hS24 (fun hHeld2=>?rest24)
     case hS24=>exact⟨o1.cell hHeld.1 z0,o1.cell hHeld.2.1 z0,o1.cell hHeld.2.2.1 z0,o1.cell hHeld.2.2.2 z0⟩
     clear o1;clear hK KK;replace hHeld:=hHeld2;clear hHeld2;refine rd1 14 fun KK hK=>?_
     simp only[xa,xb,xc];go_simp;refine(HBl.out _ O1).mono ?_;rintro e XWPDB ⟨vb,rfl,fB0,o1⟩;have bB:∀ g,vb.ownBlock=some g->gp<g:=fun g hg=>Nat.lt_of_lt_of_le zP (Z8 fB0 g hg).1
     have dB:∀ g,vb.ownBlock=some g->bd<g:=fun g hg=>Nat.lt_of_lt_of_le zD (Z8 fB0 g hg).1
     have fB:=z5x (base':=B) fB0 (by have:=O1.size;have:=HB.out;omega);clear fB0;obtain⟨ob,cb,rfl⟩:=z0s fB;obtain⟨mb,hmb⟩:∃ m,(J5 r (64*n)).length=m:=⟨_,rfl⟩
     rw[hmb] at bB fB ⊢;rw[hmb] at dB;replace fW:=z0q fW o1 (Nat.zero_le _);replace zW:=Nat.lt_of_lt_of_le zW o1.size;replace fP:=z0q fP o1 (Nat.zero_le _);replace zP:=Nat.lt_of_lt_of_le zP o1.size;replace fD:=o1.heap fD z0;replace zD:=Nat.lt_of_lt_of_le zD o1.size;have O2:Out 0 0 W0 XWPDB:=O1.trans o1;(try clear O1);have O1:=O2;clear O2;refine hK.out _ _ ?hS25 (fun hHeld2=>?rest25)
     case hS25=>exact⟨o1.cell hHeld.1 z0,o1.cell hHeld.2.1 z0,o1.cell hHeld.2.2.1 z0,o1.cell hHeld.2.2.2 z0⟩
     clear o1;clear hK KK;replace hHeld:=hHeld2;clear hHeld2;refine tk 19 ?_;refine rd1 21 fun KK hK=>?_
     simp only[xa,xb,xc];have hf:=z0g fD;obtain⟨y0,y1,y2,y3,y4,y5,y6,y7,y8,y9,ya,yb,yf⟩:=hf;go_simp;obtain⟨XE,hXE⟩:∃ W,dS XWPDB bd (.slice (some ⟨gw,0,none⟩) (64*n) cw) (.slice (some ⟨gp,0,none⟩) n cp) (.slice ob mb cb) (.int .i64 r.last)=W:=⟨_,rfl⟩
     have fE:XE.heap[bd]? = some (.cells #[.slice (some ⟨gw,0,none⟩) (64*n) cw,.slice (some ⟨gp,0,none⟩) n cp,.slice ob mb cb,.int .i64 0,.int .i64 0,.int .i64 0,.int .i64 0,.int .i64 0,.int .i64 0,.int .i64 0,.int .i64 0,.int .i64 r.last] 81 (0,0)):=by rw[<-hXE];exact z2w fD _ _ _ _
     have oE:Out bd (bd+1) XWPDB XE:=by rw[<-hXE];exact z6a _ _ _ _ _ _
     unfold dS at hXE;rw[hXE];clear hXE y0 y1 y2 y3 y4 y5 y6 y7 y8 y9 ya yb yf;refine hK.out _ _ ?hS27 (fun hHeld2=>?rest27)
     case hS27=>exact⟨oE.cell hHeld.1 (.inl (by have:=HB.out;omega)),oE.cell hHeld.2.1 (.inl (by have:=HB.out;omega)),oE.cell hHeld.2.2.1 (.inl (by have:=HB.out;omega)),oE.cell hHeld.2.2.2 (.inl (by have:=HB.out;omega))⟩
     clear hK KK;replace hHeld:=hHeld2;clear hHeld2;refine dn ?_;clear hHeld;have uB:∀ g,(Value.slice ob mb cb).ownBlock=some g->g ≠ bd:=fun g hg=>by have:=dB g hg;omega
     refine⟨gw,cw,gp,cp,ob,mb,cb,bd,rfl,⟨?_,?_,?_,wP,bB⟩,fE,nD,by omega,by omega,uB,O1.past oE (by have:=HB.out;omega)⟩
     ·exact J0 fW fun g o hg _ hh=>oE.heap hh (by
       have e:gw=g:=by simpa [Value.ownBlock] using hg
       omega)
     ·exact J0 fP fun g o hg _ hh=>oE.heap hh (by
       have e:gp=g:=by simpa [Value.ownBlock] using hg
       omega)
     ·show XE.ownsRow _ _ _ _ _ _
      rw[hmb];exact J0 fB fun g o hg _ hh=>oE.heap hh (by have:=dB g hg;omega)
   ·simp only[xa,xb,xc];go_simp;obtain⟨bd,hbd⟩:∃ b,XW.heap.size=b:=⟨_,rfl⟩
    have nD:B<=bd:=by have:=O1.size;have:=HB.out;omega
    obtain⟨XWD,hW⟩:∃ W,XW.alloc (.cells #[.slice none 0 0,.slice none 0 0,.slice none 0 0,.int .i64 0,.int .i64 0,.int .i64 0,.int .i64 0,.int .i64 0,.int .i64 0,.int .i64 0,.int .i64 0,.int .i64 0] 81)=W:=⟨_,rfl⟩
    have o1:Out 0 0 XW XWD:=by rw[<-hW];exact(Out.refl 0 0 _).alloc _
    have fD:XWD.heap[bd]? = some (.cells #[.slice none 0 0,.slice none 0 0,.slice none 0 0,.int .i64 0,.int .i64 0,.int .i64 0,.int .i64 0,.int .i64 0,.int .i64 0,.int .i64 0,.int .i64 0,.int .i64 0] 81):=by rw[<-hW,<-hbd];exact heap_alloc_new _ _
    have zD:bd<XWD.heap.size:=Q4 fD;have dW:gw<bd:=by rw[<-hbd];exact zW
    replace fW:=z0q fW o1 (Nat.zero_le _);replace zW:=Nat.lt_of_lt_of_le zW o1.size;(try rw[hW]);(try rw[hbd]);have O2:Out 0 0 W0 XWD:=O1.trans o1;(try clear O1);have O1:=O2;clear O2;clear hW hbd;refine hK.out _ _ ?hS28 (fun hHeld2=>?rest28)
    case hS28=>exact⟨o1.cell hHeld.1 z0,o1.cell hHeld.2.1 z0,o1.cell hHeld.2.2.1 z0,o1.cell hHeld.2.2.2 z0⟩
    clear o1;clear hK KK;replace hHeld:=hHeld2;clear hHeld2;refine rd1 12 fun KK hK=>?_
    refine z7q (by rfl) _ _ (by rfl) (by rfl) 130 (s 2) (s 3) n ct r.S (by rfl) (HAl.out _ O1) ?_;intro gp cp XWDP fP0 o1;have bP:XWD.heap.size<=gp:=(Z8 fP0 gp rfl).1;have zP:gp<XWDP.heap.size:=(Z8 fP0 gp rfl).2;have wP:gw<gp:=Nat.lt_of_lt_of_le zW bP;have dP:bd<gp:=Nat.lt_of_lt_of_le zD bP;have fP:=z5x (base':=B) fP0 (by have:=O1.size;have:=HB.out;omega);clear fP0;replace fW:=z0q fW o1 (Nat.zero_le _);replace zW:=Nat.lt_of_lt_of_le zW o1.size;replace fD:=o1.heap fD z0;replace zD:=Nat.lt_of_lt_of_le zD o1.size;have O2:Out 0 0 W0 XWDP:=O1.trans o1;(try clear O1);have O1:=O2;clear O2;clear bP;refine hK.out _ _ ?hS29 (fun hHeld2=>?rest29)
    case hS29=>exact⟨o1.cell hHeld.1 z0,o1.cell hHeld.2.1 z0,o1.cell hHeld.2.2.1 z0,o1.cell hHeld.2.2.2 z0⟩
    clear o1;clear hK KK;replace hHeld:=hHeld2;clear hHeld2;refine rd1 14 fun KK hK=>?_
    simp only[xa,xb,xc];go_simp;refine(HBl.out _ O1).mono ?_;rintro e XWDPB ⟨vb,rfl,fB0,o1⟩;have bB:∀ g,vb.ownBlock=some g->gp<g:=fun g hg=>Nat.lt_of_lt_of_le zP (Z8 fB0 g hg).1
    have dB:∀ g,vb.ownBlock=some g->bd<g:=fun g hg=>Nat.lt_of_lt_of_le zD (Z8 fB0 g hg).1
    have fB:=z5x (base':=B) fB0 (by have:=O1.size;have:=HB.out;omega);clear fB0;obtain⟨ob,cb,rfl⟩:=z0s fB;obtain⟨mb,hmb⟩:∃ m,(J5 r (64*n)).length=m:=⟨_,rfl⟩
    rw[hmb] at bB fB ⊢;rw[hmb] at dB;replace fW:=z0q fW o1 (Nat.zero_le _);replace zW:=Nat.lt_of_lt_of_le zW o1.size;replace fD:=o1.heap fD z0;replace zD:=Nat.lt_of_lt_of_le zD o1.size;replace fP:=z0q fP o1 (Nat.zero_le _);replace zP:=Nat.lt_of_lt_of_le zP o1.size;have O2:Out 0 0 W0 XWDPB:=O1.trans o1;(try clear O1);have O1:=O2;clear O2;refine hK.out _ _ ?hS30 (fun hHeld2=>?rest30)
    case hS30=>exact⟨o1.cell hHeld.1 z0,o1.cell hHeld.2.1 z0,o1.cell hHeld.2.2.1 z0,o1.cell hHeld.2.2.2 z0⟩
    clear o1;clear hK KK;replace hHeld:=hHeld2;clear hHeld2;refine tk 19 ?_;refine rd1 21 fun KK hK=>?_
    simp only[xa,xb,xc];have hf:=z0g fD;obtain⟨y0,y1,y2,y3,y4,y5,y6,y7,y8,y9,ya,yb,yf⟩:=hf;go_simp;obtain⟨XE,hXE⟩:∃ W,dS XWDPB bd (.slice (some ⟨gw,0,none⟩) (64*n) cw) (.slice (some ⟨gp,0,none⟩) n cp) (.slice ob mb cb) (.int .i64 r.last)=W:=⟨_,rfl⟩
    have fE:XE.heap[bd]? = some (.cells #[.slice (some ⟨gw,0,none⟩) (64*n) cw,.slice (some ⟨gp,0,none⟩) n cp,.slice ob mb cb,.int .i64 0,.int .i64 0,.int .i64 0,.int .i64 0,.int .i64 0,.int .i64 0,.int .i64 0,.int .i64 0,.int .i64 r.last] 81 (0,0)):=by rw[<-hXE];exact z2w fD _ _ _ _
    have oE:Out bd (bd+1) XWDPB XE:=by rw[<-hXE];exact z6a _ _ _ _ _ _
    unfold dS at hXE;rw[hXE];clear hXE y0 y1 y2 y3 y4 y5 y6 y7 y8 y9 ya yb yf;refine hK.out _ _ ?hS32 (fun hHeld2=>?rest32)
    case hS32=>exact⟨oE.cell hHeld.1 (.inl (by have:=HB.out;omega)),oE.cell hHeld.2.1 (.inl (by have:=HB.out;omega)),oE.cell hHeld.2.2.1 (.inl (by have:=HB.out;omega)),oE.cell hHeld.2.2.2 (.inl (by have:=HB.out;omega))⟩
    clear hK KK;replace hHeld:=hHeld2;clear hHeld2;refine dn ?_;clear hHeld;have uB:∀ g,(Value.slice ob mb cb).ownBlock=some g->g ≠ bd:=fun g hg=>by have:=dB g hg;omega
    refine⟨gw,cw,gp,cp,ob,mb,cb,bd,rfl,⟨?_,?_,?_,wP,bB⟩,fE,nD,by omega,by omega,uB,O1.past oE (by have:=HB.out;omega)⟩
    ·exact J0 fW fun g o hg _ hh=>oE.heap hh (by
      have e:gw=g:=by simpa [Value.ownBlock] using hg
      omega)
    ·exact J0 fP fun g o hg _ hh=>oE.heap hh (by
      have e:gp=g:=by simpa [Value.ownBlock] using hg
      omega)
    ·show XE.ownsRow _ _ _ _ _ _
     rw[hmb];exact J0 fB fun g o hg _ hh=>oE.heap hh (by have:=dB g hg;omega)
  ·simp only[xa,xb,xc];go_simp;obtain⟨bd,hbd⟩:∃ b,Z.heap.size=b:=⟨_,rfl⟩
   have nD:B<=bd:=by have:=OZ.size;have:=HB.out;omega
   obtain⟨XD,hW⟩:∃ W,Z.alloc (.cells #[.slice none 0 0,.slice none 0 0,.slice none 0 0,.int .i64 0,.int .i64 0,.int .i64 0,.int .i64 0,.int .i64 0,.int .i64 0,.int .i64 0,.int .i64 0,.int .i64 0] 81)=W:=⟨_,rfl⟩
   have o1:Out 0 0 Z XD:=by rw[<-hW];exact(Out.refl 0 0 _).alloc _
   have fD:XD.heap[bd]? = some (.cells #[.slice none 0 0,.slice none 0 0,.slice none 0 0,.int .i64 0,.int .i64 0,.int .i64 0,.int .i64 0,.int .i64 0,.int .i64 0,.int .i64 0,.int .i64 0,.int .i64 0] 81):=by rw[<-hW,<-hbd];exact heap_alloc_new _ _
   have zD:bd<XD.heap.size:=Q4 fD;(try rw[hW]);(try rw[hbd]);have O2:Out 0 0 W0 XD:=OZ.trans o1;(try clear O1);have O1:=O2;clear O2;clear hW hbd;refine hK.out _ _ ?hS33 (fun hHeld2=>?rest33)
   case hS33=>exact⟨o1.cell hHeld.1 z0,o1.cell hHeld.2.1 z0,o1.cell hHeld.2.2.1 z0,o1.cell hHeld.2.2.2 z0⟩
   clear o1;clear hK KK;replace hHeld:=hHeld2;clear hHeld2;refine rd1 4 fun KK hK=>?_
   refine z8i (by rfl) _ _ (by rfl) (by rfl) (s 1) (64*n) ca r.W (by rfl) (HCl.out _ O1) (by have:=HB.out;omega) (by have:=HB.out;omega) ?_;intro gw cw XDW fW o1;have k2:=(Z8 fW gw rfl).1;have zW:=(Z8 fW gw rfl).2;replace fW:=z5x (base':=B) fW (by have:=O1.size;have:=HB.out;omega);have bW:B<=gw:=by have:=O1.size;have:=HB.out;omega
   have dW:bd<gw:=Nat.lt_of_lt_of_le zD k2;replace fD:=o1.heap fD z0;replace zD:=Nat.lt_of_lt_of_le zD o1.size;have O2:Out 0 0 W0 XDW:=O1.trans o1;(try clear O1);have O1:=O2;clear O2;clear k2;refine hK.out _ _ ?hS34 (fun hHeld2=>?rest34)
   case hS34=>exact⟨o1.cell hHeld.1 z0,o1.cell hHeld.2.1 z0,o1.cell hHeld.2.2.1 z0,o1.cell hHeld.2.2.2 z0⟩
   clear o1;clear hK KK;replace hHeld:=hHeld2;clear hHeld2;refine rd1 12 fun KK hK=>?_
   refine z7q (by rfl) _ _ (by rfl) (by rfl) 130 (s 2) (s 3) n ct r.S (by rfl) (HAl.out _ O1) ?_;intro gp cp XDWP fP0 o1;have bP:XDW.heap.size<=gp:=(Z8 fP0 gp rfl).1;have zP:gp<XDWP.heap.size:=(Z8 fP0 gp rfl).2;have wP:gw<gp:=Nat.lt_of_lt_of_le zW bP;have dP:bd<gp:=Nat.lt_of_lt_of_le zD bP;have fP:=z5x (base':=B) fP0 (by have:=O1.size;have:=HB.out;omega);clear fP0;replace fD:=o1.heap fD z0;replace zD:=Nat.lt_of_lt_of_le zD o1.size;replace fW:=z0q fW o1 (Nat.zero_le _);replace zW:=Nat.lt_of_lt_of_le zW o1.size;have O2:Out 0 0 W0 XDWP:=O1.trans o1;(try clear O1);have O1:=O2;clear O2;clear bP;refine hK.out _ _ ?hS35 (fun hHeld2=>?rest35)
   case hS35=>exact⟨o1.cell hHeld.1 z0,o1.cell hHeld.2.1 z0,o1.cell hHeld.2.2.1 z0,o1.cell hHeld.2.2.2 z0⟩
   clear o1;clear hK KK;replace hHeld:=hHeld2;clear hHeld2;refine rd1 14 fun KK hK=>?_
   simp only[xa,xb,xc];go_simp;refine(HBl.out _ O1).mono ?_;rintro e XDWPB ⟨vb,rfl,fB0,o1⟩;have bB:∀ g,vb.ownBlock=some g->gp<g:=fun g hg=>Nat.lt_of_lt_of_le zP (Z8 fB0 g hg).1
   have dB:∀ g,vb.ownBlock=some g->bd<g:=fun g hg=>Nat.lt_of_lt_of_le zD (Z8 fB0 g hg).1
   have fB:=z5x (base':=B) fB0 (by have:=O1.size;have:=HB.out;omega);clear fB0;obtain⟨ob,cb,rfl⟩:=z0s fB;obtain⟨mb,hmb⟩:∃ m,(J5 r (64*n)).length=m:=⟨_,rfl⟩
   rw[hmb] at bB fB ⊢;rw[hmb] at dB;replace fD:=o1.heap fD z0;replace zD:=Nat.lt_of_lt_of_le zD o1.size;replace fW:=z0q fW o1 (Nat.zero_le _);replace zW:=Nat.lt_of_lt_of_le zW o1.size;replace fP:=z0q fP o1 (Nat.zero_le _);replace zP:=Nat.lt_of_lt_of_le zP o1.size;have O2:Out 0 0 W0 XDWPB:=O1.trans o1;(try clear O1);have O1:=O2;clear O2;refine hK.out _ _ ?hS36 (fun hHeld2=>?rest36)
   case hS36=>exact⟨o1.cell hHeld.1 z0,o1.cell hHeld.2.1 z0,o1.cell hHeld.2.2.1 z0,o1.cell hHeld.2.2.2 z0⟩
   clear o1;clear hK KK;replace hHeld:=hHeld2;clear hHeld2;refine tk 19 ?_;refine rd1 21 fun KK hK=>?_
   simp only[xa,xb,xc];have hf:=z0g fD;obtain⟨y0,y1,y2,y3,y4,y5,y6,y7,y8,y9,ya,yb,yf⟩:=hf;go_simp;obtain⟨XE,hXE⟩:∃ W,dS XDWPB bd (.slice (some ⟨gw,0,none⟩) (64*n) cw) (.slice (some ⟨gp,0,none⟩) n cp) (.slice ob mb cb) (.int .i64 r.last)=W:=⟨_,rfl⟩
   have fE:XE.heap[bd]? = some (.cells #[.slice (some ⟨gw,0,none⟩) (64*n) cw,.slice (some ⟨gp,0,none⟩) n cp,.slice ob mb cb,.int .i64 0,.int .i64 0,.int .i64 0,.int .i64 0,.int .i64 0,.int .i64 0,.int .i64 0,.int .i64 0,.int .i64 r.last] 81 (0,0)):=by rw[<-hXE];exact z2w fD _ _ _ _
   have oE:Out bd (bd+1) XDWPB XE:=by rw[<-hXE];exact z6a _ _ _ _ _ _
   unfold dS at hXE;rw[hXE];clear hXE y0 y1 y2 y3 y4 y5 y6 y7 y8 y9 ya yb yf;refine hK.out _ _ ?hS38 (fun hHeld2=>?rest38)
   case hS38=>exact⟨oE.cell hHeld.1 (.inl (by have:=HB.out;omega)),oE.cell hHeld.2.1 (.inl (by have:=HB.out;omega)),oE.cell hHeld.2.2.1 (.inl (by have:=HB.out;omega)),oE.cell hHeld.2.2.2 (.inl (by have:=HB.out;omega))⟩
   clear hK KK;replace hHeld:=hHeld2;clear hHeld2;refine dn ?_;clear hHeld;have uB:∀ g,(Value.slice ob mb cb).ownBlock=some g->g ≠ bd:=fun g hg=>by have:=dB g hg;omega
   refine⟨gw,cw,gp,cp,ob,mb,cb,bd,rfl,⟨?_,?_,?_,wP,bB⟩,fE,nD,by omega,by omega,uB,O1.past oE (by have:=HB.out;omega)⟩
   ·exact J0 fW fun g o hg _ hh=>oE.heap hh (by
     have e:gw=g:=by simpa [Value.ownBlock] using hg
     omega)
   ·exact J0 fP fun g o hg _ hh=>oE.heap hh (by
     have e:gp=g:=by simpa [Value.ownBlock] using hg
     omega)
   ·show XE.ownsRow _ _ _ _ _ _
    rw[hmb];exact J0 fB fun g o hg _ hh=>oE.heap hh (by have:=dB g hg;omega)
 ·rintro a W ⟨gw,cw,gp,cp,ob,mb,cb,bd,rfl,l1,l2,l3,l4,l5,l6,l7⟩;have HL:=Z0 (And.intro l1 (And.intro l3 (And.intro l4 (And.intro l5 (And.intro l6 l7)))));have HE:=Z0 l2;clear l1 l2 l3 l4 l5 l6 l7 d0 d1 d2 d5 HCl HAl HBl;go_wp2_with fail;go_loopw [4] (fun u wr=>∃ i:Nat,u=.int .i64 (i:Int)/\i<=8/\Row wr bd 81 12 (hdC n r (.slice (some ⟨gw,0,none⟩) (64*n) cw) (.slice (some ⟨gp,0,none⟩) n cp) (.slice ob mb cb) i)/\Out bd (bd+1) W wr) (fun u _=>(8-intOf u).toNat)
  case atStart=>
   refine⟨0,rfl,by omega,⟨_,HE.out,Nat.le_refl _,fun j hj=>?_⟩,Out.refl _ _ _⟩;have:j=0\/j=1\/j=2\/j=3\/j=4\/j=5\/j=6\/j=7\/j=8\/j=9\/j=10\/j=11:=by omega
   rcases this with rfl | rfl | rfl | rfl | rfl | rfl | rfl | rfl | rfl | rfl | rfl | rfl <;> rfl
  case round=>
   obtain⟨i,rfl,i8,r1,r2⟩:=hrel;have hbd:=HL.out.2.1;have hbb:=HB.out;have hwr:RfAt wr lo hi s n ca co st:=(HRQ.out.quiet HL.out.2.2.2.2.2).kept r2 (.inl (by omega));by_cases hlt:i<8
   ·have k0:(0:Int)<=(i:Int):=by omega
    have k1:(i:Int)<8:=by omega
    have hX:=G0 hwr hlt (f:=0) (Nat.zero_le _);rw[show ((0:Nat):Int)=0 from rfl,show nf n st (i:Int) 0=nxr (r.F i) (64*n) 0 from by rw[HRr0.out];rfl] at hX;have HX:=Z0 hX;clear hX;have d0:wr.cell? ⟨bd,3+i,none⟩=some (.int .i64 0):=by
     have:=r1.cell (i:=3+i) (by omega);unfold hdC at this;rw[if_neg (by omega),if_neg (by omega),if_neg (by omega),if_neg (by omega),if_neg (by omega)] at this;exact this
    have d1:=Row.frozen r1 (3+i);have HRr:=Z0 (And.intro r1 r2);clear r1 r2 hwr hbd hbb;go_wp2_with (go_at_call 59;refine Z5 HX.out ?_);go_roundw
    case rel=>
     refine⟨i+1,by go_num,by omega,(HRr.out.1.set (3+i) _).congr fun j hj=>?_,(HRr.out.2.setCell (p:=⟨bd,3+i,none⟩) z1 _)⟩;unfold hdC;by_cases e:j=3+i
     ·rw[if_pos e,if_neg (by omega),if_neg (by omega),if_neg (by omega),if_neg (by omega),if_pos (by omega),show j-3=i from by omega]
     ·rw[if_neg e];by_cases f0:j=0
      ·rw[if_pos f0,if_pos f0]
      ·rw[if_neg f0,if_neg f0];by_cases f1:j=1
       ·rw[if_pos f1,if_pos f1]
       ·rw[if_neg f1,if_neg f1];by_cases f2:j=2
        ·rw[if_pos f2,if_pos f2]
        ·rw[if_neg f2,if_neg f2];by_cases f3:j=11
         ·rw[if_pos f3,if_pos f3]
         ·rw[if_neg f3,if_neg f3];by_cases f4:j<3+i
          ·rw[if_pos f4,if_pos (by omega)]
          ·rw[if_neg f4,if_neg (by omega)]
    case measure=>simp[intOf];omega
   ·have e:i=8:=by omega
    subst e;have y0:wr.cell? ⟨bd,0,none⟩=some (.slice (some ⟨gw,0,none⟩) (64*n) cw):=r1.cell (i:=0) (by omega);have y1:wr.cell? ⟨bd,1,none⟩=some (.slice (some ⟨gp,0,none⟩) n cp):=r1.cell (i:=1) (by omega);have y2:wr.cell? ⟨bd,2,none⟩=some (.slice ob mb cb):=r1.cell (i:=2) (by omega);have y3:wr.cell? ⟨bd,3,none⟩=some (.int .i64 (nxr (r.F 0) (64*n) 0)):=r1.cell (i:=3) (by omega);have y4:wr.cell? ⟨bd,4,none⟩=some (.int .i64 (nxr (r.F 1) (64*n) 0)):=r1.cell (i:=4) (by omega);have y5:wr.cell? ⟨bd,5,none⟩=some (.int .i64 (nxr (r.F 2) (64*n) 0)):=r1.cell (i:=5) (by omega);have y6:wr.cell? ⟨bd,6,none⟩=some (.int .i64 (nxr (r.F 3) (64*n) 0)):=r1.cell (i:=6) (by omega);have y7:wr.cell? ⟨bd,7,none⟩=some (.int .i64 (nxr (r.F 4) (64*n) 0)):=r1.cell (i:=7) (by omega);have y8:wr.cell? ⟨bd,8,none⟩=some (.int .i64 (nxr (r.F 5) (64*n) 0)):=r1.cell (i:=8) (by omega);have y9:wr.cell? ⟨bd,9,none⟩=some (.int .i64 (nxr (r.F 6) (64*n) 0)):=r1.cell (i:=9) (by omega);have y10:wr.cell? ⟨bd,10,none⟩=some (.int .i64 (nxr (r.F 7) (64*n) 0)):=r1.cell (i:=10) (by omega);have y11:wr.cell? ⟨bd,11,none⟩=some (.int .i64 r.last):=r1.cell (i:=11) (by omega);have hER:wr.heap[R]? = some (.cells #[.slice none 0 0,.slice none 0 0,.slice none 0 0,.int .i64 0,.int .i64 0,.int .i64 0,.int .i64 0,.int .i64 0,.int .i64 0,.int .i64 0,.int .i64 0,.int .i64 0] 81 (0,0)):=r2.heap (HL.out.2.2.2.2.2.heap HE0.out z0) (.inl (by omega));obtain⟨x0,x1,x2,x3,x4,x5,x6,x7,x8,x9,xa,xb,xf⟩:=z0g hER;have HER:=Z0 hER;have HR2:=Z0 r2;clear hlt i8 hER r1 r2 hwr hbd hbb;go_wp2;have oF:=j6r wr R (.slice (some ⟨gw,0,none⟩) (64*n) cw) (.slice (some ⟨gp,0,none⟩) n cp) (.slice ob mb cb) (.int .i64 (nxr (r.F 0) (64*n) 0)) (.int .i64 (nxr (r.F 1) (64*n) 0)) (.int .i64 (nxr (r.F 2) (64*n) 0)) (.int .i64 (nxr (r.F 3) (64*n) 0)) (.int .i64 (nxr (r.F 4) (64*n) 0)) (.int .i64 (nxr (r.F 5) (64*n) 0)) (.int .i64 (nxr (r.F 6) (64*n) 0)) (.int .i64 (nxr (r.F 7) (64*n) 0)) (.int .i64 r.last);have hrw:=HRw.out;have hB:=HB.out;have hL:=HL.out;refine j7f Tryz.results44 rfl rfl (j1w HER.out (.slice (some ⟨gw,0,none⟩) (64*n) cw) (.slice (some ⟨gp,0,none⟩) n cp) (.slice ob mb cb) (.int .i64 (nxr (r.F 0) (64*n) 0)) (.int .i64 (nxr (r.F 1) (64*n) 0)) (.int .i64 (nxr (r.F 2) (64*n) 0)) (.int .i64 (nxr (r.F 3) (64*n) 0)) (.int .i64 (nxr (r.F 4) (64*n) 0)) (.int .i64 (nxr (r.F 5) (64*n) 0)) (.int .i64 (nxr (r.F 6) (64*n) 0)) (.int .i64 (nxr (r.F 7) (64*n) 0)) (.int .i64 r.last)) ?_;have oW:Out 0 0 W0 wr:=hL.2.2.2.2.2.past HR2.out (by omega);have oR:Out 0 0 w (dT wr R (.slice (some ⟨gw,0,none⟩) (64*n) cw) (.slice (some ⟨gp,0,none⟩) n cp) (.slice ob mb cb) (.int .i64 (nxr (r.F 0) (64*n) 0)) (.int .i64 (nxr (r.F 1) (64*n) 0)) (.int .i64 (nxr (r.F 2) (64*n) 0)) (.int .i64 (nxr (r.F 3) (64*n) 0)) (.int .i64 (nxr (r.F 4) (64*n) 0)) (.int .i64 (nxr (r.F 5) (64*n) 0)) (.int .i64 (nxr (r.F 6) (64*n) 0)) (.int .i64 (nxr (r.F 7) (64*n) 0)) (.int .i64 r.last)):=(HO0.out.trans oW).past oF (by omega);refine⟨gw,cw,gp,cp,_,rfl,⟨?_,?_,?_,hL.1.2.2.2⟩,oR⟩
    ·exact z5x (J0 hL.1.1 fun g o hg hbs hh=>oF.heap (HR2.out.heap hh (by
      have e:gw=g:=by simpa [Value.ownBlock] using hg
      omega)) (by omega)) (by omega)
    ·exact z5x (J0 hL.1.2.1 fun g o hg hbs hh=>oF.heap (HR2.out.heap hh (by
      have e:gp=g:=by simpa [Value.ownBlock] using hg
      omega)) (by omega)) (by omega)
    ·exact z5x (J0 hL.1.2.2.1 fun g o hg hbs hh=>oF.heap (HR2.out.heap hh (by have e:=hL.2.2.2.2.1 g hg;omega)) (by omega)) (by omega)
end
end Go.Proofs.YtjbbkeoolodeaabGreatDoor
