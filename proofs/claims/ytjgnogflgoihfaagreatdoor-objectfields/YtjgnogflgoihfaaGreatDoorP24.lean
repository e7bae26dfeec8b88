import Derived.Test.YtjgnogflgoihfaaGreatDoorP23
set_option linter.unusedSimpArgs false
set_option linter.unusedVariables false
set_option maxHeartbeats 16000000
set_option maxRecDepth 100000
namespace Go.Proofs.YtjgnogflgoihfaaGreatDoor
open Go.RowKit
theorem q3c {ops:Array Oper} {o:Oper} {ac:Go.Act} {w:World} {K:Go.Act->World->Prop} {Q:Exit->Go.Act->World->Prop} {E:Prop} (hgd:o.guard=none) (sx xx:Operand)
  (ho:o.op=.call { callee:=.builtin .append,args:=#[sx,xx],argTypes:=#[70,70] }) (hs:ac.eval sx=.slice none 0 0)
  (bw k cap:Nat) (f:Nat->Int) (hx:ac.eval xx=.slice (some ⟨bw,0,none⟩) k cap) (hr:Row w bw 3 k (fun i=>.int .i64 (f i))) (k1:1<=k) (k2:k<=262144)
  (h:∀ g cT w',w'.ownsRow w.heap.size 3 1 (.slice (some ⟨g,0,none⟩) k cT) k ((List.range k).map fun i=>.int .i64 (f i))->Out 0 0 w w'->K (ac.put o.dst (.slice (some ⟨g,0,none⟩) k cT)) w') :
  if Region.wanted o (yielded ops ac.tmps)=true then Oper.wp Tryz.prog o ac w K Q else E:=by
 have hw:Region.wanted o (yielded ops ac.tmps)=true:=by simp[Region.wanted,hgd]
 rw[if_pos hw];obtain⟨i0,mW,iI,hz1,iH⟩:=z0c q9j;obtain⟨v2,w',jP,dM,aV,jS⟩:=run_append_own (P:=Tryz.prog) w w.heap.size 70 o.type 3 i0 (.int .i64 0) 1 8 Tryz.underlying70 mW iI hz1 iH rfl (by decide) (.slice none 0 0) 0 [] (World.ownsRow_nil _ _ _ 1) ⟨bw,0,none⟩ k cap ((List.range k).map fun i=>.int .i64 (f i)) (by simp) (by
   intro j u hj;have hjk:j<k:=by have:=(List.getElem?_eq_some_iff.1 hj).1;simpa using this
   simp[hjk] at hj;subst hj;rw[Addr.add_lit,Nat.zero_add];exact hr.cell hjk) (by intro u hu;simp at hu;obtain⟨i,_,rfl⟩:=hu;rfl) (by unfold maxLen;omega) (by omega) (Nat.le_refl _)
 rw[Nat.zero_add,List.nil_append] at dM;obtain⟨g4,cap4,rfl,hg4,_⟩:=dM.form (by omega);unfold Oper.wp;simp[execOp,ho,resolve,invoke,builtin,hs,hx,jP,Result.andThen];exact h g4 cap4 w' dM ⟨aV.os,aV.tape,aV.output,aV.size,fun j h1 h2=>aV.block j h1 (by simp[Value.ownBlock])⟩
theorem z8k {ops:Array Oper} {o:Oper} {ac:Go.Act} {w:World} {K:Go.Act->World->Prop} {Q:Exit->Go.Act->World->Prop} {E:Prop} (hgd:o.guard=none) (sx xx:Operand)
  (ho:o.op=.call { callee:=.builtin .append,args:=#[sx,xx],argTypes:=#[71,71] }) (hs:ac.eval sx=.slice none 0 0)
  (T:TypeId) (b bw n cap:Nat) (S:Nat->Int × Int × Int) (hx:ac.eval xx=.slice (some ⟨bw,0,none⟩) n cap) (hr:TblAt T w b bw n S)
  (h:∀ g cT w',ListIs w' w.heap.size (.slice (some ⟨g,0,none⟩) n cT) (pgl S n)->Out 0 0 w w'->K (ac.put o.dst (.slice (some ⟨g,0,none⟩) n cT)) w') :
  if Region.wanted o (yielded ops ac.tmps)=true then Oper.wp Tryz.prog o ac w K Q else E:=by
 have hw:Region.wanted o (yielded ops ac.tmps)=true:=by simp[Region.wanted,hgd]
 rw[if_pos hw];obtain⟨i0,mW,iI,hz1,iH⟩:=z0c z5m;have hN:=hr.nums;obtain⟨v2,w',jP,dM,aV,jS⟩:=run_append_own (P:=Tryz.prog) w w.heap.size 71 o.type 189 i0 (.agg #[.int .i64 0,.int .i64 0,.int .i64 0]) 3 24 Tryz.underlying71 mW iI hz1 iH rfl (by decide) (.slice none 0 0) 0 [] (World.ownsRow_nil _ _ _ 3) ⟨bw,0,none⟩ n cap (pgs (pgl S n)) (by rw[z6r,z2n]) (by
   intro j u hj;have hjk:j<n*3:=by
    have:=(List.getElem?_eq_some_iff.1 hj).1;rw[z6r,z2n] at this;exact this
   rw[z8b S n hjk] at hj;cases hj;rw[Addr.add_lit,Nat.zero_add];exact Row.cell hr.row hjk) (q7p _) (by unfold maxLen;omega) (by omega) (Nat.le_refl _)
 rw[Nat.zero_add,List.nil_append] at dM;obtain⟨g4,cap4,rfl,hg4,_⟩:=dM.form (by omega);unfold Oper.wp;simp[execOp,ho,resolve,invoke,builtin,hs,hx,jP,Result.andThen];exact h g4 cap4 w' (by show World.ownsRow _ _ _ _ _ _ _;rw[z2n];exact dM) ⟨aV.os,aV.tape,aV.output,aV.size,fun j h1 h2=>aV.block j h1 (by simp[Value.ownBlock])⟩
section
variable {w:World} {lo hi n ca co:Nat} {s:Nat->Nat} {st:Sp}
theorem q7t (h:RfAt w lo hi s n ca co st) (hI:Inv n st) {r:Raw} (hr:r=Q6 n st) :
  Kz 31 #[Pq (s 0)] w fun e w'=>∃ gw cw gp cp vb,e=.returned (.agg #[Sz gw (64*n) cw,Sz gp n cp,vb,Iz (nxr (r.F 0) (64*n) 0),Iz (nxr (r.F 1) (64*n) 0),Iz (nxr (r.F 2) (64*n) 0),Iz (nxr (r.F 3) (64*n) 0),Iz (nxr (r.F 4) (64*n) 0),Iz (nxr (r.F 5) (64*n) 0),Iz (nxr (r.F 6) (64*n) 0),Iz (nxr (r.F 7) (64*n) 0),Iz r.last])/\j7z w' w.heap.size n r gw cw gp cp vb/\Out 0 0 w w':=by
 have kQ:=Q3 h;have HIn:=Q3 hI;have HRr0:=Q3 hr;clear h hI hr;go_enter Tryz.func31,Tryz.ntmps31
 go_wp2_with fail;obtain⟨W0,jM⟩:∃ W0,w.alloc (.cells #[.slice none 0 0,.slice none 0 0,.slice none 0 0,Iz 0,Iz 0,Iz 0,Iz 0,Iz 0,Iz 0,Iz 0,Iz 0,Iz 0] 74)=W0:=⟨_,rfl⟩
 obtain⟨B,hB⟩:∃ B,w.heap.size+1=B:=⟨_,rfl⟩
 have HO0:Hid (Out 0 0 w W0):=by rw[<-jM];exact(Out.refl 0 0 w).alloc _
 have HE0:Hid (W0.heap[w.heap.size]? = some (.cells #[.slice none 0 0,.slice none 0 0,.slice none 0 0,Iz 0,Iz 0,Iz 0,Iz 0,Iz 0,Iz 0,Iz 0,Iz 0,Iz 0] 74 (0,0))):=by rw[<-jM];exact heap_alloc_new _ _
 have hS0:W0.heap.size=w.heap.size+1:=by rw[<-jM];exact World.size_alloc _ _
 rw[jM];obtain⟨R,hR⟩:∃ R,w.heap.size=R:=⟨_,rfl⟩
 have HRw:=Q3 hR;rw[hR];rw[hR] at HE0 hS0 hB;have HRQ:=Q3 (kQ.out.quiet HO0.out);obtain⟨d0,d1,d3,d5,d4⟩:=HRQ.out.cells;obtain⟨ct,d2,_⟩:=HRQ.out.rt.cell;rw[show st.last=r.last from by rw[HRr0.out];rfl] at d5;have HB:Hid (B=W0.heap.size/\B=R+1/\s 0<R/\s 2<R/\hi<=R/\4<=R/\1<=n/\n<=4096):=by
  have h1:=kQ.out.top;have h2:=kQ.out.inn 0 (by omega);have h4:=kQ.out.inn 2 (by omega);have h3:=kQ.out.glob;have h5:=kQ.out.n1;have h6:=kQ.out.n2
  show _/\_
  omega
 have HCl:Hid (∀ W,Out 0 0 W0 W->Row W (s 1) 3 (64*n) (fun i=>Iz (r.W i))):=fun W o=>by rw[HRr0.out];exact(HRQ.out.quiet o).rw
 have gI:Hid (∀ W,Out 0 0 W0 W->TblAt 144 W (s 2) (s 3) n r.S):=fun W o=>by rw[HRr0.out];exact(HRQ.out.quiet o).rt
 have HBl:Hid (∀ W,Out 0 0 W0 W->Kz 20 #[Pq (s 0)] W fun e w'=>∃ v,e=.returned v/\F7 w' W.heap.size v (K4 r (64*n))/\Out 0 0 W w'):=fun W o=>by rw[HRr0.out];exact z3g (HRQ.out.quiet o) HIn.out
 clear jM hB hR hS0 d3 d4;refine q8s (Post:=fun a W=>∃ gw cw gp cp ob mb cb bd,a={ tmps:=#[Pq (s 0),undef,Pq R,Pq bd,undef,Pq (s 0),Pq (s 0),Pq (s 0),.slice (some ⟨s 1,0,none⟩) (64*n) ca,Sz gw (64*n) cw,Pq (s 0),Pq (s 0),.pointer (some ⟨s 0,1,none⟩),Pq (s 2),Pq (s 2),Pq (s 2),.slice (some ⟨s 3,0,none⟩) n ct,Sz gp n cp,Pq (s 0),.slice ob mb cb,Pq (s 0),Pq (s 0),.pointer (some ⟨s 0,3,none⟩),Iz r.last,.agg #[Sz gw (64*n) cw,Sz gp n cp,.slice ob mb cb,Iz 0,Iz 0,Iz 0,Iz 0,Iz 0,Iz 0,Iz 0,Iz 0,Iz r.last],undef,undef,undef,undef,undef,undef,undef,undef,undef,undef,undef],defers:=[] } ∧
  j7z W B n r gw cw gp cp (.slice ob mb cb)/\W.heap[bd]? = some (.cells #[Sz gw (64*n) cw,Sz gp n cp,.slice ob mb cb,Iz 0,Iz 0,Iz 0,Iz 0,Iz 0,Iz 0,Iz 0,Iz 0,Iz r.last] 74 (0,0))/\B<=bd/\gw ≠ bd/\gp ≠ bd/\(∀ g,(Value.slice ob mb cb).ownBlock=some g->g ≠ bd)/\Out 0 0 W0 W) ?_ ?_
 ·refine wp_region_held_drew (S:=fun w'=>cq w' (s 0) 0=some (.slice (some ⟨s 1,0,none⟩) (64*n) ca)/\cq w' (s 0) 1=some (Pq (s 2))/\cq w' (s 2) 0=some (.slice (some ⟨s 3,0,none⟩) n ct)/\cq w' (s 0) 3=some (Iz r.last)) (by kernel_rfl) ?hS1 (fun aB=>?rest1)
  case hS1=>exact⟨d0,d1,d2,d5⟩
  obtain⟨Z,hZ⟩:∃ Z,W0.drew=Z:=⟨_,rfl⟩
  have OZ:Out 0 0 W0 Z:=by rw[<-hZ];exact(Out.refl 0 0 W0).drew
  rw[hZ] at aB ⊢;clear hZ;refine tk 0 ?_;refine tk 1 ?_;refine tk 2 ?_;refine tk 3 ?_;refine tk 5 ?_;refine tk 6 ?_;refine tk 7 ?_;refine tk 8 ?_;refine tk 9 ?_;refine tk 10 ?_;refine tk 11 ?_;refine tk 13 ?_;refine tk 15 ?_;refine tk 16 ?_;refine tk 17 ?_;refine tk 18 ?_;refine rd2 4 20 (fun KK hK=>?_) fun KK hK=>?_
  ·refine q3c (by rfl) _ _ (by rfl) (by rfl) (s 1) (64*n) ca r.W (by rfl) (HCl.out _ OZ) (by have:=HB.out;omega) (by have:=HB.out;omega) ?_;intro gw cw XW fW o1;have k2:=(X0 fW gw rfl).1;have zW:=(X0 fW gw rfl).2;replace fW:=z7h (base':=B) fW (by have:=OZ.size;have:=HB.out;omega);have bW:B<=gw:=by have:=OZ.size;have:=HB.out;omega
   have O2:Out 0 0 W0 XW:=OZ.trans o1;have O1:=O2;clear O2 k2;refine hK.out _ _ ⟨o1.cell aB.1 z0,o1.cell aB.2.1 z0,o1.cell aB.2.2.1 z0,o1.cell aB.2.2.2 z0⟩ fun aB=>?_
   clear o1 hK KK;refine rd2 12 20 (fun KK hK=>?_) fun KK hK=>?_
   ·refine z8k (by rfl) _ _ (by rfl) (by rfl) 144 (s 2) (s 3) n ct r.S (by rfl) (gI.out _ O1) ?_;intro gp cp XWP jW o1;have bP:XW.heap.size<=gp:=(X0 jW gp rfl).1;have zP:gp<XWP.heap.size:=(X0 jW gp rfl).2;have wP:gw<gp:=Nat.lt_of_lt_of_le zW bP;have fP:=z7h (base':=B) jW (by have:=O1.size;have:=HB.out;omega);clear jW;replace fW:=z2m fW o1 (Nat.zero_le _);replace zW:=Nat.lt_of_lt_of_le zW o1.size;have O2:Out 0 0 W0 XWP:=O1.trans o1;have O1:=O2;clear O2 bP;refine hK.out _ _ ⟨o1.cell aB.1 z0,o1.cell aB.2.1 z0,o1.cell aB.2.2.1 z0,o1.cell aB.2.2.2 z0⟩ fun aB=>?_
    clear o1 hK KK;refine rd2 14 20 (fun KK hK=>?_) fun KK hK=>?_
    ·go_simp;refine(HBl.out _ O1).mono ?_;rintro e XWPB ⟨vb,rfl,iE,o1⟩;have bB:∀ g,vb.ownBlock=some g->gp<g:=fun g hg=>Nat.lt_of_lt_of_le zP (X0 iE g hg).1
     have fB:=z7h (base':=B) iE (by have:=O1.size;have:=HB.out;omega);clear iE;obtain⟨ob,cb,rfl⟩:=z2h fB;obtain⟨mb,jT⟩:∃ m,(K4 r (64*n)).length=m:=⟨_,rfl⟩
     rw[jT] at bB fB ⊢;replace fW:=z2m fW o1 (Nat.zero_le _);replace zW:=Nat.lt_of_lt_of_le zW o1.size;replace fP:=z2m fP o1 (Nat.zero_le _);replace zP:=Nat.lt_of_lt_of_le zP o1.size;have O2:Out 0 0 W0 XWPB:=O1.trans o1;have O1:=O2;clear O2;refine hK.out _ _ ⟨o1.cell aB.1 z0,o1.cell aB.2.1 z0,o1.cell aB.2.2.1 z0,o1.cell aB.2.2.2 z0⟩ fun aB=>?_
     clear o1 hK KK;refine tk 19 ?_;refine rd1 20 fun KK hK=>?_
     go_simp;obtain⟨bd,eO⟩:∃ b,XWPB.heap.size=b:=⟨_,rfl⟩
     have nD:B<=bd:=by have:=O1.size;have:=HB.out;omega
     obtain⟨gC,hW⟩:∃ W,XWPB.alloc (.cells #[.slice none 0 0,.slice none 0 0,.slice none 0 0,Iz 0,Iz 0,Iz 0,Iz 0,Iz 0,Iz 0,Iz 0,Iz 0,Iz 0] 74)=W:=⟨_,rfl⟩
     have o1:Out 0 0 XWPB gC:=by rw[<-hW];exact(Out.refl 0 0 _).alloc _
     have fD:gC.heap[bd]? = some (.cells #[.slice none 0 0,.slice none 0 0,.slice none 0 0,Iz 0,Iz 0,Iz 0,Iz 0,Iz 0,Iz 0,Iz 0,Iz 0,Iz 0] 74):=by rw[<-hW,<-eO];exact heap_alloc_new _ _
     have zD:bd<gC.heap.size:=Q7 fD;have dW:gw<bd:=by rw[<-eO];exact zW
     have dP:gp<bd:=by rw[<-eO];exact zP
     have dB:∀ g,(Value.slice ob mb cb).ownBlock=some g->g<bd:=fun g hg=>by rw[<-eO];exact(X0 fB g hg).2
     replace fW:=z2m fW o1 (Nat.zero_le _);replace zW:=Nat.lt_of_lt_of_le zW o1.size;replace fP:=z2m fP o1 (Nat.zero_le _);replace zP:=Nat.lt_of_lt_of_le zP o1.size;replace fB:=z2m fB o1 (Nat.zero_le _);(try rw[hW]);(try rw[eO]);have O2:Out 0 0 W0 gC:=O1.trans o1;have O1:=O2;clear O2 hW eO;refine hK.out _ _ ⟨o1.cell aB.1 z0,o1.cell aB.2.1 z0,o1.cell aB.2.2.1 z0,o1.cell aB.2.2.2 z0⟩ fun aB=>?_
     clear o1 hK KK;refine rd1 21 fun KK hK=>?_
     simp only[xa,xb,xc];have hf:=z1e fD;obtain⟨y0,y1,y2,y3,y4,y5,y6,y7,y8,y9,ya,yb,yf⟩:=hf;go_simp;obtain⟨XE,eX⟩:∃ W,dS gC bd (Sz gw (64*n) cw) (Sz gp n cp) (.slice ob mb cb) (Iz r.last)=W:=⟨_,rfl⟩
     have fE:XE.heap[bd]? = some (.cells #[Sz gw (64*n) cw,Sz gp n cp,.slice ob mb cb,Iz 0,Iz 0,Iz 0,Iz 0,Iz 0,Iz 0,Iz 0,Iz 0,Iz r.last] 74 (0,0)):=by rw[<-eX];exact z3w fD _ _ _ _
     have oE:Out bd (bd+1) gC XE:=by rw[<-eX];exact z7b _ _ _ _ _ _
     unfold dS at eX;rw[eX];clear eX y0 y1 y2 y3 y4 y5 y6 y7 y8 y9 ya yb yf;refine hK.out _ _ ⟨oE.cell aB.1 (.inl (by have:=HB.out;omega)),oE.cell aB.2.1 (.inl (by have:=HB.out;omega)),oE.cell aB.2.2.1 (.inl (by have:=HB.out;omega)),oE.cell aB.2.2.2 (.inl (by have:=HB.out;omega))⟩ fun aB=>?_
     clear hK KK;refine dn ?_;clear aB;have uB:∀ g,(Value.slice ob mb cb).ownBlock=some g->g ≠ bd:=fun g hg=>by have:=dB g hg;omega
     refine⟨gw,cw,gp,cp,ob,mb,cb,bd,rfl,⟨?_,?_,?_,wP,bB⟩,fE,nD,by omega,by omega,uB,O1.past oE (by have:=HB.out;omega)⟩
     ·exact W7 fW fun g o hg _ hh=>oE.heap hh (by
       have e:gw=g:=by simpa [Value.ownBlock] using hg
       omega)
     ·exact W7 fP fun g o hg _ hh=>oE.heap hh (by
       have e:gp=g:=by simpa [Value.ownBlock] using hg
       omega)
     ·show XE.ownsRow _ _ _ _ _ _
      rw[jT];exact W7 fB fun g o hg _ hh=>oE.heap hh (by have:=dB g hg;omega)
    ·go_simp;obtain⟨bd,eO⟩:∃ b,XWP.heap.size=b:=⟨_,rfl⟩
     have nD:B<=bd:=by have:=O1.size;have:=HB.out;omega
     obtain⟨pH,hW⟩:∃ W,XWP.alloc (.cells #[.slice none 0 0,.slice none 0 0,.slice none 0 0,Iz 0,Iz 0,Iz 0,Iz 0,Iz 0,Iz 0,Iz 0,Iz 0,Iz 0] 74)=W:=⟨_,rfl⟩
     have o1:Out 0 0 XWP pH:=by rw[<-hW];exact(Out.refl 0 0 _).alloc _
     have fD:pH.heap[bd]? = some (.cells #[.slice none 0 0,.slice none 0 0,.slice none 0 0,Iz 0,Iz 0,Iz 0,Iz 0,Iz 0,Iz 0,Iz 0,Iz 0,Iz 0] 74):=by rw[<-hW,<-eO];exact heap_alloc_new _ _
     have zD:bd<pH.heap.size:=Q7 fD;have dW:gw<bd:=by rw[<-eO];exact zW
     have dP:gp<bd:=by rw[<-eO];exact zP
     replace fW:=z2m fW o1 (Nat.zero_le _);replace zW:=Nat.lt_of_lt_of_le zW o1.size;replace fP:=z2m fP o1 (Nat.zero_le _);replace zP:=Nat.lt_of_lt_of_le zP o1.size;(try rw[hW]);(try rw[eO]);have O2:Out 0 0 W0 pH:=O1.trans o1;have O1:=O2;clear O2 hW eO;refine hK.out _ _ ⟨o1.cell aB.1 z0,o1.cell aB.2.1 z0,o1.cell aB.2.2.1 z0,o1.cell aB.2.2.2 z0⟩ fun aB=>?_
     clear o1 hK KK;refine rd1 14 fun KK hK=>?_
     go_simp;refine(HBl.out _ O1).mono ?_;rintro e XWPDB ⟨vb,rfl,iE,o1⟩;have bB:∀ g,vb.ownBlock=some g->gp<g:=fun g hg=>Nat.lt_of_lt_of_le zP (X0 iE g hg).1
     have dB:∀ g,vb.ownBlock=some g->bd<g:=fun g hg=>Nat.lt_of_lt_of_le zD (X0 iE g hg).1
     have fB:=z7h (base':=B) iE (by have:=O1.size;have:=HB.out;omega);clear iE;obtain⟨ob,cb,rfl⟩:=z2h fB;obtain⟨mb,jT⟩:∃ m,(K4 r (64*n)).length=m:=⟨_,rfl⟩
     rw[jT] at bB fB ⊢;rw[jT] at dB;replace fW:=z2m fW o1 (Nat.zero_le _);replace zW:=Nat.lt_of_lt_of_le zW o1.size;replace fP:=z2m fP o1 (Nat.zero_le _);replace zP:=Nat.lt_of_lt_of_le zP o1.size;replace fD:=o1.heap fD z0;replace zD:=Nat.lt_of_lt_of_le zD o1.size;have O2:Out 0 0 W0 XWPDB:=O1.trans o1;have O1:=O2;clear O2;refine hK.out _ _ ⟨o1.cell aB.1 z0,o1.cell aB.2.1 z0,o1.cell aB.2.2.1 z0,o1.cell aB.2.2.2 z0⟩ fun aB=>?_
     clear o1 hK KK;refine tk 19 ?_;refine rd1 21 fun KK hK=>?_
     simp only[xa,xb,xc];have hf:=z1e fD;obtain⟨y0,y1,y2,y3,y4,y5,y6,y7,y8,y9,ya,yb,yf⟩:=hf;go_simp;obtain⟨XE,eX⟩:∃ W,dS XWPDB bd (Sz gw (64*n) cw) (Sz gp n cp) (.slice ob mb cb) (Iz r.last)=W:=⟨_,rfl⟩
     have fE:XE.heap[bd]? = some (.cells #[Sz gw (64*n) cw,Sz gp n cp,.slice ob mb cb,Iz 0,Iz 0,Iz 0,Iz 0,Iz 0,Iz 0,Iz 0,Iz 0,Iz r.last] 74 (0,0)):=by rw[<-eX];exact z3w fD _ _ _ _
     have oE:Out bd (bd+1) XWPDB XE:=by rw[<-eX];exact z7b _ _ _ _ _ _
     unfold dS at eX;rw[eX];clear eX y0 y1 y2 y3 y4 y5 y6 y7 y8 y9 ya yb yf;refine hK.out _ _ ⟨oE.cell aB.1 (.inl (by have:=HB.out;omega)),oE.cell aB.2.1 (.inl (by have:=HB.out;omega)),oE.cell aB.2.2.1 (.inl (by have:=HB.out;omega)),oE.cell aB.2.2.2 (.inl (by have:=HB.out;omega))⟩ fun aB=>?_
     clear hK KK;refine dn ?_;clear aB;have uB:∀ g,(Value.slice ob mb cb).ownBlock=some g->g ≠ bd:=fun g hg=>by have:=dB g hg;omega
     refine⟨gw,cw,gp,cp,ob,mb,cb,bd,rfl,⟨?_,?_,?_,wP,bB⟩,fE,nD,by omega,by omega,uB,O1.past oE (by have:=HB.out;omega)⟩
     ·exact W7 fW fun g o hg _ hh=>oE.heap hh (by
       have e:gw=g:=by simpa [Value.ownBlock] using hg
       omega)
     ·exact W7 fP fun g o hg _ hh=>oE.heap hh (by
       have e:gp=g:=by simpa [Value.ownBlock] using hg
       omega)
     ·show XE.ownsRow _ _ _ _ _ _
      rw[jT];exact W7 fB fun g o hg _ hh=>oE.heap hh (by have:=dB g hg;omega)
   ·go_simp;obtain⟨bd,eO⟩:∃ b,XW.heap.size=b:=⟨_,rfl⟩
    have nD:B<=bd:=by have:=O1.size;have:=HB.out;omega
    obtain⟨XWD,hW⟩:∃ W,XW.alloc (.cells #[.slice none 0 0,.slice none 0 0,.slice none 0 0,Iz 0,Iz 0,Iz 0,Iz 0,Iz 0,Iz 0,Iz 0,Iz 0,Iz 0] 74)=W:=⟨_,rfl⟩
    have o1:Out 0 0 XW XWD:=by rw[<-hW];exact(Out.refl 0 0 _).alloc _
    have fD:XWD.heap[bd]? = some (.cells #[.slice none 0 0,.slice none 0 0,.slice none 0 0,Iz 0,Iz 0,Iz 0,Iz 0,Iz 0,Iz 0,Iz 0,Iz 0,Iz 0] 74):=by rw[<-hW,<-eO];exact heap_alloc_new _ _
    have zD:bd<XWD.heap.size:=Q7 fD;have dW:gw<bd:=by rw[<-eO];exact zW
    replace fW:=z2m fW o1 (Nat.zero_le _);replace zW:=Nat.lt_of_lt_of_le zW o1.size;(try rw[hW]);(try rw[eO]);have O2:Out 0 0 W0 XWD:=O1.trans o1;have O1:=O2;clear O2 hW eO;refine hK.out _ _ ⟨o1.cell aB.1 z0,o1.cell aB.2.1 z0,o1.cell aB.2.2.1 z0,o1.cell aB.2.2.2 z0⟩ fun aB=>?_
    clear o1 hK KK;refine rd1 12 fun KK hK=>?_
    refine z8k (by rfl) _ _ (by rfl) (by rfl) 144 (s 2) (s 3) n ct r.S (by rfl) (gI.out _ O1) ?_;intro gp cp XWDP jW o1;have bP:XWD.heap.size<=gp:=(X0 jW gp rfl).1;have zP:gp<XWDP.heap.size:=(X0 jW gp rfl).2;have wP:gw<gp:=Nat.lt_of_lt_of_le zW bP;have dP:bd<gp:=Nat.lt_of_lt_of_le zD bP;have fP:=z7h (base':=B) jW (by have:=O1.size;have:=HB.out;omega);clear jW;replace fW:=z2m fW o1 (Nat.zero_le _);replace zW:=Nat.lt_of_lt_of_le zW o1.size;replace fD:=o1.heap fD z0;replace zD:=Nat.lt_of_lt_of_le zD o1.size;have O2:Out 0 0 W0 XWDP:=O1.trans o1;have O1:=O2;clear O2 bP;refine hK.out _ _ ⟨o1.cell aB.1 z0,o1.cell aB.2.1 z0,o1.cell aB.2.2.1 z0,o1.cell aB.2.2.2 z0⟩ fun aB=>?_
    clear o1 hK KK;refine rd1 14 fun KK hK=>?_
    go_simp;refine(HBl.out _ O1).mono ?_;rintro e XWDPB ⟨vb,rfl,iE,o1⟩;have bB:∀ g,vb.ownBlock=some g->gp<g:=fun g hg=>Nat.lt_of_lt_of_le zP (X0 iE g hg).1
    have dB:∀ g,vb.ownBlock=some g->bd<g:=fun g hg=>Nat.lt_of_lt_of_le zD (X0 iE g hg).1
    have fB:=z7h (base':=B) iE (by have:=O1.size;have:=HB.out;omega);clear iE;obtain⟨ob,cb,rfl⟩:=z2h fB;obtain⟨mb,jT⟩:∃ m,(K4 r (64*n)).length=m:=⟨_,rfl⟩
    rw[jT] at bB fB ⊢;rw[jT] at dB;replace fW:=z2m fW o1 (Nat.zero_le _);replace zW:=Nat.lt_of_lt_of_le zW o1.size;replace fD:=o1.heap fD z0;replace zD:=Nat.lt_of_lt_of_le zD o1.size;replace fP:=z2m fP o1 (Nat.zero_le _);replace zP:=Nat.lt_of_lt_of_le zP o1.size;have O2:Out 0 0 W0 XWDPB:=O1.trans o1;have O1:=O2;clear O2;refine hK.out _ _ ⟨o1.cell aB.1 z0,o1.cell aB.2.1 z0,o1.cell aB.2.2.1 z0,o1.cell aB.2.2.2 z0⟩ fun aB=>?_
    clear o1 hK KK;refine tk 19 ?_;refine rd1 21 fun KK hK=>?_
    simp only[xa,xb,xc];have hf:=z1e fD;obtain⟨y0,y1,y2,y3,y4,y5,y6,y7,y8,y9,ya,yb,yf⟩:=hf;go_simp;obtain⟨XE,eX⟩:∃ W,dS XWDPB bd (Sz gw (64*n) cw) (Sz gp n cp) (.slice ob mb cb) (Iz r.last)=W:=⟨_,rfl⟩
    have fE:XE.heap[bd]? = some (.cells #[Sz gw (64*n) cw,Sz gp n cp,.slice ob mb cb,Iz 0,Iz 0,Iz 0,Iz 0,Iz 0,Iz 0,Iz 0,Iz 0,Iz r.last] 74 (0,0)):=by rw[<-eX];exact z3w fD _ _ _ _
    have oE:Out bd (bd+1) XWDPB XE:=by rw[<-eX];exact z7b _ _ _ _ _ _
    unfold dS at eX;rw[eX];clear eX y0 y1 y2 y3 y4 y5 y6 y7 y8 y9 ya yb yf;refine hK.out _ _ ⟨oE.cell aB.1 (.inl (by have:=HB.out;omega)),oE.cell aB.2.1 (.inl (by have:=HB.out;omega)),oE.cell aB.2.2.1 (.inl (by have:=HB.out;omega)),oE.cell aB.2.2.2 (.inl (by have:=HB.out;omega))⟩ fun aB=>?_
    clear hK KK;refine dn ?_;clear aB;have uB:∀ g,(Value.slice ob mb cb).ownBlock=some g->g ≠ bd:=fun g hg=>by have:=dB g hg;omega
    refine⟨gw,cw,gp,cp,ob,mb,cb,bd,rfl,⟨?_,?_,?_,wP,bB⟩,fE,nD,by omega,by omega,uB,O1.past oE (by have:=HB.out;omega)⟩
    ·exact W7 fW fun g o hg _ hh=>oE.heap hh (by
      have e:gw=g:=by simpa [Value.ownBlock] using hg
      omega)
    ·exact W7 fP fun g o hg _ hh=>oE.heap hh (by
      have e:gp=g:=by simpa [Value.ownBlock] using hg
      omega)
    ·show XE.ownsRow _ _ _ _ _ _
     rw[jT];exact W7 fB fun g o hg _ hh=>oE.heap hh (by have:=dB g hg;omega)
  ·go_simp;obtain⟨bd,eO⟩:∃ b,Z.heap.size=b:=⟨_,rfl⟩
   have nD:B<=bd:=by have:=OZ.size;have:=HB.out;omega
   obtain⟨XD,hW⟩:∃ W,Z.alloc (.cells #[.slice none 0 0,.slice none 0 0,.slice none 0 0,Iz 0,Iz 0,Iz 0,Iz 0,Iz 0,Iz 0,Iz 0,Iz 0,Iz 0] 74)=W:=⟨_,rfl⟩
   have o1:Out 0 0 Z XD:=by rw[<-hW];exact(Out.refl 0 0 _).alloc _
   have fD:XD.heap[bd]? = some (.cells #[.slice none 0 0,.slice none 0 0,.slice none 0 0,Iz 0,Iz 0,Iz 0,Iz 0,Iz 0,Iz 0,Iz 0,Iz 0,Iz 0] 74):=by rw[<-hW,<-eO];exact heap_alloc_new _ _
   have zD:bd<XD.heap.size:=Q7 fD;(try rw[hW]);(try rw[eO]);have O2:Out 0 0 W0 XD:=OZ.trans o1;have O1:=O2;clear O2 hW eO;refine hK.out _ _ ⟨o1.cell aB.1 z0,o1.cell aB.2.1 z0,o1.cell aB.2.2.1 z0,o1.cell aB.2.2.2 z0⟩ fun aB=>?_
   clear o1 hK KK;refine rd1 4 fun KK hK=>?_
   refine q3c (by rfl) _ _ (by rfl) (by rfl) (s 1) (64*n) ca r.W (by rfl) (HCl.out _ O1) (by have:=HB.out;omega) (by have:=HB.out;omega) ?_;intro gw cw XDW fW o1;have k2:=(X0 fW gw rfl).1;have zW:=(X0 fW gw rfl).2;replace fW:=z7h (base':=B) fW (by have:=O1.size;have:=HB.out;omega);have bW:B<=gw:=by have:=O1.size;have:=HB.out;omega
   have dW:bd<gw:=Nat.lt_of_lt_of_le zD k2;replace fD:=o1.heap fD z0;replace zD:=Nat.lt_of_lt_of_le zD o1.size;have O2:Out 0 0 W0 XDW:=O1.trans o1;have O1:=O2;clear O2 k2;refine hK.out _ _ ⟨o1.cell aB.1 z0,o1.cell aB.2.1 z0,o1.cell aB.2.2.1 z0,o1.cell aB.2.2.2 z0⟩ fun aB=>?_
   clear o1 hK KK;refine rd1 12 fun KK hK=>?_
   refine z8k (by rfl) _ _ (by rfl) (by rfl) 144 (s 2) (s 3) n ct r.S (by rfl) (gI.out _ O1) ?_;intro gp cp XDWP jW o1;have bP:XDW.heap.size<=gp:=(X0 jW gp rfl).1;have zP:gp<XDWP.heap.size:=(X0 jW gp rfl).2;have wP:gw<gp:=Nat.lt_of_lt_of_le zW bP;have dP:bd<gp:=Nat.lt_of_lt_of_le zD bP;have fP:=z7h (base':=B) jW (by have:=O1.size;have:=HB.out;omega);clear jW;replace fD:=o1.heap fD z0;replace zD:=Nat.lt_of_lt_of_le zD o1.size;replace fW:=z2m fW o1 (Nat.zero_le _);replace zW:=Nat.lt_of_lt_of_le zW o1.size;have O2:Out 0 0 W0 XDWP:=O1.trans o1;have O1:=O2;clear O2 bP;refine hK.out _ _ ⟨o1.cell aB.1 z0,o1.cell aB.2.1 z0,o1.cell aB.2.2.1 z0,o1.cell aB.2.2.2 z0⟩ fun aB=>?_
   clear o1 hK KK;refine rd1 14 fun KK hK=>?_
   go_simp;refine(HBl.out _ O1).mono ?_;rintro e XDWPB ⟨vb,rfl,iE,o1⟩;have bB:∀ g,vb.ownBlock=some g->gp<g:=fun g hg=>Nat.lt_of_lt_of_le zP (X0 iE g hg).1
   have dB:∀ g,vb.ownBlock=some g->bd<g:=fun g hg=>Nat.lt_of_lt_of_le zD (X0 iE g hg).1
   have fB:=z7h (base':=B) iE (by have:=O1.size;have:=HB.out;omega);clear iE;obtain⟨ob,cb,rfl⟩:=z2h fB;obtain⟨mb,jT⟩:∃ m,(K4 r (64*n)).length=m:=⟨_,rfl⟩
   rw[jT] at bB fB ⊢;rw[jT] at dB;replace fD:=o1.heap fD z0;replace zD:=Nat.lt_of_lt_of_le zD o1.size;replace fW:=z2m fW o1 (Nat.zero_le _);replace zW:=Nat.lt_of_lt_of_le zW o1.size;replace fP:=z2m fP o1 (Nat.zero_le _);replace zP:=Nat.lt_of_lt_of_le zP o1.size;have O2:Out 0 0 W0 XDWPB:=O1.trans o1;have O1:=O2;clear O2;refine hK.out _ _ ⟨o1.cell aB.1 z0,o1.cell aB.2.1 z0,o1.cell aB.2.2.1 z0,o1.cell aB.2.2.2 z0⟩ fun aB=>?_
   clear o1 hK KK;refine tk 19 ?_;refine rd1 21 fun KK hK=>?_
   simp only[xa,xb,xc];have hf:=z1e fD;obtain⟨y0,y1,y2,y3,y4,y5,y6,y7,y8,y9,ya,yb,yf⟩:=hf;go_simp;obtain⟨XE,eX⟩:∃ W,dS XDWPB bd (Sz gw (64*n) cw) (Sz gp n cp) (.slice ob mb cb) (Iz r.last)=W:=⟨_,rfl⟩
   have fE:XE.heap[bd]? = some (.cells #[Sz gw (64*n) cw,Sz gp n cp,.slice ob mb cb,Iz 0,Iz 0,Iz 0,Iz 0,Iz 0,Iz 0,Iz 0,Iz 0,Iz r.last] 74 (0,0)):=by rw[<-eX];exact z3w fD _ _ _ _
   have oE:Out bd (bd+1) XDWPB XE:=by rw[<-eX];exact z7b _ _ _ _ _ _
   unfold dS at eX;rw[eX];clear eX y0 y1 y2 y3 y4 y5 y6 y7 y8 y9 ya yb yf;refine hK.out _ _ ⟨oE.cell aB.1 (.inl (by have:=HB.out;omega)),oE.cell aB.2.1 (.inl (by have:=HB.out;omega)),oE.cell aB.2.2.1 (.inl (by have:=HB.out;omega)),oE.cell aB.2.2.2 (.inl (by have:=HB.out;omega))⟩ fun aB=>?_
   clear hK KK;refine dn ?_;clear aB;have uB:∀ g,(Value.slice ob mb cb).ownBlock=some g->g ≠ bd:=fun g hg=>by have:=dB g hg;omega
   refine⟨gw,cw,gp,cp,ob,mb,cb,bd,rfl,⟨?_,?_,?_,wP,bB⟩,fE,nD,by omega,by omega,uB,O1.past oE (by have:=HB.out;omega)⟩
   ·exact W7 fW fun g o hg _ hh=>oE.heap hh (by
     have e:gw=g:=by simpa [Value.ownBlock] using hg
     omega)
   ·exact W7 fP fun g o hg _ hh=>oE.heap hh (by
     have e:gp=g:=by simpa [Value.ownBlock] using hg
     omega)
   ·show XE.ownsRow _ _ _ _ _ _
    rw[jT];exact W7 fB fun g o hg _ hh=>oE.heap hh (by have:=dB g hg;omega)
 ·rintro a W ⟨gw,cw,gp,cp,ob,mb,cb,bd,rfl,l1,l2,l3,l4,l5,l6,l7⟩;have HL:=Q3 (And.intro l1 (And.intro l3 (And.intro l4 (And.intro l5 (And.intro l6 l7)))));have HE:=Q3 l2;clear l1 l2 l3 l4 l5 l6 l7 d0 d1 d2 d5 HCl gI HBl;go_wp2_with fail;go_loopw [4] (fun u wr=>∃ i:Nat,u=Iz (i:Int)/\i<=8/\Row wr bd 74 12 (hdC n r (Sz gw (64*n) cw) (Sz gp n cp) (.slice ob mb cb) i)/\Out bd (bd+1) W wr) (fun u _=>(8-intOf u).toNat)
  case atStart=>
   refine⟨0,rfl,by omega,⟨_,HE.out,Nat.le_refl _,fun j hj=>?_⟩,Out.refl _ _ _⟩;have:j=0\/j=1\/j=2\/j=3\/j=4\/j=5\/j=6\/j=7\/j=8\/j=9\/j=10\/j=11:=by omega
   rcases this with rfl | rfl | rfl | rfl | rfl | rfl | rfl | rfl | rfl | rfl | rfl | rfl <;> rfl
  case round=>
   obtain⟨i,rfl,i8,r1,r2⟩:=hrel;have eO:=HL.out.2.1;have hbb:=HB.out;have kO:RfAt wr lo hi s n ca co st:=(HRQ.out.quiet HL.out.2.2.2.2.2).kept r2 (.inl (by omega));by_cases dD:i<8
   ·have k0:(0:Int)<=(i:Int):=by omega
    have k1:(i:Int)<8:=by omega
    have hX:=z2b kO dD (f:=0) (Nat.zero_le _);rw[show ((0:Nat):Int)=0 from rfl,show nf n st (i:Int) 0=nxr (r.F i) (64*n) 0 from by rw[HRr0.out];rfl] at hX;have HX:=Q3 hX;clear hX;have d0:cq wr bd (3+i)=some (Iz 0):=by
     have:=r1.cell (i:=3+i) (by omega);unfold hdC at this;rw[if_neg (by omega),if_neg (by omega),if_neg (by omega),if_neg (by omega),if_neg (by omega)] at this;exact this
    have d1:=Row.frozen r1 (3+i);have HRr:=Q3 (And.intro r1 r2);clear r1 r2 kO eO hbb;go_wp2_with (go_at_call 90;refine Q4 HX.out ?_);go_roundw
    case rel=>
     refine⟨i+1,by go_num,by omega,(HRr.out.1.set (3+i) _).congr fun j hj=>?_,(HRr.out.2.setCell (p:=⟨bd,3+i,none⟩) z1 _)⟩;unfold hdC;by_cases e:j=3+i
     ·rw[if_pos e,if_neg (by omega),if_neg (by omega),if_neg (by omega),if_neg (by omega),if_pos (by omega),show j-3=i from by omega]
     ·rw[if_neg e];by_cases f0:j=0
      ·rw[if_pos f0,if_pos f0]
      ·rw[if_neg f0,if_neg f0];by_cases f1:j=1
       ·rw[if_pos f1,if_pos f1]
       ·rw[if_neg f1,if_neg f1];by_cases f2:j=2
        ·rw[if_pos f2,if_pos f2]
        ·rw[if_neg f2,if_neg f2];by_cases f3:j=11
         ·rw[if_pos f3,if_pos f3]
         ·rw[if_neg f3,if_neg f3];by_cases f4:j<3+i
          ·rw[if_pos f4,if_pos (by omega)]
          ·rw[if_neg f4,if_neg (by omega)]
    case measure=>simp[intOf];omega
   ·have e:i=8:=by omega
    subst e;have y0:cq wr bd 0=some (Sz gw (64*n) cw):=r1.cell (i:=0) (by omega);have y1:cq wr bd 1=some (Sz gp n cp):=r1.cell (i:=1) (by omega);have y2:cq wr bd 2=some (.slice ob mb cb):=r1.cell (i:=2) (by omega);have y3:cq wr bd 3=some (Iz (nxr (r.F 0) (64*n) 0)):=r1.cell (i:=3) (by omega);have y4:cq wr bd 4=some (Iz (nxr (r.F 1) (64*n) 0)):=r1.cell (i:=4) (by omega);have y5:cq wr bd 5=some (Iz (nxr (r.F 2) (64*n) 0)):=r1.cell (i:=5) (by omega);have y6:cq wr bd 6=some (Iz (nxr (r.F 3) (64*n) 0)):=r1.cell (i:=6) (by omega);have y7:cq wr bd 7=some (Iz (nxr (r.F 4) (64*n) 0)):=r1.cell (i:=7) (by omega);have y8:cq wr bd 8=some (Iz (nxr (r.F 5) (64*n) 0)):=r1.cell (i:=8) (by omega);have y9:cq wr bd 9=some (Iz (nxr (r.F 6) (64*n) 0)):=r1.cell (i:=9) (by omega);have y10:cq wr bd 10=some (Iz (nxr (r.F 7) (64*n) 0)):=r1.cell (i:=10) (by omega);have y11:cq wr bd 11=some (Iz r.last):=r1.cell (i:=11) (by omega);have hER:wr.heap[R]? = some (.cells #[.slice none 0 0,.slice none 0 0,.slice none 0 0,Iz 0,Iz 0,Iz 0,Iz 0,Iz 0,Iz 0,Iz 0,Iz 0,Iz 0] 74 (0,0)):=r2.heap (HL.out.2.2.2.2.2.heap HE0.out z0) (.inl (by omega));obtain⟨x0,x1,x2,x3,x4,x5,x6,x7,x8,x9,xa,xb,xf⟩:=z1e hER;have HER:=Q3 hER;have cV:=Q3 r2;clear dD i8 hER r1 r2 kO eO hbb;go_wp2;have oF:=x1s wr R (Sz gw (64*n) cw) (Sz gp n cp) (.slice ob mb cb) (Iz (nxr (r.F 0) (64*n) 0)) (Iz (nxr (r.F 1) (64*n) 0)) (Iz (nxr (r.F 2) (64*n) 0)) (Iz (nxr (r.F 3) (64*n) 0)) (Iz (nxr (r.F 4) (64*n) 0)) (Iz (nxr (r.F 5) (64*n) 0)) (Iz (nxr (r.F 6) (64*n) 0)) (Iz (nxr (r.F 7) (64*n) 0)) (Iz r.last);have hrw:=HRw.out;have hB:=HB.out;have hL:=HL.out;refine x2l Tryz.results31 rfl rfl (j4a HER.out (Sz gw (64*n) cw) (Sz gp n cp) (.slice ob mb cb) (Iz (nxr (r.F 0) (64*n) 0)) (Iz (nxr (r.F 1) (64*n) 0)) (Iz (nxr (r.F 2) (64*n) 0)) (Iz (nxr (r.F 3) (64*n) 0)) (Iz (nxr (r.F 4) (64*n) 0)) (Iz (nxr (r.F 5) (64*n) 0)) (Iz (nxr (r.F 6) (64*n) 0)) (Iz (nxr (r.F 7) (64*n) 0)) (Iz r.last)) ?_;have oW:Out 0 0 W0 wr:=hL.2.2.2.2.2.past cV.out (by omega);have oR:Out 0 0 w (dT wr R (Sz gw (64*n) cw) (Sz gp n cp) (.slice ob mb cb) (Iz (nxr (r.F 0) (64*n) 0)) (Iz (nxr (r.F 1) (64*n) 0)) (Iz (nxr (r.F 2) (64*n) 0)) (Iz (nxr (r.F 3) (64*n) 0)) (Iz (nxr (r.F 4) (64*n) 0)) (Iz (nxr (r.F 5) (64*n) 0)) (Iz (nxr (r.F 6) (64*n) 0)) (Iz (nxr (r.F 7) (64*n) 0)) (Iz r.last)):=(HO0.out.trans oW).past oF (by omega);refine⟨gw,cw,gp,cp,_,rfl,⟨?_,?_,?_,hL.1.2.2.2⟩,oR⟩
    ·exact z7h (W7 hL.1.1 fun g o hg jJ hh=>oF.heap (cV.out.heap hh (by
      have e:gw=g:=by simpa [Value.ownBlock] using hg
      omega)) (by omega)) (by omega)
    ·exact z7h (W7 hL.1.2.1 fun g o hg jJ hh=>oF.heap (cV.out.heap hh (by
      have e:gp=g:=by simpa [Value.ownBlock] using hg
      omega)) (by omega)) (by omega)
    ·exact z7h (W7 hL.1.2.2.1 fun g o hg jJ hh=>oF.heap (cV.out.heap hh (by have e:=hL.2.2.2.2.1 g hg;omega)) (by omega)) (by omega)
end
section
variable {w w':World} {lo hi n cw co:Nat} {s:Nat->Nat} {st:Sp}
theorem RfAt.apart (h:RfAt w lo hi s n cw co st) {i j:Nat} (bQ:i<5) (hj:j<5) (fG:i ≠ j):s i<s j\/s j+1<=s i:=by
 have:s i ≠ s j:=fun e=>fG (h.ne i j bQ hj e)
 omega
theorem RfAt.setT (h:RfAt w lo hi s n cw co st) {S':Nat->Int × Int × Int} (ht:TblAt 144 w' (s 2) (s 3) n S') (o:Out (s 3) (s 3+1) w w'):RfAt w' lo hi s n cw co { st with S:=S' }/\Out lo hi w w':=by
 have h3:=h.inn 3 (by omega);exact⟨⟨h.n1,h.n2,Nat.le_trans h.top o.size,h.glob,h.inn,h.ne,o.heap h.box (h.apart (by omega) (by omega) (by omega)),h.rw.kept o (h.apart (by omega) (by omega) (by omega)),ht,h.ro.kept o (h.apart (by omega) (by omega) (by omega))⟩,o.wide h3.1 (by omega)⟩
theorem RfAt.setL (h:RfAt w lo hi s n cw co st) (x:Int):RfAt (w.setCell ⟨s 0,3,none⟩ (.int .i64 x)) lo hi s n cw co { st with last:=x }/\Out lo hi w (w.setCell ⟨s 0,3,none⟩ (.int .i64 x)):=by
 have o:Out (s 0) (s 0+1) w (w.setCell ⟨s 0,3,none⟩ (.int .i64 x)):=(Out.refl _ _ _).setCell (p:=⟨s 0,3,none⟩) z1 _;have h0:=h.inn 0 (by omega);refine⟨⟨h.n1,h.n2,Nat.le_trans h.top o.size,h.glob,h.inn,h.ne,?_,h.rw.kept o (h.apart (by omega) (by omega) (by omega)),h.rt.kept o (h.apart (by omega) (by omega) (by omega)) (h.apart (by omega) (by omega) (by omega)),h.ro.kept o (h.apart (by omega) (by omega) (by omega))⟩,o.wide h0.1 (by omega)⟩;simp[World.setCell,Array.getElem?_modify,h.box]
def j6z (w:World) (b a:Nat) (x0 x1 x2 x3 x4:Int):World:=((((w.setCell ⟨b,a*5,none⟩ (.int .i64 x0)).setCell ⟨b,a*5+1,none⟩ (.int .i64 x1)).setCell ⟨b,a*5+2,none⟩ (.int .i64 x2)).setCell ⟨b,a*5+3,none⟩ (.int .i64 x3)).setCell ⟨b,a*5+4,none⟩ (.int .i64 x4)
theorem q2s (w:World) (b a:Nat) (x0 x1 x2 x3 x4:Int):Out b (b+1) w (j6z w b a x0 x1 x2 x3 x4):=by
 unfold j6z;have hb:∀ j,(b<=(⟨b,j,none⟩:Addr).block/\(⟨b,j,none⟩:Addr).block<b+1):=fun j=>⟨Nat.le_refl _,Nat.lt_succ_self _⟩
 exact(((((Out.refl b (b+1) w).setCell (.inl (hb _)) _).setCell (.inl (hb _)) _).setCell (.inl (hb _)) _).setCell (.inl (hb _)) _).setCell (.inl (hb _)) _
theorem q4f (st:Sp) {st':Sp} {j:Nat} (e:st'.O (j / 5)=st.O (j / 5)):obC st' j=obC st j:=by unfold obC;rw[e]
theorem RfAt.setO (h:RfAt w lo hi s n cw co st) {a:Nat} (ha:a<64*n) {k z x t:Int} (hk:k ≠ 0):RfAt (j6z w (s 4) a (a:Int) k z x t) lo hi s n cw co { st with O:=H8 st.O a (k,z,x,t) }/\Out lo hi w (j6z w (s 4) a (a:Int) k z x t):=by
 have o:=q2s w (s 4) a (a:Int) k z x t;have h4:=h.inn 4 (by omega);refine⟨⟨h.n1,h.n2,Nat.le_trans h.top o.size,h.glob,h.inn,h.ne,o.heap h.box (h.apart (by omega) (by omega) (by omega)),h.rw.kept o (h.apart (by omega) (by omega) (by omega)),h.rt.kept o (h.apart (by omega) (by omega) (by omega)) (h.apart (by omega) (by omega) (by omega)),?_⟩,o.wide h4.1 (by omega)⟩;unfold j6z;refine(((((h.ro.set (a*5) (.int .i64 (a:Int))).set (a*5+1) (.int .i64 k)).set (a*5+2) (.int .i64 z)).set (a*5+3) (.int .i64 x)).set (a*5+4) (.int .i64 t)).congr fun j _=>?_
 have hb:Y6 (H8 st.O a (k,z,x,t) a)=true:=by unfold H8 Y6;rw[if_pos rfl];simpa using hk
 obtain⟨o0,o1,o2,o3,o4⟩:=q4e (st:={ st with O:=H8 st.O a (k,z,x,t) }) (a:=a) hb;have hp:H8 st.O a (k,z,x,t) a=(k,z,x,t):=by unfold H8;rw[if_pos rfl]
 dsimp only at o1 o2 o3 o4;rw[hp] at o1 o2 o3 o4;by_cases e4:j=a*5+4
 ·rw[if_pos e4,e4,o4]
 rw[if_neg e4];by_cases e3:j=a*5+3
 ·rw[if_pos e3,e3,o3]
 rw[if_neg e3];by_cases e2:j=a*5+2
 ·rw[if_pos e2,e2,o2]
 rw[if_neg e2];by_cases e1:j=a*5+1
 ·rw[if_pos e1,e1,o1]
 rw[if_neg e1];by_cases e0:j=a*5
 ·rw[if_pos e0,e0,o0]
 rw[if_neg e0];have:j / 5 ≠ a:=by omega
 rw[q4f st (st':={ st with O:=H8 st.O a (k,z,x,t) })]
 show H8 st.O a (k,z,x,t) (j / 5)=_
 unfold H8;rw[if_neg this]
end
def lkT (n:Nat) (st:Sp) (c:Int) (b:Nat):Nat->Int:=fun j=>if j<b/\fr n st c j=true then z0e (nf n st c (j+1)) else st.W j
section
variable {n p:Nat} {st:Sp} {c:Int}
theorem j5i {b:Nat} (h:∀ j,fr n st c j=true->j<b):lkT n st c b=q1z n st c:=by
 funext j
 unfold lkT q1z;cases hf:fr n st c j with
 | true=>rw[if_pos ⟨h j hf,rfl⟩,if_pos rfl]
 | false=>rw[if_neg (fun q=>by cases q.2),if_neg (by simp)]
theorem q4b {b:Nat} (h:∀ j,j<b->fr n st c j=false):lkT n st c b=st.W:=by
 funext j
 unfold lkT;rw[if_neg (fun q=>by rw[h j q.1] at q;cases q.2)]
theorem q9o {a b:Nat} (hab:a<b) (ha:fr n st c a=true) (h:∀ j,a<j->j<b->fr n st c j=false):z2p (lkT n st c a) a (z0e (nf n st c (a+1)))=lkT n st c b:=by
 funext j
 unfold z2p lkT;by_cases e:j=a
 ·rw[if_pos e,e,if_pos ⟨hab,ha⟩]
 ·rw[if_neg e];by_cases h1:j<a
  ·by_cases hf:fr n st c j=true
   ·rw[if_pos ⟨h1,hf⟩,if_pos ⟨by omega,hf⟩]
   ·rw[if_neg (fun q=>hf q.2),if_neg (fun q=>hf q.2)]
  ·rw[if_neg (fun q=>h1 q.1),if_neg (fun q=>by rw[h j (by omega) q.1] at q;cases q.2)]
structure Fresh (n p:Nat) (st:Sp) (c:Int):Prop where
 inn:∀ j,fr n st c j=true->64*p<j/\j<64*p+64
 all:∀ i,1<=i->(i+1)*wN c<=64->fr n st c (64*p+i*wN c)=true
theorem Fresh.last (h:Fresh n p st c) (h0:0<=c) (h7:c<=7) {B:Nat} (h1:B*wN c<=64) (h2:64<(B+1)*wN c) (j:Nat) (hj:fr n st c j=true):j<64*p+B*wN c:=by
 by_cases q:j<64*p+B*wN c
 ·exact q
 ·rw[q3o h0 h7 h2 (by omega) (h.inn j hj).2] at hj;cases hj
theorem Fresh.first (h:Fresh n p st c) (h0:0<=c) (h7:c<=7) (hw:wN c<=64) (j:Nat) (hj:j<64*p+1*wN c):fr n st c j=false:=by
 by_cases q:64*p<j
 ·exact z4c h0 h7 (p:=p) (i:=0) (by omega) (by omega) (by omega)
 ·cases hf:fr n st c j with
  | false=>rfl
  | true=>exact absurd (h.inn j hf).1 q
theorem Fresh.next (h:Fresh n p st c) (h0:0<=c) (h7:c<=7) (hp:p<n) {B i:Nat} (h1:B*wN c<=64) (h2:64<(B+1)*wN c) (i1:1<=i) (iB:i<B):nf n st c (64*p+i*wN c+1)=if i+1<B then ((64*p+(i+1)*wN c:Nat):Int) else -1:=by
 have hw:=q1a h0 h7;have hm:(i+1)*wN c<=B*wN c:=Nat.mul_le_mul_right _ iB;have hs:(i+1)*wN c=i*wN c+wN c:=Nat.succ_mul i (wN c);by_cases e:i+1<B
 ·rw[if_pos e];have hm2:(i+2)*wN c<=B*wN c:=Nat.mul_le_mul_right _ e;exact x6s (by omega) (h.all (i+1) (by omega) (Nat.le_trans hm2 h1)) fun j j1 j2=>z4c h0 h7 (p:=p) (i:=i) (by omega) (by omega) (by omega)
 ·rw[if_neg e];obtain rfl:B=i+1:=by omega
  refine x6t (by omega) fun j j1 j2=>?_
  cases hf:fr n st c j with
  | false=>rfl
  | true=>
   have:=h.last h0 h7 h1 h2 j hf;rw[z4c h0 h7 (p:=p) (i:=i) (by omega) (by omega) (by omega)] at hf;cases hf
theorem j1j (hI:Inv n st) (hc0:0<=c) (hc7:c<=7) (hnf:¬ 0<=nf n st c 0) (hr:z0a st.S n 1=some p) {b:Blk} (hb:Y6 b=true) (W:Nat->Int) (l:Int):Fresh n p ⟨W,q2t st.S p c,H8 st.O (64*p) b,l⟩ c:=by
 obtain⟨p1,p2,p3⟩:=z1v hI.good hr;have hS:=p3 p (Nat.le_refl _) (by omega);have iJ:∀ j,fr n st c j=false:=fun j=>by
  unfold nf at hnf;rcases U4 (fr n st c) (64*n) 0 with ⟨_,h⟩ | ⟨i,e,_⟩
  ·by_cases hj:j<64*n
   ·exact h j (Nat.zero_le _) hj
   ·unfold fr;rw[show decide (j<64*n)=false from by simpa using hj];rfl
  ·rw[e] at hnf;omega
 have hobj:∀ j,j / 64=p->Y6 (st.O j)=false:=fun j hj=>by
  cases hh:Y6 (st.O j) with
  | false=>rfl
  | true=>
   have:=(hI.objs j hh).page.2;rw[hj,hS] at this;rcases this with e | e <;> cases e
 constructor
 ·intro j hf;obtain⟨f1,f2,f3,f4⟩:=fr_iff.1 hf;have f2':q2t st.S p c (j / 64)=(1,c,0):=f2;have f4':Y6 (H8 st.O (64*p) b j)=false:=f4;by_cases e:j / 64=p
  ·have fG:j ≠ 64*p:=fun q=>by
    rw[q] at f4';unfold H8 at f4';rw[if_pos rfl,hb] at f4';cases f4'
   omega
  ·exfalso
   unfold q2t at f2';rw[if_neg e] at f2';unfold H8 at f4';rw[if_neg (by omega)] at f4';have:=fr_iff.2 ⟨f1,f2',f3,f4'⟩;rw[iJ j] at this;cases this
 ·intro i i1 i2;have hw:=q1a hc0 hc7;have hs:(i+1)*wN c=i*wN c+wN c:=Nat.succ_mul i (wN c);have hi1:1*wN c<=i*wN c:=Nat.mul_le_mul_right _ i1;refine fr_iff.2 ⟨by omega,?_,?_,?_⟩
  ·show q2t st.S p c ((64*p+i*wN c) / 64)=_
   unfold q2t;rw[if_pos (by omega)]
  ·rw[show (64*p+i*wN c) % 64=i*wN c from by omega];unfold F6;simp only[Bool.and_eq_true,decide_eq_true_eq];exact⟨Nat.mul_mod_left _ _,by omega⟩
  ·show Y6 (H8 st.O (64*p) b (64*p+i*wN c))=false
   unfold H8;rw[if_neg (by omega)];exact hobj _ (by omega)
end
end Go.Proofs.YtjgnogflgoihfaaGreatDoor
