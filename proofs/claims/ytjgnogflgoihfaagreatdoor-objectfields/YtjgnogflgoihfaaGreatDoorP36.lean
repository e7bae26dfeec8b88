import Derived.Test.YtjgnogflgoihfaaGreatDoorP35
set_option linter.unusedSimpArgs false
set_option linter.unusedVariables false
set_option maxHeartbeats 16000000
set_option maxRecDepth 100000
namespace Go.Proofs.YtjgnogflgoihfaaGreatDoor
open Go.RowKit
def x1l (w:World) (base:Nat) (v:Value) (t:List Int):Prop:=w.ownsRow base 5 1 v t.length (bvs t)
theorem x2v (t:List Int):(bvs t).length=t.length:=by unfold bvs;simp
theorem j3g {ops:Array Oper} {rest:List Oper} {o:Oper} {ac:Go.Act} {w:World} {Q:Exit->Go.Act->World->Prop} (hgd:o.guard=none) (sx xx:Operand)
  (ho:o.op=.call { callee:=.builtin .append,args:=#[sx,xx],argTypes:=#[33,33] }) {t:List Int} {p:Option Addr} {cp:Nat} (hs:ac.eval sx=.slice none 0 0) (hx:ac.eval xx=.slice p t.length cp) (hl:z1m w p t) (hn:t.length<=100000)
  (h:∀ v w',x1l w' w.heap.size v t->Out 0 0 w w'->wpList Tryz.prog ops Q rest (ac.put o.dst v) w'):wpList Tryz.prog ops Q (o :: rest) ac w:=
 wpList_plain hgd fun _ hK=>by
  have key:∃ v w',(Builtin.append_ #[33,33] o.type #[.slice none 0 0,.slice p t.length cp]).run Tryz.prog w=.ok v w'/\x1l w' w.heap.size v t/\Out 0 0 w w':=by
   rcases hl.2 with rfl | ⟨g,cK,rfl,h2⟩
   ·exact⟨_,w,x0w w o.type p cp,World.ownsRow_nil _ _ _ 1,Out.refl _ _ _⟩
   ·obtain⟨i0,mW,iI,hz1,iH⟩:=z1x q7a;obtain⟨v2,w',jP,dM,aV,_⟩:=run_append_own (P:=Tryz.prog) w w.heap.size 33 o.type 5 i0 (.int .u8 0) 1 1 Tryz.underlying33 mW iI hz1 iH rfl (by decide) (.slice none 0 0) 0 [] (World.ownsRow_nil _ _ _ 1) ⟨g,cK,none⟩ t.length cp (bvs t) (by rw[x2v];omega) (by
      intro j u hj;unfold bvs at hj;rw[List.getElem?_map] at hj;obtain⟨x,lS,rfl⟩:=Option.map_eq_some_iff.1 hj;rw[Addr.add_lit];exact h2 j x lS) (by intro u hu;unfold bvs at hu;obtain⟨x,_,rfl⟩:=List.mem_map.1 hu;rfl) (by unfold maxLen;omega) (by omega) (Nat.le_refl _)
    rw[Nat.zero_add,List.nil_append] at dM;exact⟨v2,w',jP,dM,⟨aV.os,aV.tape,aV.output,aV.size,fun j h1 h2=>aV.block j h1 (by simp[Value.ownBlock])⟩⟩
  obtain⟨v,w',hr,h2,h3⟩:=key;unfold Oper.wp execOp;simp only[ho,resolve,invoke,builtin,Sem.run_bind,Sem.run_pure,Result.andThen_ok,List.map_toArray,List.map_cons,List.map_nil,hs,hx,hr];exact hK _ _ (h v w' h2 h3)
def lbL (t:List Int):List Int:=t ++ [165,90]
theorem x2t {ops:Array Oper} {rest:List Oper} {o:Oper} {a:Go.Act} {Q:Exit->Go.Act->World->Prop} {w:World} (hgd:o.guard=none) (sx xx:Operand)
  (ho:o.op=.call { callee:=.builtin .append,args:=#[sx,xx],argTypes:=#[33,33] })
  (base:Nat) (v:Value) (l:List Int) (hs:a.eval sx=v) (jR:x1l w base v l) (bb:Nat) (hx:a.eval xx=.slice (some ⟨bb,0,none⟩) 2 2) (hn:w.heap[bb]? = some (.cells #[.int .u8 165,.int .u8 90] 5 (0,0)))
  (bZ:l.length<=100000) (hbase:base<=w.heap.size)
  (h:∀ v' w',x1l w' base v' (lbL l)->Out base w.heap.size w w'->wpList Tryz.prog ops Q rest (a.put o.dst v') w'):wpList Tryz.prog ops Q (o :: rest) a w:=by
 obtain⟨i0,mW,iI,hz1,iH⟩:=z1x q7a;have hc:∀ (j:Nat) u,([.int .u8 165,.int .u8 90]:List Value)[j]? = some u->w.cell? ((⟨bb,0,none⟩:Addr).add j)=some u:=by
  intro j u hj;rcases j with _ | _ | j
  ·simp at hj;subst hj;simp[Addr.add,World.cell?,hn]
  ·simp at hj;subst hj;simp[Addr.add,World.cell?,hn]
  ·simp at hj
 obtain⟨v2,w',jP,dM,aV,jS⟩:=run_append_own (P:=Tryz.prog) w base 33 o.type 5 i0 (.int .u8 0) 1 1 Tryz.underlying33 mW iI hz1 iH rfl (by decide) v l.length (bvs l) jR ⟨bb,0,none⟩ 2 2 [.int .u8 165,.int .u8 90] rfl hc (by intro u hu;simp at hu;rcases hu with hu | hu <;> (rw[hu];rfl)) (by unfold maxLen;omega) (by omega) hbase;have lX:x1l w' base v2 (lbL l):=by
  unfold x1l lbL;rw[show bvs (l ++ [165,90])=bvs l ++ [.int .u8 165,.int .u8 90] from by unfold bvs;simp,List.length_append];exact dM
 have nH:∀ g,v.ownBlock=some g->base<=g:=by
  intro g hg;rcases jR.2 with ⟨rfl,_⟩ | ⟨g',cap,dI,rfl,h3,h4,_⟩
  ·cases hg
  ·simp[Value.ownBlock] at hg;omega
 refine wpList_plain hgd fun K hK=>?_
 unfold Oper.wp;simp[execOp,ho,resolve,invoke,builtin,hs,hx,jP,Result.andThen];exact hK _ _ (h v2 w' lX ⟨aV.os,aV.tape,aV.output,aV.size,fun k h1 h2=>aV.block k h1 (fun e=>by have:=nH k e.symm;omega)⟩)
def LRow (w:World) (G:Nat) (t:List Int):Prop:=Row w G 5 (t.length+2) (fun j=>.int .u8 ((lbL t)[j]?.getD 0))
theorem LRow.all {w:World} {G:Nat} {t:List Int} (h:LRow w G t) (hb:Byt t):z1m w (some ⟨G,0,none⟩) (lbL t):=by
 refine⟨fun b hm=>?_,.inr ⟨G,0,rfl,fun j b hj=>?_⟩⟩
 ·unfold lbL at hm;rcases List.mem_append.1 hm with hm | hm
  ·exact hb b hm
  ·simp at hm;omega
 ·have dD:=(List.getElem?_eq_some_iff.1 hj).1;have hl:j<t.length+2:=by unfold lbL at dD;simpa using dD
  have:=h.cell hl;rw[Nat.zero_add,this,hj];rfl
theorem LRow.head {w:World} {G:Nat} {t:List Int} (h:LRow w G t) (hb:Byt t):z1m w (some ⟨G,0,none⟩) t:=by
 refine⟨hb,.inr ⟨G,0,rfl,fun j b hj=>?_⟩⟩;have dD:=(List.getElem?_eq_some_iff.1 hj).1;have:=h.cell (i:=j) (by omega);rw[Nat.zero_add,this];unfold lbL;rw[List.getElem?_append_left dD,hj];rfl
theorem LRow.kept {w w':World} {G x y:Nat} {t:List Int} (h:LRow w G t) (o:Out x y w w') (hg:G<x\/y<=G):LRow w' G t:=Row.kept h o hg
theorem q9n {w:World} {t:List Int} {p:Option Addr} {cp:Nat} (hB:z1m w p t) (hn:t.length<=100000):Kz 63 #[.slice p t.length cp] w fun e w'=>∃ G cc,e=.returned (Sz G (t.length+2) cc)/\LRow w' G t/\w.heap.size<=G/\Out 0 0 w w'/\t.length+2<=cc:=by
 have HB:=Q3 hB;have Hn:=Q3 hn;clear hB hn;go_enter Tryz.func63,Tryz.ntmps63
 go_wp2_with (at_builtin;refine j3g rfl _ _ rfl (t:=t) (p:=p) (cp:=cp) rfl rfl HB.out Hn.out ?_);intro v w1 h1 o1;have H1:=Q3 (And.intro h1 o1);clear h1 o1;have HN:Hid ((w1.alloc (.cells #[.int .u8 165,.int .u8 90] 5)).heap[w1.heap.size]? = some (.cells #[.int .u8 165,.int .u8 90] 5 (0,0))):=heap_alloc_new _ _;have cD:Hid (x1l (w1.alloc (.cells #[.int .u8 165,.int .u8 90] 5)) w.heap.size v t):=by
  have oo:=(Out.refl 0 0 w1).alloc (.cells #[.int .u8 165,.int .u8 90] 5);obtain⟨k1,k2⟩:=H1.out.1;refine⟨k1,?_⟩;rcases k2 with k2 | ⟨g,cap,dI,rfl,k3,k4,k5⟩
  ·exact .inl k2
  ·exact .inr ⟨g,cap,dI,rfl,k3,oo.heap k4 z0,k5⟩
 have HS:Hid (w.heap.size<=(w1.alloc (.cells #[.int .u8 165,.int .u8 90] 5)).heap.size):=Nat.le_trans H1.out.2.size ((Out.refl 0 0 w1).alloc _).size;go_wp2_with (at_builtin;refine x2t rfl _ _ rfl w.heap.size _ t rfl cD.out w1.heap.size rfl HN.out Hn.out HS.out ?_);intro v' w2 h2 o2;have H2:=Q3 (And.intro h2 o2);clear h2 o2;obtain⟨G,cc,rfl,hG,hcc⟩:∃ G cc,v'=Sz G (t.length+2) cc/\w.heap.size<=G/\t.length+2<=cc:=by
  rcases H2.out.1.2 with ⟨e,e2⟩ | ⟨g,cap,dI,rfl,h3,h4,h5,_⟩
  ·unfold lbL at e2;simp at e2
  ·exact⟨g,cap,by unfold lbL;simp,h3,by unfold lbL at h5;simpa using h5⟩
 have HO:Hid (Out 0 0 w w2):=(H1.out.2.trans ((Out.refl 0 0 w1).alloc (.cells #[.int .u8 165,.int .u8 90] 5))).trans' H2.out.2 (Nat.le_refl _);have HL:Hid (LRow w2 G t):=by
  have h:=H2.out.1;unfold x1l at h;have el:(lbL t).length=t.length+2:=by unfold lbL;simp
  rw[el] at h;have:=x4l (f:=fun j=>.int .u8 ((lbL t)[j]?.getD 0)) h (fun j hj=>by
   unfold bvs;rw[List.getElem?_map,List.getElem?_eq_getElem (by omega)];rfl)
  rw[Nat.mul_one] at this;exact this
 have HG:=Q3 (And.intro hG hcc);clear hG hcc;go_wp2;go_ret;exact⟨G,cc,rfl,HL.out,HG.out.1,HO.out,HG.out.2⟩
theorem z5o {w:World} {G cc N:Nat} {t:List Int} (h:LRow w G t) (hb:Byt t) (hN:t.length=N):(Go.convert 33 9 (.slice (some ⟨G,0,none⟩) (N+2) cc)).run Tryz.prog w=.ok (.string (strOfNums (lbL t))) w:=by
 have q:=j0w (c:=cc) (h.all hb);rw[show (lbL t).length=N+2 from by unfold lbL;simp[hN]] at q;exact q
theorem E9.far {q:Q9} {st:Sp} {w V V':World} {g g':Nat} (e:E9 q st w V) (o:Out g g' V V') (hd:q.hi<=q.hb/\q.hb<q.lo2/\q.hi2<=q.rb/\q.rb<q.bk/\q.bk<q.B/\q.B<g/\4<=q.lo/\q.lo<=q.hi/\q.lo2<=q.hi2) (hg:w.heap.size<=g):E9 q st w V':=by
 obtain⟨st',e1,e2,e3,e4,e5,e6,e7⟩:=e;exact⟨st',e1.kept o (by omega) (by omega),e2.kept o (by omega),e3,e4,e5.past o hg,o.cell e6 (by omega),o.cell e7 (by omega)⟩
section
variable {w:World} {q:Q9} {st:Sp} {c:Nat}
theorem x1f (h:PB w q st c) (hl:st.last<4611686018427387904) {p:Option Addr} {bs:List Int} {cp b0:Nat} (hB:ByIn w b0 p bs) (gV:b0<=q.lo) (hn:bs.length<=100000):Kz 24 #[Pq q.B,.slice p bs.length cp] w fun e w'=>e=.returned (.bool true)/\E9 q st w w':=by
 have HP:=Q3 h;have cI:=Q3 h.od;have cY:=h.od;obtain⟨bo,dH⟩:∃ b,w.heap.size=b:=⟨_,rfl⟩
 rw[dH] at cY;unfold Od at cY;have HLe:=Q3 (q9n (cp:=cp) hB.bytes hn);have HLe2:Hid (∀ V,ByIn V b0 p bs->Kz 63 #[.slice p bs.length cp] V fun e w'=>∃ G cc,e=.returned (Sz G (bs.length+2) cc)/\LRow w' G bs/\V.heap.size<=G/\Out 0 0 V w'/\bs.length+2<=cc):=fun V hV=>q9n hV.bytes hn
 have HBy:=Q3 hB.1;obtain⟨y0,y1,e0,a0,st',hq⟩:∃ y0 y1 e a s',mtQ q.n st bs=((y0,y1),(e,a),s'):=⟨_,_,_,_,_,rfl⟩
 have lP:Hid (WI q.n st'.W/\st'.last<=st.last+1):=by
  have q0:=WI.mq HP.out.wi (bs:=bs) (by omega);rw[hq] at q0;exact q0
 have eK:Hid (∀ V lim G cc,Mx q w lim st st V->cq V q.hb 0=some (Pq (q.s 14))->LRow V G bs->q.hi<=G->bs.length+2<=cc->Kz 64 #[Pq q.hb,Sz G bs.length cc] V fun e w'=>e=.returned (.tuple #[Vz y0 y1,Vz e0 a0])/\Mx q w lim st' st w'/\Out q.lo q.hi V w'):=fun V lim G cc hM hc hL hG hcc=>by
  have q0:=cI.out;unfold Od at q0;exact(q2h hM.sp hc (by omega) hl (hL.head HBy.out) (by omega) (fun g cK e=>by cases e;omega) hq).mono fun e w' ⟨h1,h2,h3⟩=>⟨h1,hM.p cI.out h2 h3,h3⟩
 have gH:Hid (∀ V lim,Mx q w lim st' st V->cq V q.rb 0=some (Pq (q.s2 0))->ByIn V b0 p bs->Kz 65 #[Pq q.rb,.slice p bs.length cp] V fun e w'=>e=.returned (.tuple #[Vz y0 y1,Vz e0 a0])/\Mx q w lim st' st' w'/\Out q.lo2 q.hi2 V w'):=fun V lim hM hc hA=>by
  have q0:=cI.out;unfold Od at q0;exact(q1q hM.rf HP.out.inv (fun k z t=>x2a HP.out.inv k z t) hc (by omega) hl hA.bytes (fun fG g cK e=>by
   rcases hA.2 with h1 | ⟨g',off',h1,h2,_⟩
   ·exact absurd h1 fG
   ·rw[h1] at e;cases e;omega) hq).mono fun e w' ⟨h1,h2,h3⟩=>⟨h1,hM.r cI.out h2 h3,h3⟩
 obtain⟨dK,dJ,_⟩:=h.cells;have dG:=h.be.pc;have dA:=h.be.rc;obtain⟨N,hN⟩:∃ N,bs.length=N:=⟨_,rfl⟩
 rw[hN] at HLe HLe2 eK gH ⊢;have HN:=Q3 hN;have N1:(N:Int)<=100000:=by omega
 have N0:(0:Int)<=(N:Int):=by omega
 have N2:N<=100000:=by omega
 have cM:=hB;have hmd:=h.md (Out.refl 0 0 w);clear h hB hn hq hN;go_enter Tryz.func24,Tryz.ntmps24
 go_wp2_with fail;refine HLe.out.mono ?_;rintro e W ⟨G,cc,rfl,hL,hG,o1,hcc⟩;have aD:=hmd.quiet o1;replace cM:=cM.kept o1 (.inr rfl);replace dK:=o1.cell dK z0;replace dJ:=o1.cell dJ z0;replace dG:=o1.cell dG z0;replace dA:=o1.cell dA z0;rw[dH] at hG;have hb0':w.heap.size<=bo:=Nat.le_of_eq dH;obtain⟨eZ,nN⟩:∃ b,G+1=b:=⟨_,rfl⟩
 have bN:eZ<=W.heap.size:=by have:=Row.lt hL;omega
 have cc1:(N:Int)+2<=(cc:Int):=by omega
 have cc2:N<=cc:=by omega
 clear hmd o1 dH HLe;go_wp2_with fail;obtain⟨iL,hlm2⟩:∃ l,W.heap.size=l:=⟨_,rfl⟩
 replace aD:=aD.at;rw[hlm2] at aD;have hlim2:eZ<=iL:=by rw[<-hlm2];exact bN
 clear hlm2;rename_i K hK
 apply x2x (K:=K) (F:=fun g6 g7 V=>LRow V G bs/\ByIn V b0 p bs/\Mx q w iL st' st V/\(fun w'=>cq w' q.B 0=some (Pq q.hb)/\cq w' q.B 1=some (Pq q.rb)/\cq w' q.hb 0=some (Pq (q.s 14))/\cq w' q.rb 0=some (Pq (q.s2 0))) V/\V.heap[g6]? = some (Dz y0 y1 32)/\iL<=g6/\V.heap[g7]? = some (Dz e0 a0 46)/\iL<=g7)
 case h1=>
  intro nA;have HK:=Q3 nA;have kp:∀ {V V':World} {x y:Nat},(fun w'=>cq w' q.B 0=some (Pq q.hb)/\cq w' q.B 1=some (Pq q.rb)/\cq w' q.hb 0=some (Pq (q.s 14))/\cq w' q.rb 0=some (Pq (q.s2 0))) V->Out x y V V'->(q.B<x\/y<=q.B)/\(q.hb<x\/y<=q.hb)/\(q.rb<x\/y<=q.rb)->(fun w'=>cq w' q.B 0=some (Pq q.hb)/\cq w' q.B 1=some (Pq q.rb)/\cq w' q.hb 0=some (Pq (q.s 14))/\cq w' q.rb 0=some (Pq (q.s2 0))) V':=fun h o b=>⟨o.cell h.1 b.1,o.cell h.2.1 b.1,o.cell h.2.2.1 b.2.1,o.cell h.2.2.2 b.2.2⟩
  refine wp_region_held_drew (S:=fun w'=>cq w' q.B 0=some (Pq q.hb)/\cq w' q.B 1=some (Pq q.rb)/\cq w' q.hb 0=some (Pq (q.s 14))/\cq w' q.rb 0=some (Pq (q.s2 0))) (by kernel_rfl) ?hS329 (fun aB=>?rest329)
  case hS329=>exact⟨dK,dJ,dG,dA⟩
  obtain⟨Z2,hZ⟩:∃ Z,W.drew=Z:=⟨_,rfl⟩
  have oZ:Out 0 0 W Z2:=by rw[<-hZ];exact(Out.refl 0 0 _).drew
  rw[hZ] at aB ⊢;replace aD:=aD.quiet oZ;replace hL:=hL.kept oZ (by omega);replace cM:=cM.kept oZ (by omega);apply q6j (F:=fun g6 g7 V=>Mx q w iL st' st V/\(fun w'=>cq w' q.B 0=some (Pq q.hb)/\cq w' q.B 1=some (Pq q.rb)/\cq w' q.hb 0=some (Pq (q.s 14))/\cq w' q.rb 0=some (Pq (q.s2 0))) V/\V.heap[g6]? = some (Dz 0 0 32)/\iL<=g6/\V.heap[g7]? = some (Dz 0 0 46)/\iL<=g7/\g6 ≠ g7/\LRow V G bs/\ByIn V b0 p bs)
  case h1=>
   intro HC;refine tk 0 ?_;refine tk 1 ?_;refine tk 2 ?_;refine tk 3 ?_;refine tk 4 ?_;refine tk 5 ?_;refine tk 6 ?_;refine tk 7 ?_;refine rd3 8 12 13 (fun KK hK=>?_) (fun KK hK=>?_) fun KK hK=>?_
   ·go_simp;refine(eK.out _ _ _ _ aD aB.2.2.1 hL (by omega) (by omega)).mono ?_;rintro e Z2_8 ⟨rfl,aJ,q1⟩;have aD:=aJ;clear aJ;replace hL:=hL.kept q1 (by omega);replace cM:=cM.kept q1 (by omega);refine hK.out _ _ (kp aB q1 (by omega)) fun aB=>?_
    clear q1 hK KK;refine tk 9 ?_;refine tk 10 ?_;refine tk 11 ?_;refine rd2 12 13 (fun KK hK=>?_) fun KK hK=>?_
    ·go_simp;obtain⟨g6,kF,aE,hY,qA,cS⟩:=alz Z2_8 (Dz 0 0 32)
     have gB:iL<=g6:=by rw[<-aE];exact aD.lim
     (try rw[hY]);(try rw[aE]);clear hY aE;replace aD:=aD.quiet qA;replace hL:=hL.kept qA (by omega);replace cM:=cM.kept qA (by omega);refine hK.out _ _ (kp aB qA (by omega)) fun aB=>?_
     clear qA hK KK;refine rd1 13 fun KK hK=>?_
     go_simp;obtain⟨g7,mL,aE,hY,qA,cR⟩:=alz kF (Dz 0 0 46)
     have fZ:iL<=g7:=by rw[<-aE];exact aD.lim
     have hn_g6_g7:g6<g7:=by rw[<-aE];exact Q7 cS
     (try rw[hY]);(try rw[aE]);clear hY aE;replace aD:=aD.quiet qA;replace cS:=qA.heap cS z0;replace hL:=hL.kept qA (by omega);replace cM:=cM.kept qA (by omega);refine hK.out _ _ (kp aB qA (by omega)) fun aB=>?_
     clear qA hK KK;(try simp only[Act.put,xa,xb,xc,xd,xe,xf]);exact HC g6 g7 _ ⟨aD,aB,cS,gB,cR,fZ,by omega,hL,cM⟩
    ·go_simp;obtain⟨g7,kE,aE,hY,qA,cR⟩:=alz Z2_8 (Dz 0 0 46)
     have fZ:iL<=g7:=by rw[<-aE];exact aD.lim
     (try rw[hY]);(try rw[aE]);clear hY aE;replace aD:=aD.quiet qA;replace hL:=hL.kept qA (by omega);replace cM:=cM.kept qA (by omega);refine hK.out _ _ (kp aB qA (by omega)) fun aB=>?_
     clear qA hK KK;refine rd1 12 fun KK hK=>?_
     go_simp;obtain⟨g6,mK,aE,hY,qA,cS⟩:=alz kE (Dz 0 0 32)
     have gB:iL<=g6:=by rw[<-aE];exact aD.lim
     have hn_g7_g6:g7<g6:=by rw[<-aE];exact Q7 cR
     (try rw[hY]);(try rw[aE]);clear hY aE;replace aD:=aD.quiet qA;replace cR:=qA.heap cR z0;replace hL:=hL.kept qA (by omega);replace cM:=cM.kept qA (by omega);refine hK.out _ _ (kp aB qA (by omega)) fun aB=>?_
     clear qA hK KK;(try simp only[Act.put,xa,xb,xc,xd,xe,xf]);exact HC g6 g7 _ ⟨aD,aB,cS,gB,cR,fZ,by omega,hL,cM⟩
   ·go_simp;obtain⟨g6,Z2_12,aE,hY,qA,cS⟩:=alz Z2 (Dz 0 0 32)
    have gB:iL<=g6:=by rw[<-aE];exact aD.lim
    (try rw[hY]);(try rw[aE]);clear hY aE;replace aD:=aD.quiet qA;replace hL:=hL.kept qA (by omega);replace cM:=cM.kept qA (by omega);refine hK.out _ _ (kp aB qA (by omega)) fun aB=>?_
    clear qA hK KK;refine rd2 8 13 (fun KK hK=>?_) fun KK hK=>?_
    ·go_simp;refine(eK.out _ _ _ _ aD aB.2.2.1 hL (by omega) (by omega)).mono ?_;rintro e Z2_12_8 ⟨rfl,aJ,q1⟩;have aD:=aJ;clear aJ;replace cS:=q1.heap cS (by omega);replace hL:=hL.kept q1 (by omega);replace cM:=cM.kept q1 (by omega);refine hK.out _ _ (kp aB q1 (by omega)) fun aB=>?_
     clear q1 hK KK;refine tk 9 ?_;refine tk 10 ?_;refine tk 11 ?_;refine rd1 13 fun KK hK=>?_
     go_simp;obtain⟨g7,mN,aE,hY,qA,cR⟩:=alz Z2_12_8 (Dz 0 0 46)
     have fZ:iL<=g7:=by rw[<-aE];exact aD.lim
     have hn_g6_g7:g6<g7:=by rw[<-aE];exact Q7 cS
     (try rw[hY]);(try rw[aE]);clear hY aE;replace aD:=aD.quiet qA;replace cS:=qA.heap cS z0;replace hL:=hL.kept qA (by omega);replace cM:=cM.kept qA (by omega);refine hK.out _ _ (kp aB qA (by omega)) fun aB=>?_
     clear qA hK KK;(try simp only[Act.put,xa,xb,xc,xd,xe,xf]);exact HC g6 g7 _ ⟨aD,aB,cS,gB,cR,fZ,by omega,hL,cM⟩
    ·go_simp;obtain⟨g7,Z2_12_13,aE,hY,qA,cR⟩:=alz Z2_12 (Dz 0 0 46)
     have fZ:iL<=g7:=by rw[<-aE];exact aD.lim
     have hn_g6_g7:g6<g7:=by rw[<-aE];exact Q7 cS
     (try rw[hY]);(try rw[aE]);clear hY aE;replace aD:=aD.quiet qA;replace cS:=qA.heap cS z0;replace hL:=hL.kept qA (by omega);replace cM:=cM.kept qA (by omega);refine hK.out _ _ (kp aB qA (by omega)) fun aB=>?_
     clear qA hK KK;refine rd1 8 fun KK hK=>?_
     go_simp;refine(eK.out _ _ _ _ aD aB.2.2.1 hL (by omega) (by omega)).mono ?_;rintro e Z2_12_13_8 ⟨rfl,aJ,q1⟩;have aD:=aJ;clear aJ;replace cS:=q1.heap cS (by omega);replace cR:=q1.heap cR (by omega);replace hL:=hL.kept q1 (by omega);replace cM:=cM.kept q1 (by omega);refine hK.out _ _ (kp aB q1 (by omega)) fun aB=>?_
     clear q1 hK KK;refine tk 9 ?_;refine tk 10 ?_;refine tk 11 ?_;exact HC g6 g7 _ ⟨aD,aB,cS,gB,cR,fZ,by omega,hL,cM⟩
   ·go_simp;obtain⟨g7,Z2_13,aE,hY,qA,cR⟩:=alz Z2 (Dz 0 0 46)
    have fZ:iL<=g7:=by rw[<-aE];exact aD.lim
    (try rw[hY]);(try rw[aE]);clear hY aE;replace aD:=aD.quiet qA;replace hL:=hL.kept qA (by omega);replace cM:=cM.kept qA (by omega);refine hK.out _ _ (kp aB qA (by omega)) fun aB=>?_
    clear qA hK KK;refine rd2 8 12 (fun KK hK=>?_) fun KK hK=>?_
    ·go_simp;refine(eK.out _ _ _ _ aD aB.2.2.1 hL (by omega) (by omega)).mono ?_;rintro e Z2_13_8 ⟨rfl,aJ,q1⟩;have aD:=aJ;clear aJ;replace cR:=q1.heap cR (by omega);replace hL:=hL.kept q1 (by omega);replace cM:=cM.kept q1 (by omega);refine hK.out _ _ (kp aB q1 (by omega)) fun aB=>?_
     clear q1 hK KK;refine tk 9 ?_;refine tk 10 ?_;refine tk 11 ?_;refine rd1 12 fun KK hK=>?_
     go_simp;obtain⟨g6,mM,aE,hY,qA,cS⟩:=alz Z2_13_8 (Dz 0 0 32)
     have gB:iL<=g6:=by rw[<-aE];exact aD.lim
     have hn_g7_g6:g7<g6:=by rw[<-aE];exact Q7 cR
     (try rw[hY]);(try rw[aE]);clear hY aE;replace aD:=aD.quiet qA;replace cR:=qA.heap cR z0;replace hL:=hL.kept qA (by omega);replace cM:=cM.kept qA (by omega);refine hK.out _ _ (kp aB qA (by omega)) fun aB=>?_
     clear qA hK KK;(try simp only[Act.put,xa,xb,xc,xd,xe,xf]);exact HC g6 g7 _ ⟨aD,aB,cS,gB,cR,fZ,by omega,hL,cM⟩
    ·go_simp;obtain⟨g6,Z2_13_12,aE,hY,qA,cS⟩:=alz Z2_13 (Dz 0 0 32)
     have gB:iL<=g6:=by rw[<-aE];exact aD.lim
     have hn_g7_g6:g7<g6:=by rw[<-aE];exact Q7 cR
     (try rw[hY]);(try rw[aE]);clear hY aE;replace aD:=aD.quiet qA;replace cR:=qA.heap cR z0;replace hL:=hL.kept qA (by omega);replace cM:=cM.kept qA (by omega);refine hK.out _ _ (kp aB qA (by omega)) fun aB=>?_
     clear qA hK KK;refine rd1 8 fun KK hK=>?_
     go_simp;refine(eK.out _ _ _ _ aD aB.2.2.1 hL (by omega) (by omega)).mono ?_;rintro e Z2_13_12_8 ⟨rfl,aJ,q1⟩;have aD:=aJ;clear aJ;replace cR:=q1.heap cR (by omega);replace cS:=q1.heap cS (by omega);replace hL:=hL.kept q1 (by omega);replace cM:=cM.kept q1 (by omega);refine hK.out _ _ (kp aB q1 (by omega)) fun aB=>?_
     clear q1 hK KK;refine tk 9 ?_;refine tk 10 ?_;refine tk 11 ?_;exact HC g6 g7 _ ⟨aD,aB,cS,gB,cR,fZ,by omega,hL,cM⟩
  case h2=>
   intro g6 g7 Z2X hF;obtain⟨aD,aB,cS,gB,cR,fZ,hne2,hL,cM⟩:=hF;refine rd1 14 fun KK hK=>?_
   simp only[xa,xb,xc];obtain⟨Y0,Y1,Y2,Y3⟩:=flt_facts cS;go_simp;obtain⟨pF,hY,qS⟩:=s2z Z2X g6 y0 y1
   replace cS:pF.heap[g6]? = some (Dz y0 y1 32):=by rw[<-hY];simp[World.setCell,Array.getElem?_modify,cS]
   (try rw[hY]);clear hY;replace aD:=aD.far qS cI.out (by omega);replace cR:=qS.heap cR (by omega);replace hL:=hL.kept qS (by omega);replace cM:=cM.kept qS (by omega);refine hK.out _ _ (kp aB qS (by omega)) fun aB=>?_
   clear qS hK KK;refine rd1 15 fun KK hK=>?_
   simp only[xa,xb,xc];obtain⟨Y0,Y1,Y2,Y3⟩:=flt_facts cR;go_simp;obtain⟨oG,hY,qS⟩:=s2z pF g7 e0 a0
   replace cR:oG.heap[g7]? = some (Dz e0 a0 46):=by rw[<-hY];simp[World.setCell,Array.getElem?_modify,cR]
   (try rw[hY]);clear hY;replace aD:=aD.far qS cI.out (by omega);replace cS:=qS.heap cS (by omega);replace hL:=hL.kept qS (by omega);replace cM:=cM.kept qS (by omega);refine hK.out _ _ (kp aB qS (by omega)) fun aB=>?_
   clear qS hK KK;refine dn ?_;exact HK.out g6 g7 _ ⟨hL,cM,aD,aB,cS,gB,cR,fZ⟩
 case h2=>
  intro g6 g7 V2 hF;clear hL cM aD;obtain⟨hL,cM,aD,⟨dK,dJ,dG,dA⟩,cS,gB,cR,fZ⟩:=hF;apply hK;clear hK;have bN:eZ<=V2.heap.size:=Nat.le_trans hlim2 aD.lim;have HMd:=Q3 aD;have HBa:=Q3 cM;have HLr:=Q3 hL;have Hf:=Q3 (And.intro cS (And.intro cR (And.intro dG dA)));clear dG;go_wp2_with fail;refine(gH.out _ _ HMd.out dA HBa.out).mono ?_;rintro e V3 ⟨rfl,mid3,q3⟩;have H3:=Q3 (And.intro mid3 q3);clear mid3 q3 dA;go_wp2_with fail;obtain⟨mid3,q3⟩:=H3.out;obtain⟨V4,bV⟩:∃ V,(V3.alloc (Dz y0 y1 32)).alloc (Dz e0 a0 46)=V:=⟨_,rfl⟩
  obtain⟨g8,hg8⟩:∃ g,V3.heap.size=g:=⟨_,rfl⟩
  have k8:=J0 (w:=V3) (o:=Dz y0 y1 32) (o2:=Dz e0 a0 46);have k9:=J4 (w:=V3) (o:=Dz y0 y1 32) (o2:=Dz e0 a0 46);have q4:=((Out.refl 0 0 V3).alloc (Dz y0 y1 32)).alloc (Dz e0 a0 46);(try rw[bV]);(try rw[hg8]);rw[bV,hg8] at k8 k9;rw[bV] at q4;obtain⟨g9,hg9⟩:∃ g,g8+1=g:=⟨_,rfl⟩
  (try rw[hg9]);rw[hg9] at k9;have h6:=q4.heap (q3.heap Hf.out.1 (by omega)) z0;have h7:=q4.heap (q3.heap Hf.out.2.1 (by omega)) z0;have lQ:=q4.cell (q3.cell Hf.out.2.2.1 (by omega)) z0;have kc3:=q4.cell (q3.cell Hf.out.2.2.2 (by omega)) z0;have hL:=(HLr.out.kept q3 (by omega)).kept q4 z0;have cM:=(HBa.out.kept q3 (by omega)).kept q4 (.inr rfl);have aD:=mid3.quiet q4;obtain⟨dK,dJ,_,_⟩:=Q5 h6;obtain⟨dG,dA,_,_⟩:=Q5 k8;obtain⟨dV,eY,_,_⟩:=flt_facts h7;obtain⟨gW,cl7,_,_⟩:=flt_facts k9;have cl8:=z5o (cc:=cc) (hL.kept (Out.refl 0 0 V4).drew z0) HBy.out HN.out;have hEv:=eqv1 y0 y1;have bN:eZ<=V4.heap.size:=Nat.le_trans hlim2 aD.lim;clear HMd HBa HLr Hf mid3 q3 q4 k8 k9 h6 h7 H3 bV hg8 hg9;obtain⟨fQ,oO⟩:∃ l,V4.heap.size=l:=⟨_,rfl⟩
  replace aD:=aD.at;rw[oO] at aD;have hlim4:eZ<=fQ:=by rw[<-oO];exact bN
  clear oO;refine wp_region_held_drew (S:=fun w'=>cq w' g6 0=some (Iz y0)/\cq w' g6 1=some (Iz y1)/\cq w' g8 0=some (Iz y0)/\cq w' g8 1=some (Iz y1)/\cq w' g7 0=some (Iz e0)/\cq w' g7 1=some (Iz a0)/\cq w' g9 0=some (Iz e0)/\cq w' g9 1=some (Iz a0)/\(Go.convert 33 9 (Sz G (N+2) cc)).run Tryz.prog w'=.ok (.string (strOfNums (lbL bs))) w') (by kernel_rfl) ?hS311 (fun aB=>?rest311)
  case hS311=>exact⟨dK,dJ,dG,dA,dV,eY,gW,cl7,cl8⟩
  obtain⟨Z4,hZ⟩:∃ Z,V4.drew=Z:=⟨_,rfl⟩
  have oZ:Out 0 0 V4 Z4:=by rw[<-hZ];exact(Out.refl 0 0 _).drew
  rw[hZ] at aB ⊢;replace aD:=aD.quiet oZ;replace hL:=hL.kept oZ (by omega);replace cM:=cM.kept oZ (by omega);replace lQ:=oZ.cell lQ (by omega);replace kc3:=oZ.cell kc3 (by omega);clear hZ oZ dK dJ dG dA dV eY gW cl7 cl8;refine tk 0 ?_;refine tk 1 ?_;refine tk 2 ?_;refine tk 3 ?_;refine tk 4 ?_;refine tk 5 ?_;refine rd1 6 fun KK hK=>?_
  go_simp;refine(z4t _ _ _ _ _).mono ?_;rintro e Z4_6 ⟨rfl,q1⟩;replace aD:=aD.quiet q1;replace hL:=hL.kept q1 (by omega);replace cM:=cM.kept q1 (by omega);replace lQ:=q1.cell lQ (by omega);replace kc3:=q1.cell kc3 (by omega);refine hK.out _ _ ⟨q1.cell aB.1 (by omega),q1.cell aB.2.1 (by omega),q1.cell aB.2.2.1 (by omega),q1.cell aB.2.2.2.1 (by omega),q1.cell aB.2.2.2.2.1 (by omega),q1.cell aB.2.2.2.2.2.1 (by omega),q1.cell aB.2.2.2.2.2.2.1 (by omega),q1.cell aB.2.2.2.2.2.2.2.1 (by omega),z5o hL HBy.out HN.out⟩ fun aB=>?_
  clear q1 hK KK;refine tk 7 ?_;refine tk 8 ?_;refine tk 9 ?_;refine tk 10 ?_;refine tk 11 ?_;refine rd1 12 fun KK hK=>?_
  go_simp;refine(HLe2.out _ cM).mono ?_;rintro e Z4_6_12 ⟨G2,cc9,rfl,hL2,hG2,q1,hcc9⟩;have hcv:=z5o (cc:=cc9) hL2 HBy.out HN.out;clear hL2 hcc9;replace aD:=aD.quiet q1;replace hL:=hL.kept q1 (by omega);replace cM:=cM.kept q1 (by omega);replace lQ:=q1.cell lQ (by omega);replace kc3:=q1.cell kc3 (by omega);refine hK.out _ _ ⟨q1.cell aB.1 (by omega),q1.cell aB.2.1 (by omega),q1.cell aB.2.2.1 (by omega),q1.cell aB.2.2.2.1 (by omega),q1.cell aB.2.2.2.2.1 (by omega),q1.cell aB.2.2.2.2.2.1 (by omega),q1.cell aB.2.2.2.2.2.2.1 (by omega),q1.cell aB.2.2.2.2.2.2.2.1 (by omega),z5o hL HBy.out HN.out⟩ fun aB=>?_
  clear q1 hK KK;refine rd1 13 fun KK hK=>?_
  go_simp;clear hcv;refine hK.out _ _ (aB) fun aB=>?_
  clear hK KK;refine tk 14 ?_;refine tk 15 ?_;refine tk 16 ?_;refine dn ?_;have pK:=Q3 (aD.e9 (st:=st) lP.out.1 lP.out.2 lQ kc3);clear aB;have HE:=Q3 aD;have HRw:=Q3 (show Row Z4_6_12 G 5 (N+2) (fun j=>.int .u8 ((lbL bs)[j]?.getD 0)) from by have:=hL;unfold LRow at this;rw[HN.out] at this;exact this);have HGb:=Q3 (And.intro hG (And.intro cY hb0'));go_wp2_with fail;obtain⟨T,hT⟩:∃ T,N+2=T:=⟨_,rfl⟩
  have HT:=Q3 hT;have T1:(N:Int)+2=(T:Int):=by omega
  rw[hT] at HRw;(try rw[hT]);clear aD hL cM;go_loopw [11] (fun u wr=>∃ i:Nat,u=Iz (i:Int)/\i<=T/\(∃ f:Nat->Int,Row wr G 5 T (fun j=>.int .u8 (f j)))/\E9 q st w wr) (fun u _=>T-(intOf u).toNat)
  case atStart=>exact⟨0,rfl,Nat.zero_le _,⟨_,HRw.out⟩,pK.out⟩
  case round=>
   obtain⟨i,rfl,i1,⟨f,hr⟩,he⟩:=hrel;have i0:(0:Int)<=(i:Int):=by omega
   by_cases hi:i<T
   ·have il:(i:Int)<(T:Int):=by omega
    have d0:=hr.cell hi;have d1:=hr.frozen i;(try dsimp only at d0);have HS:=Q3 (And.intro ((hr.set i (.int .u8 51)).congr (g:=fun j=>.int .u8 (if j=i then 51 else f j)) fun j _=>by by_cases e:j=i <;> simp[e]) (he.far ((Out.refl G (G+1) wr).setCell (p:=⟨G,i,none⟩) z1 (.int .u8 51)) (by have:=HGb.out;omega) (by have:=HGb.out;omega)));clear hr he;go_wp2_with fail;exact⟨⟨i+1,by congr 1,by omega,⟨_,HS.out.1⟩,HS.out.2⟩,by simp[intOf] <;> omega⟩
   ·have e:i=T:=by omega
    subst e;have HE2:=Q3 he;clear hr he;go_wp2;go_ret;exact⟨z0d (by simp),HE2.out⟩
end
def j2s (w:World) (p:Option Addr) (l:List Int):Prop:=l=[]\/∃ g cK,p=some ⟨g,cK,none⟩/\g<w.heap.size/\∀ j,j<l.length->w.cell? ⟨g,cK+j,none⟩=some (.int .i64 (l[j]?.getD 0))
def z1y (st:Sp):Nat->Nat->Bool
 | 0,_=>false
 | p+1,j=>z1y st p j || (Y6 (st.O p) && decide (p<=j/\j<p+Y8 (st.O p).2.1))
def tzW (n:Nat) (st:Sp) (k:Nat):Nat->Int:=fun j=>if j<k/\z1y st (64*n) j=false then 0 else st.W j
theorem x5n (n:Nat) (st:Sp):tzW n st 0=st.W:=by funext j;unfold tzW;rw[if_neg (by omega)]
theorem x5m (n:Nat) (st:Sp) (k:Nat):(if z1y st (64*n) k then tzW n st k else z2p (tzW n st k) k 0)=tzW n st (k+1):=by
 funext j
 cases h:z1y st (64*n) k with
 | true=>
  rw[if_pos rfl];unfold tzW;by_cases e:j=k
  ·rw[e,if_neg (by omega),if_neg (fun q=>by rw[h] at q;cases q.2)]
  ·by_cases h1:j<k/\z1y st (64*n) j=false
   ·rw[if_pos h1,if_pos ⟨by omega,h1.2⟩]
   ·rw[if_neg h1,if_neg (fun q=>h1 ⟨by omega,q.2⟩)]
 | false=>
  rw[if_neg (by simp)];unfold z2p tzW;by_cases e:j=k
  ·rw[if_pos e,if_pos ⟨by omega,by rw[e];exact h⟩]
  ·rw[if_neg e];by_cases h1:j<k/\z1y st (64*n) j=false
   ·rw[if_pos h1,if_pos ⟨by omega,h1.2⟩]
   ·rw[if_neg h1,if_neg (fun q=>h1 ⟨by omega,q.2⟩)]
section
variable {w:World} {lo hi n cw co:Nat} {s:Nat->Nat} {st:Sp}
theorem q8a (h:RfAt w lo hi s n cw co st) (hI:Inv n st) :
  Kz 143 #[Pq (s 0)] w fun e w'=>(∃ v,e=.returned v)/\RfAt w' lo hi s n cw co (q0q n { st with W:=tzW n st (64*n) } 8)/\Out lo hi w w':=by
 have h2:=h.n2;have c0:=h.cells.1;obtain⟨M,hM⟩:∃ M,64*n=M:=⟨_,rfl⟩
 rw[hM] at c0;have M1:(M:Int)<=262144:=by omega
 have M0:(0:Int)<=(M:Int):=by omega
 have hmk:=run_make_row' (P:=Tryz.prog) 187 4 (.bool false) 1 Tryz.underlying187 (by kernel_rfl) rfl .i64 .i64 M (by omega) (by omega);have HM:=Q3 hM;have HI:=Q3 hI;have HH:=Q3 h;obtain⟨G,hG⟩:∃ G,w.heap.size=G:=⟨_,rfl⟩
 have HGs:Hid (hi<=G/\w.heap.size=G):=⟨by rw[<-hG];exact h.top,hG⟩
 clear h hI h2 hM;go_enter Tryz.func143,Tryz.ntmps143
 go_wp2_with fail;clear c0;have o0:Out 0 0 w (w.alloc (.cells (madeCells #[Value.bool false] M) 4)):=(Out.refl 0 0 w).alloc _;have r0:Row (w.alloc (.cells (madeCells #[Value.bool false] M) 4)) G 4 M (fun j=>.bool (z1y st 0 j)):=by
  refine⟨_,by rw[<-hG];exact heap_alloc_new _ _,by simp[madeCells],fun i bQ=>?_⟩;simp[madeCells,bQ,Nat.mod_one,z1y]
 have H0:=Q3 (And.intro o0 r0);clear o0 r0;go_loopw [3] (fun u wr=>∃ a:Nat,u=Iz (a:Int)/\a<=M/\Row wr G 4 M (fun j=>.bool (z1y st a j))/\Out 0 0 w wr) (fun u _=>M-(intOf u).toNat)
 case atStart=>exact⟨0,rfl,Nat.zero_le _,H0.out.2,H0.out.1⟩
 case round=>
  clear H0;obtain⟨a,rfl,ab,hB,hO⟩:=hrel;have hR:=HH.out.quiet hO;have a0:(0:Int)<=(a:Int):=by omega
  have c2:=hR.cells.2.2.1;rw[HM.out] at c2;by_cases ha:a<M
  ·have a1:(a:Int)<(M:Int):=by omega
   have hm:=HM.out;have d1:=hR.ro.cell (i:=a*5+1) (by omega);have d2:=hR.ro.cell (i:=a*5+2) (by omega);rw[z5r] at d1;have HB:=Q3 (And.intro hB hO);cases hb:Y6 (st.O a) with
   | false=>
    rw[hb,if_neg (by simp)] at d1;have gK:Hid (z1y st (a+1)=z1y st a):=by
     show _=_
     funext j
     show (z1y st a j || (Y6 (st.O a) && _))=_
     rw[hb];simp
    clear hb hm hR hB hO;go_wp2_with fail;go_loopw [4] (fun u wq=>u=Iz 0/\wq=wr) (fun _ _=>0)
    case atStart=>exact⟨rfl,rfl⟩
    case round=>
     obtain⟨rfl,rfl⟩:=hrel;go_wp2_with fail;exact⟨⟨a+1,by congr 1,by omega,by rw[gK.out];exact HB.out.1,HB.out.2⟩,by simp[intOf] <;> omega⟩
   | true=>
    obtain⟨o0,o1,o2,o3,o4⟩:=q4e (st:=st) hb;have hfz:=U3 (HI.out.objs a hb).2.1;have hrm:=(q5e HI.out hb).2;obtain⟨k,hk⟩:∃ k,(st.O a).1=k:=⟨_,rfl⟩
    obtain⟨z,hz⟩:∃ z,(st.O a).2.1=z:=⟨_,rfl⟩
    rw[hb,if_pos rfl,hk] at d1;rw[o2,hz] at d2;rw[hz] at hfz hrm;have oP:k ≠ 0:=by unfold Y6 at hb;rw[hk] at hb;simpa using hb
    have hkb:(k != 0)=true:=by simpa using oP
    have HRm:=Q3 (fun w=>z9h hfz.2.2.1 hfz.2.2.2 w);obtain⟨rm,hr⟩:∃ r,Y8 z=r:=⟨_,rfl⟩
    rw[hr] at HRm hrm;have r1:(rm:Int)<=262144:=by omega
    have r0:(0:Int)<=(rm:Int):=by omega
    have gK:Hid (∀ j,z1y st (a+1) j=(z1y st a j || decide (a<=j/\j<a+rm))):=fun j=>by
     show (z1y st a j || (Y6 (st.O a) && decide (a<=j/\j<a+Y8 (st.O a).2.1)))=_
     rw[hb,hz,hr];simp
    have HRt:=Q3 (And.intro hrm hm);have HCk:Hid (obC st (a*5+1)=k/\obC st (a*5+2)=z):=⟨o1.trans hk,o2.trans hz⟩
    clear hb hR hB hO o0 o1 o2 o3 o4 hfz hk hz hr hrm hm;go_wp2_with fail;clear c2 d1 d2;go_loopw [4] (fun u wq=>∃ i:Nat,u=Iz (i:Int)/\i<=rm/\Row wq G 4 M (fun j=>.bool (z1y st a j || decide (a<=j/\j<a+i)))/\Out 0 0 w wq) (fun u _=>rm-(intOf u).toNat)
    case atStart=>exact⟨0,rfl,Nat.zero_le _,HB.out.1.congr fun j _=>by simp;omega,HB.out.2⟩
    case round=>
     obtain⟨i,rfl,ib,iT,hO2⟩:=hrel;have i0:(0:Int)<=(i:Int):=by omega
     have hR2:=HH.out.quiet hO2;have c2:=hR2.cells.2.2.1;rw[HM.out] at c2;have d1:=hR2.ro.cell (i:=a*5+1) (by have:=HRt.out;omega);have d2:=hR2.ro.cell (i:=a*5+2) (by have:=HRt.out;omega);rw[HCk.out.1] at d1;rw[HCk.out.2] at d2;by_cases bQ:i<rm
     ·have i1:(i:Int)<(rm:Int):=by omega
      obtain⟨x,hx⟩:∃ x,a+i=x:=⟨_,rfl⟩
      have x0:(a:Int)+(i:Int)=(x:Int):=by omega
      have xM:x<M:=by have:=HRt.out;omega
      have x1:(0:Int)<=(x:Int):=by omega
      have x2:(x:Int)<(M:Int):=by omega
      have e0:=iT.cell xM;have e1:=iT.frozen x;(try dsimp only at e0);obtain⟨q,hq⟩:∃ q,(z1y st a x || decide (a<=x/\x<a+i))=q:=⟨_,rfl⟩
      rw[hq] at e0;have oS:Out G (G+1) wr (wr.setCell ⟨G,x,none⟩ (.bool true)):=(Out.refl _ _ _).setCell (p:=⟨G,x,none⟩) z1 _;have HS:Hid (Row (wr.setCell ⟨G,x,none⟩ (.bool true)) G 4 M (fun j=>.bool (z1y st a j || decide (a<=j/\j<a+(i+1))))/\Out 0 0 w (wr.setCell ⟨G,x,none⟩ (.bool true))):=by
       refine⟨(iT.set x (.bool true)).congr fun j _=>?_,hO2.past oS (by have:=HGs.out;omega)⟩;by_cases e:j=x
       ·rw[if_pos e,show decide (a<=j/\j<a+(i+1))=true from by simp;omega];simp
       ·rw[if_neg e,show decide (a<=j/\j<a+i)=decide (a<=j/\j<a+(i+1)) from by simp only[decide_eq_decide];omega]
      clear iT hO2 hR2 hx hq oS;go_wp2_with (go_at_call 169;refine Q4 (HRm.out _) ?_);exact⟨⟨i+1,by congr 1,by omega,HS.out.1,HS.out.2⟩,by simp[intOf] <;> omega⟩
     ·have e:i=rm:=by omega
      subst e;have HE:=Q3 (And.intro iT hO2);clear iT hO2 hR2;go_wp2_with (go_at_call 169;refine Q4 (HRm.out _) ?_);exact⟨⟨a+1,by congr 1,by omega,HE.out.1.congr fun j _=>by rw[gK.out],HE.out.2⟩,by simp[intOf] <;> omega⟩
  ·have e:a=M:=by omega
   subst e;have HB:=Q3 (And.intro hB hO);clear hR hB hO;go_wp2_with fail;go_loopw [5] (fun u wq=>∃ k:Nat,u=Iz (k:Int)/\k<=a/\RfAt wq lo hi s n cw co { st with W:=tzW n st k }/\Row wq G 4 a (fun j=>.bool (z1y st a j))/\Out lo hi w wq) (fun u _=>a-(intOf u).toNat)
   case atStart=>exact⟨0,rfl,Nat.zero_le _,by rw[x5n];exact HH.out.quiet HB.out.2,HB.out.1,HB.out.2.any lo hi⟩
   case round=>
    clear HB;obtain⟨k,rfl,kb,hR,hB,hO⟩:=hrel;have k0:(0:Int)<=(k:Int):=by omega
    have c0:=hR.cells.1;rw[HM.out] at c0;by_cases hk:k<a
    ·have k1:(k:Int)<(a:Int):=by omega
     have e0:=hB.cell hk;have gT:=x5m n st k;rw[HM.out] at gT;cases hq:z1y st a k with
     | true=>
      rw[hq] at e0 gT;rw[if_pos rfl] at gT;have HE:=Q3 (And.intro hR (And.intro hB (And.intro hO gT)));clear hR hB hO gT hq;go_wp2_with fail;exact⟨⟨k+1,by congr 1,by omega,by rw[<-HE.out.2.2.2];exact HE.out.1,HE.out.2.1,HE.out.2.2.1⟩,by simp[intOf] <;> omega⟩
     | false=>
      rw[hq] at e0 gT;rw[if_neg (by simp)] at gT;have hm:=HM.out;have d0:=hR.rw.cell (i:=k) (by omega);have d1:=hR.rw.frozen k;(try dsimp only at d0);obtain⟨y,hy⟩:∃ y,tzW n st k k=y:=⟨_,rfl⟩
      rw[hy] at d0;have hS:=hR.setW (a:=k) (by omega) 0;have HE:=Q3 (And.intro hS.1 (And.intro (hB.kept hS.2 (.inr HGs.out.1)) (And.intro (hO.trans hS.2) gT)));clear hR hB hO gT hq hS hy hm;go_wp2_with fail;refine⟨⟨k+1,by congr 1,by omega,?_,HE.out.2.1,HE.out.2.2.1⟩,by simp[intOf] <;> omega⟩;have:=HE.out.1;dsimp only at this;rw[HE.out.2.2.2] at this;exact this
    ·have e:k=a:=by omega
     subst e;have hm:=HM.out;have h2:RfAt wr lo hi s n cw co (q0q n { st with W:=tzW n st (64*n) } 0):=by rw[hm];exact hR
     have HE:=Q3 (And.intro h2 hO);obtain⟨s2,eL⟩:∃ s2:Sp,{ st with W:=tzW n st (64*n) }=s2:=⟨_,rfl⟩
     rw[eL] at HE;have oH:=Q3 eL;clear hR hB hO h2 hm eL;go_wp2_with fail;clear c0;go_loopw [6] (fun u wq=>∃ c:Nat,u=Iz (c:Int)/\c<=8/\RfAt wq lo hi s n cw co (q0q n s2 c)/\Out lo hi w wq) (fun u _=>(8-intOf u).toNat)
     case atStart=>exact⟨0,rfl,Nat.zero_le _,HE.out.1,HE.out.2⟩
     case round=>
      clear HE;obtain⟨c,rfl,cb,hR,hO⟩:=hrel;have c0:(0:Int)<=(c:Int):=by omega
      by_cases hc:c<8
      ·have c1:(c:Int)<8:=by omega
       obtain⟨L,hL⟩:∃ L,q0q n s2 c=L:=⟨_,rfl⟩
       have hLn:q0q n s2 (c+1)={ L with W:=q1z n L (c:Int) }:=by rw[<-hL];rfl
       rw[hL] at hR;have gK:=Q3 (z2b hR hc (f:=0) (Nat.zero_le _));rw[show ((0:Nat):Int)=0 from rfl] at gK;obtain⟨f0,_,hf0,iI⟩:=q6x n L (c:Int) (f:=0) (Nat.zero_le _);have h0:RfAt wr lo hi s n cw co { L with W:=lkT n L (c:Int) f0 }:=by
        rw[q4b (fun j hj=>by
         by_cases q:j<64*n
         ·exact iI j (Nat.zero_le _) hj q
         ·unfold fr;rw[show decide (j<64*n)=false from by simpa using q];rfl)]
        exact hR
       obtain⟨x0,hx0⟩:∃ x,nf n L (c:Int) 0=x:=⟨_,rfl⟩
       rw[hx0] at gK hf0;have HS0:=Q3 (And.intro h0 (And.intro hf0 hO));have HLn:=Q3 hLn;clear hR hO h0 hf0 iI hx0 hLn hL;go_wp2_with (go_at_call 90;refine Q4 gK.out ?_);go_loopw [7] (fun u wq=>∃ f:Nat,RfAt wq lo hi s n cw co { L with W:=lkT n L (c:Int) f }/\((u=Iz (-1)/\64*n<=f)\/(u=Iz (f:Int)/\f<64*n/\fr n L (c:Int) f=true))/\Out lo hi w wq) (fun u _=>((k:Int)-(if intOf u<0 then (k:Int) else intOf u)).toNat)
       case atStart=>
        refine⟨f0,HS0.out.1,?_,HS0.out.2.2⟩;rcases HS0.out.2.1 with ⟨e,h⟩ | ⟨e,h⟩
        ·exact .inl ⟨by rw[e],h⟩
        ·exact .inr ⟨by rw[e],h⟩
       case round=>
        clear HS0 gK;obtain⟨f,hR,hu,hO⟩:=hrel;rcases hu with ⟨rfl,hf⟩ | ⟨rfl,hf,nM⟩
        ·rw[j5i (fun j hj=>by have:=(fr_iff.1 hj).1;omega),<-HLn.out] at hR;have HE:=Q3 (And.intro hR hO);clear hR hO hf;go_wp2_with fail;exact⟨⟨c+1,by congr 1,by omega,HE.out.1,HE.out.2⟩,by simp[intOf] <;> omega⟩
        ·have hm:=HM.out;have f0':(0:Int)<=(f:Int):=by omega
         have f1:(f:Int)<(k:Int):=by omega
         have c0':=hR.cells.1;rw[hm] at c0';have HN2:=Q3 (z2b hR hc (f:=f+1) (by omega));obtain⟨f',hf1,hfx,hfz⟩:=q6x n L (c:Int) (f:=f+1) (by omega);have hSt:=q9o (n:=n) (st:=L) (c:=(c:Int)) (a:=f) (b:=f') (by omega) nM (fun j j1 j2=>by
          by_cases q:j<64*n
          ·exact hfz j (by omega) j2 q
          ·unfold fr;rw[show decide (j<64*n)=false from by simpa using q];rfl)
         have hge:-1<=nf n L (c:Int) (f+1)/\nf n L (c:Int) (f+1)<=262143:=by
          rcases hfx with ⟨e,_⟩ | ⟨e,h,_⟩ <;> rw[e] <;> omega
         have HLk:=Q3 (fun w=>z3k hge.1 hge.2 w);rw[show nf n { L with W:=lkT n L (c:Int) f } (c:Int) (f+1)=nf n L (c:Int) (f+1) from rfl] at HN2;obtain⟨x,hx⟩:∃ x,nf n L (c:Int) (f+1)=x:=⟨_,rfl⟩
         obtain⟨z,hz⟩:∃ z,z0e x=z:=⟨_,rfl⟩
         rw[hx] at HN2 hfx hSt HLk hge;rw[hz] at hSt HLk;rw[show ((f+1:Nat):Int)=(f:Int)+1 from by omega] at HN2;have x1:=hge.1;have x2:=hge.2;have HX:=Q3 (And.intro hfx (And.intro hf1 (And.intro hSt hf)));have mZ:=Q3 (And.intro hR hO);have HMs:Hid ((k:Int)-(if x<0 then (k:Int) else x)<(k:Int)-(f:Int)):=by
          show _<_
          rcases hfx with ⟨e,h⟩ | ⟨e,h,_⟩
          ·rw[e,if_pos (by omega)];omega
          ·rw[e,if_neg (by omega)];omega
         clear hR hO hf nM hm hfx hf1 hfz hSt hge hx hz;go_wp2_with (go_at_call 90;refine Q4 HN2.out ?_);refine wp_region_held_drew (S:=fun w'=>cq w' (s 0) 0=some (.slice (some ⟨s 1,0,none⟩) k cw)) (by kernel_rfl) ?hS1 (fun aB=>?rest1)
         case hS1=>exact c0'
         obtain⟨Z2,hZ⟩:∃ Z,wr.drew=Z:=⟨_,rfl⟩
         have OZ:Out 0 0 wr Z2:=by rw[<-hZ];exact(Out.refl 0 0 _).drew
         rw[hZ] at aB ⊢;clear hZ;refine tk 0 ?_;refine tk 1 ?_;refine tk 2 ?_;refine tk 3 ?_;refine tk 4 ?_;refine tk 5 ?_;refine rd1 6 fun KK hK=>?_
         go_simp;refine Q4 (HLk.out _) ?_;refine hK.out _ _ (aB) fun aB=>?_
         clear hK KK;refine tk 7 ?_;refine rd1 8 fun KK hK=>?_
         simp only[xa,xb,xc];have kV:=mZ.out.1.quiet OZ;have y0:=kV.rw.cell (i:=f) HX.out.2.2.2;have q0:=kV.rw.frozen f;clear kV;go_simp;obtain⟨Y3,hY3⟩:∃ Y,Z2.setCell ⟨s 1,f,none⟩ (Iz z)=Y:=⟨_,rfl⟩
         have rY:=(mZ.out.1.quiet OZ).setW HX.out.2.2.2 z;have oY:Out (s 1) (s 1+1) Z2 Y3:=by rw[<-hY3];exact(Out.refl _ _ _).setCell (p:=⟨s 1,f,none⟩) z1 _
         rw[hY3] at rY ⊢;clear hY3 y0 q0;refine hK.out _ _ (oY.cell aB (mZ.out.1.apart (by omega) (by omega) (by omega))) fun aB=>?_
         clear hK KK;refine dn ?_;clear aB oY c0';have HE:=Q3 (And.intro rY.1 ((mZ.out.2.trans (OZ.any lo hi)).trans rY.2));clear rY;go_wp2_with fail;refine⟨⟨f',?_,?_,HE.out.2⟩,by have:=HMs.out;simp[intOf] <;> omega⟩
         ·have:=HE.out.1;dsimp only at this;rw[HX.out.2.2.1] at this;exact this
         ·rcases HX.out.1 with ⟨e,h⟩ | ⟨e,h⟩
          ·exact .inl ⟨by rw[e],h⟩
          ·exact .inr ⟨by rw[e],h⟩
      ·have e:c=8:=by omega
       subst e;have HE:=Q3 (And.intro hR hO);clear hR hO;go_wp2;refine bodyPost_end (results_none Tryz.results143 _ _ _) rfl ⟨⟨_,rfl⟩,?_,HE.out.2⟩;rw[oH.out];exact HE.out.1
end
def q6a (O:Nat->Blk) (p:Nat):Nat->Bool
 | 0=>false
 | i+1=>q6a O p i || Y6 (O (64*p+i))
def z0y (S:Nat->Int × Int × Int) (O:Nat->Blk) (p:Nat):Bool:=if (S p).1=2 then Y6 (O (64*p)) else if (S p).1=1 then q6a O p 64 else false
def gkS (n:Nat) (st:Sp):Nat->Nat->Int × Int × Int
 | 0=>st.S
 | p+1=>if z0y (gkS n st p) st.O p then gkS n st p else gvS (gkS n st p) n (p:Int)
def dpO (st:Sp) (kp:Nat->Bool) (a:Nat):Nat->Blk:=fun b=>if b<a then kpO st kp b else st.O b
section
variable {w:World} {lo hi n cw co:Nat} {s:Nat->Nat} {st:Sp}
theorem RfAt.delO (h:RfAt w lo hi s n cw co st) {a:Nat} (ha:a<64*n):RfAt (j6z w (s 4) a 0 0 0 0 0) lo hi s n cw co { st with O:=H8 st.O a noB }/\Out lo hi w (j6z w (s 4) a 0 0 0 0 0):=by
 have o:=q2s w (s 4) a 0 0 0 0 0;have h4:=h.inn 4 (by omega);refine⟨⟨h.n1,h.n2,Nat.le_trans h.top o.size,h.glob,h.inn,h.ne,o.heap h.box (h.apart (by omega) (by omega) (by omega)),h.rw.kept o (h.apart (by omega) (by omega) (by omega)),h.rt.kept o (h.apart (by omega) (by omega) (by omega)) (h.apart (by omega) (by omega) (by omega)),?_⟩,o.wide h4.1 (by omega)⟩;unfold j6z;refine(((((h.ro.set (a*5) (.int .i64 0)).set (a*5+1) (.int .i64 0)).set (a*5+2) (.int .i64 0)).set (a*5+3) (.int .i64 0)).set (a*5+4) (.int .i64 0)).congr fun j _=>?_
 by_cases e:j / 5=a
 ·have hz:obC { st with O:=H8 st.O a noB } j=0:=by
   unfold obC;rw[show ({ st with O:=H8 st.O a noB }:Sp).O (j / 5)=noB from by show H8 st.O a noB (j / 5)=_;unfold H8;rw[if_pos e]];rfl
  rw[hz];have:j=a*5\/j=a*5+1\/j=a*5+2\/j=a*5+3\/j=a*5+4:=by omega
  (repeat' split) <;> first | rfl | omega
 ·rw[if_neg (by omega),if_neg (by omega),if_neg (by omega),if_neg (by omega),if_neg (by omega)];rw[q4f st (st':={ st with O:=H8 st.O a noB })]
  show H8 st.O a noB (j / 5)=_
  unfold H8;rw[if_neg e]
theorem x3e (st:Sp) (kp:Nat->Bool):dpO st kp 0=st.O:=by funext b;unfold dpO;rw[if_neg (by omega)]
theorem x3d (st:Sp) (kp:Nat->Bool) (a:Nat):dpO st kp (a+1)=if kp a then dpO st kp a else H8 (dpO st kp a) a noB:=by
 funext b
 cases h:kp a with
 | true=>
  rw[if_pos rfl];unfold dpO;by_cases e:b=a
  ·rw[e,if_pos (by omega),if_neg (by omega)];unfold kpO;rw[h,if_pos rfl]
  ·by_cases e1:b<a
   ·rw[if_pos (by omega),if_pos e1]
   ·rw[if_neg (by omega),if_neg e1]
 | false=>
  rw[if_neg (by simp)];unfold H8 dpO;by_cases e:b=a
  ·rw[if_pos e,e,if_pos (by omega)];unfold kpO;rw[h,if_neg (by simp)]
  ·rw[if_neg e];by_cases e1:b<a
   ·rw[if_pos (by omega),if_pos e1]
   ·rw[if_neg (by omega),if_neg e1]
end
end Go.Proofs.YtjgnogflgoihfaaGreatDoor
