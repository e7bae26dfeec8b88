import Derived.Test.YtjgnogflgoihfaaGreatDoorP37
set_option linter.unusedSimpArgs false
set_option linter.unusedVariables false
set_option maxHeartbeats 16000000
set_option maxRecDepth 100000
namespace Go.Proofs.YtjgnogflgoihfaaGreatDoor
open Go.RowKit
theorem q3d {ops:Array Oper} {o:Oper} {ac:Go.Act} {w:World} {K:Go.Act->World->Prop} {Q:Exit->Go.Act->World->Prop} {E:Prop} (hgd:o.guard=none) (sx xx:Operand)
  (ho:o.op=.call { callee:=.builtin .append,args:=#[sx,xx],argTypes:=#[70,70] }) (hs:ac.eval sx=.slice none 0 0) {base:Nat} {v:Value} {l:List Int} (hx:ac.eval xx=v) (hr:IRow w base v l) (hn:l.length<=100000)
  (h:∀ p cp w',q0c w' p l->Out 0 0 w w'->K (ac.put o.dst (.slice p l.length cp)) w') :
  if Region.wanted o (yielded ops ac.tmps)=true then Oper.wp Tryz.prog o ac w K Q else E:=by
 have hw:Region.wanted o (yielded ops ac.tmps)=true:=by simp[Region.wanted,hgd]
 rw[if_pos hw];obtain⟨i0,mW,iI,hz1,iH⟩:=z1x q9k;have key:∃ p cp w',(Builtin.append_ #[70,70] o.type #[.slice none 0 0,v]).run Tryz.prog w=.ok (.slice p l.length cp) w'/\q0c w' p l/\Out 0 0 w w':=by
  rcases hr.2 with ⟨rfl,e2⟩ | ⟨g,cap,dI,rfl,h3,h4,h5,h6,h7,h8⟩
  ·have e0:l=[]:=List.eq_nil_of_length_eq_zero e2;subst e0;refine⟨none,0,w,?_,.inl rfl,Out.refl _ _ _⟩;simp[Builtin.append_,run_underlying Tryz.underlying70,sizeOf,typeInfo,mW,Builtin.lenOf,Builtin.firstCells,loadCells,loadCellsFrom]
  ·obtain⟨v2,w',jP,dM,aV,_⟩:=run_append_own (P:=Tryz.prog) w w.heap.size 70 o.type 3 i0 (.int .i64 0) 1 8 Tryz.underlying70 mW iI hz1 iH rfl (by decide) (.slice none 0 0) 0 [] (World.ownsRow_nil _ _ _ 1) ⟨g,0,none⟩ l.length cap (ivl l) (by unfold ivl;simp) (by
     intro j u hj;have hl:j<l.length:=by have:=(List.getElem?_eq_some_iff.1 hj).1;unfold ivl at this;simpa using this
     rw[Addr.add_lit,Nat.zero_add];rw[<-h8] at hj;have:dI[j]? = some u:=by simpa [List.getElem?_take,hl] using hj
     simp[World.cell?,h4,this]) (by intro u hu;unfold ivl at hu;obtain⟨x,_,rfl⟩:=List.mem_map.1 hu;rfl) (by unfold maxLen;omega) (by omega) (Nat.le_refl _)
   rw[Nat.zero_add,List.nil_append] at dM;have hO:Out 0 0 w w':=⟨aV.os,aV.tape,aV.output,aV.size,fun j h1 h2=>aV.block j h1 (by simp[Value.ownBlock])⟩
   rcases dM.2 with ⟨rfl,e2⟩ | ⟨g4,cap4,cur4,rfl,k3,k4,k5,k6,k7,k8⟩
   ·have e0:l=[]:=List.eq_nil_of_length_eq_zero e2;subst e0;exact⟨none,0,w',jP,.inl rfl,hO⟩
   ·refine⟨some ⟨g4,0,none⟩,cap4,w',jP,.inr ⟨g4,rfl,Q7 k4,fun j hj=>?_⟩,hO⟩;have e8:(cur4.toList.take (l.length*1))[j]? = (ivl l)[j]? :=by rw[k8]
    unfold ivl at e8;rw[List.getElem?_take,if_pos (by omega),List.getElem?_map,List.getElem?_eq_getElem hj] at e8;have:cur4[j]? = some (.int .i64 l[j]):=by simpa using e8
    simp[World.cell?,k4,this,List.getElem?_eq_getElem hj]
 obtain⟨p,cp,w',jP,h2,h3⟩:=key;unfold Oper.wp;simp[execOp,ho,resolve,invoke,builtin,hs,hx,jP,Result.andThen];exact h p cp w' h2 h3
def kbL (l:List (Nat × Blk)) (bs:List Int):List Int:=bs.map fun b=>(((l[(b % (l.length:Int)).toNat]?).map fun x=>(x.1:Int)).getD 0)
theorem j9l {l:List (Nat × Blk)} {bs:List Int} {i:Nat} {b:Int} {x:Nat × Blk} (h:bs[i]? = some b) (hx:l[(b % (l.length:Int)).toNat]? = some x):kbL l (bs.take (i+1))=kbL l (bs.take i) ++ [(x.1:Int)]:=by
 unfold kbL;rw[List.take_add_one,h,List.map_append];simp[hx]
theorem x3v (l:List (Nat × Blk)) (bs:List Int):(kbL l bs).length=bs.length:=by unfold kbL;simp
theorem j5b {n:Nat} {st:Sp} (l:List Int):∃ (x e:Int) (st':Sp),(st'=st\/st'=z0m n st l) ∧
  (∀ {w:World} {lo hi cap:Nat} {s:Nat->Nat} {p:Option Addr} {cp:Nat},SpAt w lo hi s n cap st->q0c w p l->l.length<=100000->Calls Tryz.prog 81 #[.pointer (some ⟨s 14,0,none⟩),.slice p l.length cp] w fun r w'=>r=.returned (.tuple #[.int .i64 x,.int .i64 e])/\SpAt w' lo hi s n cap st'/\Out lo hi w w') ∧
  (∀ {w:World} {lo hi cw co:Nat} {s:Nat->Nat} {p:Option Addr} {cp:Nat},RfAt w lo hi s n cw co st->Inv n st->j2s w p l->l.length<=100000->Calls Tryz.prog 82 #[.pointer (some ⟨s 0,0,none⟩),.slice p l.length cp] w fun r w'=>r=.returned (.tuple #[.int .i64 x,.int .i64 e])/\RfAt w' lo hi s n cw co st'/\Out lo hi w w'):=by
 by_cases h:∀ a ∈ l,(obM st a).isSome=true
 ·refine⟨((U0 (Q6 n st) (kpS l) (64*n):Nat):Int),0,z0m n st l,.inr rfl,fun hs hl hn=>(q0y hs hl (by omega)).mono fun r w' ⟨o,q⟩=>?_,fun hs hI hl hn=>(z7k hs hI hl (by omega)).mono fun r w' ⟨o,q⟩=>?_⟩
  ·rcases q with ⟨_,q1,q2⟩ | ⟨⟨a,ha,hb⟩,_⟩
   ·exact⟨q1,q2,o⟩
   ·have:=h a ha;rw[hb] at this;cases this
  ·rcases q with ⟨_,q1,q2⟩ | ⟨⟨a,ha,hb⟩,_⟩
   ·exact⟨q1,q2,o⟩
   ·have:=h a ha;rw[hb] at this;cases this
 ·refine⟨0,22,st,.inl rfl,fun hs hl hn=>(q0y hs hl (by omega)).mono fun r w' ⟨o,q⟩=>?_,fun hs hI hl hn=>(z7k hs hI hl (by omega)).mono fun r w' ⟨o,q⟩=>?_⟩
  ·rcases q with ⟨q0,_⟩ | ⟨_,q1,q2⟩
   ·exact absurd q0 h
   ·exact⟨q1,q2,o⟩
  ·rcases q with ⟨q0,_⟩ | ⟨_,q1,q2⟩
   ·exact absurd q0 h
   ·exact⟨q1,q2,o⟩
theorem IRow.into {w:World} {base:Nat} {po:Option Addr} {pc:Nat} {l:List Int} (h:IRow w base (.slice po l.length pc) l):j2s w po l:=by
 by_cases e:l=[]
 ·exact .inl e
 ·obtain⟨po',pc',e1,h1⟩:=h.at;cases e1;have h0:0<l.length:=List.length_pos_iff.2 e;obtain⟨g,rfl,_,hg,_⟩:=h1 0 l[0] (List.getElem?_eq_getElem h0);refine .inr ⟨g,0,rfl,hg,fun j hj=>?_⟩;obtain⟨g',e2,_,_,hc⟩:=h1 j l[j] (List.getElem?_eq_getElem hj);cases e2;rw[Nat.zero_add,hc,List.getElem?_eq_getElem hj];rfl
section
variable {w:World} {q:Q9} {st:Sp} {c:Nat}
theorem x5g (h:PB w q st c) (o0 o2 o3 o4 o5 o6 o7 o8 k m k2 m2:Int) (bp:Option Addr) (bc:Nat) {bs:List Int} {b0:Nat} (hB:ByIn w b0 bp bs) (gV:b0<=q.lo) (hbl:bs.length<=100000):Kz 29 #[Pq q.B,.agg #[Iz o0,Iz 24,Iz o2,Iz o3,Iz o4,Iz o5,Iz o6,Iz o7,Iz o8,.slice bp bs.length bc],Vz k m,Vz k2 m2] w fun e w'=>e=.returned (.bool true)/\E9 q st w w':=by
 have HP:=Q3 h;have cI:=Q3 h.od;obtain⟨W,bo,hW,dH,fO,fV,fX,oW,gQ⟩:=q1m w (.cells #[Iz o0,Iz 24,Iz o2,Iz o3,Iz o4,Iz o5,Iz o6,Iz o7,Iz o8,.slice bp bs.length bc] 35) (Dz k m 32) (Dz k2 m2 32);have cY:=h.od;rw[dH] at cY;unfold Od at cY;obtain⟨p0,p1,p2⟩:=(h.quiet oW).cells;have r0:=(h.quiet oW).be.pc;have r1:=(h.quiet oW).be.rc;obtain⟨x0,x1,x2,x3,x4,x5,x6,x7,x8,x9⟩:=j2o fO;obtain⟨v0,v1,_,_⟩:=Q5 fV;obtain⟨u0,u1,_,_⟩:=Q5 fX;have aD:=h.md oW;have bN:bo+3<=W.heap.size:=by omega
 have Hbo:=Q3 dH;obtain⟨eZ,nN⟩:∃ b,bo+3=b:=⟨_,rfl⟩
 rw[nN] at bN;have dK:=p0;have dJ:=p1;have dG:=r0;have dA:=r1;have dV:=x9;clear h fO fV fX;obtain⟨x,e0,st',gT,hp,hr⟩:=j5b (n:=q.n) (st:=st) (if (K4 (Q6 q.n st) (64*q.n)).length=0 then [] else kbL (K4 (Q6 q.n st) (64*q.n)) bs);have lP:Hid (WI q.n st'.W/\st'.last=st.last):=by
  rcases gT with rfl | rfl
  ·exact⟨HP.out.wi,rfl⟩
  ·exact⟨HP.out.wi.keep _,j5c _ _ _⟩
 have eK:Hid (∀ V lim l p cp,l=(if (K4 (Q6 q.n st) (64*q.n)).length=0 then [] else kbL (K4 (Q6 q.n st) (64*q.n)) bs)->Mx q w lim st st V->q0c V p l->l.length<=100000->Kz 81 #[Pq (q.s 14),.slice p l.length cp] V fun e w'=>e=.returned (.tuple #[Iz x,Iz e0])/\Mx q w lim st' st w'/\Out q.lo q.hi V w'):=fun V lim l p cp e hM hl hn=>by
  subst e;exact(hp hM.sp hl hn).mono fun e w' ⟨h1,h2,h3⟩=>⟨h1,hM.p cI.out h2 h3,h3⟩
 have gH:Hid (∀ V lim l p cp,l=(if (K4 (Q6 q.n st) (64*q.n)).length=0 then [] else kbL (K4 (Q6 q.n st) (64*q.n)) bs)->Mx q w lim st' st V->j2s V p l->l.length<=100000->Kz 82 #[Pq (q.s2 0),.slice p l.length cp] V fun e w'=>e=.returned (.tuple #[Iz x,Iz e0])/\Mx q w lim st' st' w'/\Out q.lo2 q.hi2 V w'):=fun V lim l p cp e hM hl hn=>by
  subst e;exact(hr hM.rf HP.out.inv hl hn).mono fun e w' ⟨h1,h2,h3⟩=>⟨h1,hM.r cI.out h2 h3,h3⟩
 have nB:=Q3 (fun V (o:Out 0 0 w V)=>z3g (HP.out.be.r.quiet o) HP.out.inv);have HB:=Q3 (And.intro hB (And.intro gV hbl));clear gT hp hr hB gV hbl;go_enter Tryz.func29,Tryz.ntmps29
 go_wp2_with fail;(try rw[hW]);(try rw[dH]);have gV:w.heap.size<=bo:=Nat.le_of_eq dH;have HOW:=Q3 oW;clear hW dH p0 p1 p2 r0 r1 x0 x1 x2 x3 x4 x5 x6 x7 x8 x9 v0 v1 u0 u1 oW gQ;refine(nB.out _ HOW.out).mono ?_;rintro e W1 ⟨v,rfl,hL,o1⟩;replace dK:=o1.cell dK z0;replace dJ:=o1.cell dJ z0;replace dG:=o1.cell dG z0;replace dA:=o1.cell dA z0;replace dV:=o1.cell dV z0;replace aD:=aD.quiet o1;have hbnd1:eZ<=W1.heap.size:=Nat.le_trans bN o1.size;obtain⟨po,pc,rfl,cU⟩:=z8m hL;obtain⟨ob,nH⟩:∃ l,K4 (Q6 q.n st) (64*q.n)=l:=⟨_,rfl⟩
 rw[nH] at cU eK gH ⊢;obtain⟨L,hLl⟩:∃ L,ob.length=L:=⟨_,rfl⟩
 have HLl:Hid (ob.length=L/\L<=262144):=⟨hLl,by have h1:=z3d (Q6 q.n st) (64*q.n);rw[nH] at h1;have h2:=HP.out.inv.n2;omega⟩
 rw[hLl] at eK gH ⊢;have HC:=Q3 cU;have HBa:=Q3 (And.intro (HB.out.1.kept (HOW.out.trans o1) (.inr rfl)) (And.intro HB.out.2.1 HB.out.2.2));have HM:=Q3 (And.intro aD (And.intro dK (And.intro dJ (And.intro dG (And.intro dA dV)))));obtain⟨n,hn⟩:∃ n,bs.length=n:=⟨_,rfl⟩
 rw[hn] at dV ⊢;have Hn:=Q3 hn;have n1:(n:Int)<=100000:=by have:=HBa.out.2.2;omega
 have n0:(0:Int)<=(n:Int):=by omega
 have L0:(0:Int)<=(L:Int):=by omega
 have L1:(L:Int)<=262144:=by have:=HLl.out.2;omega
 obtain⟨base,jJ⟩:∃ b,W1.heap.size=b:=⟨_,rfl⟩
 have Hbs:=Q3 jJ;rw[jJ] at hbnd1;clear hL o1 nH hLl cU aD dK dJ dG dA hn bN jJ HOW nB HB;go_wp2_with fail;clear dV;go_loopw [13,15] (fun v u wr=>∃ i:Nat,u=Iz (i:Int)/\i<=n/\(L=0->i=0)/\IRow wr base v (kbL ob (bs.take i))/\Out 0 0 W1 wr) (fun _ u _=>n-(intOf u).toNat)
 case atStart=>exact⟨0,rfl,Nat.zero_le _,fun _=>rfl,IRow.nil _ _,Out.refl 0 0 _⟩
 case round=>
  obtain⟨i,rfl,i1,iz,hI,hO⟩:=hrel;have i0:(0:Int)<=(i:Int):=by omega
  have dV:=hO.cell HM.out.2.2.2.2.2 z0;rw[Hn.out] at dV;have bZ:(kbL ob (bs.take i)).length<=100000:=by rw[x3v,List.length_take];have:=Hn.out;omega
  have HLen:=Q3 bZ;have HI:=Q3 hI;have HO:=Q3 hO;clear bZ hO;by_cases hi:i<n
  ·have j1:(i:Int)<(n:Int):=by omega
   by_cases hL0:0<L
   ·clear hI;have l1:(0:Int)<(L:Int):=by omega
    obtain⟨b,hb⟩:∃ b,bs[i]? = some b:=⟨_,List.getElem?_eq_getElem (by have:=Hn.out;omega)⟩
    have hbb:=HBa.out.1.1 b (List.mem_of_getElem? hb);obtain⟨gb,cK,rfl,hg1,hgc⟩:∃ g cK,bp=some ⟨g,cK,none⟩/\g<b0/\∀ j x,bs[j]? = some x->cq W1 g (cK+j)=some (.int .u8 x):=by
     rcases HBa.out.1.2 with e | e
     ·rw[e] at hb;simp at hb
     ·exact e
    have cb:=HO.out.cell (hgc i b hb) z0;have hmod:0<=b % (L:Int)/\b % (L:Int)<(L:Int):=⟨Int.emod_nonneg _ (by omega),Int.emod_lt_of_pos _ l1⟩
    obtain⟨e,he⟩:∃ e:Nat,b % (L:Int)=(e:Int):=⟨(b % (L:Int)).toNat,by omega⟩
    have oQ:e<L:=by omega
    have e0':(0:Int)<=(e:Int):=by omega
    have e1:(e:Int)<(L:Int):=by omega
    have hrem:Int.tmod b (L:Int)=(e:Int):=by rw[Int.tmod_eq_emod_of_nonneg hbb.1,he]
    obtain⟨y,hy⟩:∃ y,ob[e]? = some y:=⟨_,List.getElem?_eq_getElem (by have:=HLl.out.1;omega)⟩
    obtain⟨g,rfl,_,_,c0,_⟩:=HC.out e y hy;replace c0:=HO.out.cell c0 z0;have HSt:=Q3 (j9l (l:=ob) hb (by rw[HLl.out.1,he,Int.toNat_natCast];exact hy));obtain⟨y0,hy0⟩:∃ x,((y.1:Nat):Int)=x:=⟨_,rfl⟩
    rw[hy0] at HSt c0;have hwb:IntKind.i64.wrap b=b:=by rw[IntKind.wrap_i64];omega
    have HN3:=Q3 (heap_alloc_new wr (.cells #[Iz y0] 3));have bL:=Q3 (HO.out.alloc (.cells #[Iz y0] 3));have HI3:=Q3 (HI.out.kept ((Out.refl 0 0 wr).alloc (.cells #[Iz y0] 3)) (Nat.zero_le _));have HBs:Hid (base<=(wr.alloc (.cells #[Iz y0] 3)).heap.size):=by have h1:=bL.out.size;have h2:=Hbs.out;show _<=_;omega
    obtain⟨mU,hb2⟩:=hbb;clear hb hgc hmod he hy hy0;go_wp2_with (at_builtin;refine q6c rfl _ _ rfl base _ _ rfl HI3.out _ rfl y0 HN3.out HLen.out HBs.out ?_);intro v' w' hr ho;have HR:=Q3 (And.intro hr (bL.out.trans' ho (by have:=Hbs.out;omega)));clear hr ho;go_wp2;go_roundw
    case rel=>exact⟨i+1,by go_num,by omega,fun h=>by omega,by rw[HSt.out];exact HR.out.1,HR.out.2⟩
    case measure=>simp[intOf];omega
   ·have l0:(L:Int)=0:=by omega
    have l1:¬ (0:Int)<(L:Int):=by omega
    have hEnd:i=n\/L=0:=.inr (by omega);obtain⟨kl,hkl⟩:∃ l,kbL ob (bs.take i)=l:=⟨_,rfl⟩
    have HKl:Hid (kl=(if L=0 then [] else kbL ob bs)/\kl.length<=100000):=by
     refine⟨?_,by rw[<-hkl];exact HLen.out⟩;rw[<-hkl];by_cases z:L=0
     ·rw[if_pos z,iz z];rfl
     ·rw[if_neg z];have e:i=n:=by rcases hEnd with h | h <;> first | exact h | exact absurd h z
      rw[e,<-Hn.out,List.take_length]
    have hI:=HI.out;rw[hkl] at hI;obtain⟨ov,oc,rfl,_⟩:=hI.at;have dK:=HO.out.cell HM.out.2.1 z0;have dJ:=HO.out.cell HM.out.2.2.2.1 z0;have kc1:=HO.out.cell HM.out.2.2.1 z0;have lQ:=HO.out.cell HM.out.2.2.2.2.1 z0;have aD:=HM.out.1.quiet HO.out;have bN:eZ<=wr.heap.size:=by have h1:=HO.out.size;have h2:=Hbs.out;omega
    have hbase:eZ<=base:=hbnd1;clear hEnd hkl HI iz;go_wp2_with fail;obtain⟨lim19,lV⟩:∃ l,wr.heap.size=l:=⟨_,rfl⟩
    replace aD:=aD.at;rw[lV] at aD;have hlim19:eZ<=lim19:=by rw[<-lV];exact bN
    clear lV;have kp:∀ {V V':World} {x y:Nat},(fun w'=>cq w' q.B 0=some (Pq q.hb)/\cq w' q.hb 0=some (Pq (q.s 14))) V->Out x y V V'->(q.B<x\/y<=q.B)/\(q.hb<x\/y<=q.hb)->(fun w'=>cq w' q.B 0=some (Pq q.hb)/\cq w' q.hb 0=some (Pq (q.s 14))) V':=fun h o b=>⟨o.cell h.1 b.1,o.cell h.2 b.2⟩
    refine wp_region_held_drew (S:=fun w'=>cq w' q.B 0=some (Pq q.hb)/\cq w' q.hb 0=some (Pq (q.s 14))) (by kernel_rfl) ?hS500 (fun aB=>?rest500)
    case hS500=>exact⟨dK,dJ⟩
    obtain⟨Z19,hZ⟩:∃ Z,wr.drew=Z:=⟨_,rfl⟩
    have oZ:Out 0 0 wr Z19:=by rw[<-hZ];exact(Out.refl 0 0 _).drew
    rw[hZ] at aB ⊢;replace aD:=aD.quiet oZ;replace hI:=hI.kept oZ (by omega);replace kc1:=oZ.cell kc1 (by omega);replace lQ:=oZ.cell lQ (by omega);clear hZ oZ dK dJ;refine tk 0 ?_;refine tk 1 ?_;refine tk 2 ?_;refine tk 3 ?_;refine tk 4 ?_;refine tk 5 ?_;refine tk 6 ?_;refine tk 7 ?_;refine rd1 8 fun KK hK=>?_
    refine q3d (by rfl) _ _ (by rfl) (by rfl) (l:=kl) (by rfl) hI HKl.out.2 ?_;intro p9 cp9 Z19_8 hI9 q1;replace aD:=aD.quiet q1;replace hI:=hI.kept q1 (by omega);replace kc1:=q1.cell kc1 (by omega);replace lQ:=q1.cell lQ (by omega);refine hK.out _ _ (kp aB q1 (by omega)) fun aB=>?_
    clear q1 hK KK;refine rd1 9 fun KK hK=>?_
    go_simp;refine(eK.out _ _ kl p9 cp9 HKl.out.1 aD hI9 HKl.out.2).mono ?_;rintro e Z19_8_9 ⟨rfl,aJ,q1⟩;clear aD;have aD:=aJ;clear aJ;replace hI:=hI.kept q1 (by omega);replace kc1:=q1.cell kc1 (by omega);replace lQ:=q1.cell lQ (by omega);refine hK.out _ _ (kp aB q1 (by omega)) fun aB=>?_
    clear q1 hK KK;refine tk 10 ?_;refine tk 11 ?_;refine tk 12 ?_;refine tk 13 ?_;refine tk 14 ?_;refine dn ?_;have hV9:=IRow.into hI;have HQ:=Q3 (And.intro aD (And.intro hV9 (And.intro aB.2 lQ)));clear aD hV9 hI aB;go_wp2_with fail;refine(gH.out _ _ kl ov oc HKl.out.1 HQ.out.1 HQ.out.2.1 HKl.out.2).mono ?_;rintro e V9 ⟨rfl,mid9,q9⟩;have HE:=Q3 (mid9.e9 (st:=st) lP.out.1 (by have:=lP.out.2;omega) (q9.cell HQ.out.2.2.1 (by omega)) (q9.cell HQ.out.2.2.2 (by omega)));clear mid9 q9 kc1 lQ;go_wp2
    all_goals go_ret
    all_goals exact⟨z0d (by simp),HE.out⟩
  ·have j1:¬ (i:Int)<(n:Int):=by omega
   have hEnd:i=n\/L=0:=.inl (by omega);obtain⟨kl,hkl⟩:∃ l,kbL ob (bs.take i)=l:=⟨_,rfl⟩
   have HKl:Hid (kl=(if L=0 then [] else kbL ob bs)/\kl.length<=100000):=by
    refine⟨?_,by rw[<-hkl];exact HLen.out⟩;rw[<-hkl];by_cases z:L=0
    ·rw[if_pos z,iz z];rfl
    ·rw[if_neg z];have e:i=n:=by rcases hEnd with h | h <;> first | exact h | exact absurd h z
     rw[e,<-Hn.out,List.take_length]
   have hI:=HI.out;rw[hkl] at hI;obtain⟨ov,oc,rfl,_⟩:=hI.at;have dK:=HO.out.cell HM.out.2.1 z0;have dJ:=HO.out.cell HM.out.2.2.2.1 z0;have kc1:=HO.out.cell HM.out.2.2.1 z0;have lQ:=HO.out.cell HM.out.2.2.2.2.1 z0;have aD:=HM.out.1.quiet HO.out;have bN:eZ<=wr.heap.size:=by have h1:=HO.out.size;have h2:=Hbs.out;omega
   have hbase:eZ<=base:=hbnd1;clear hEnd hkl HI iz;go_wp2_with fail;obtain⟨lim19,lV⟩:∃ l,wr.heap.size=l:=⟨_,rfl⟩
   replace aD:=aD.at;rw[lV] at aD;have hlim19:eZ<=lim19:=by rw[<-lV];exact bN
   clear lV;have kp:∀ {V V':World} {x y:Nat},(fun w'=>cq w' q.B 0=some (Pq q.hb)/\cq w' q.hb 0=some (Pq (q.s 14))) V->Out x y V V'->(q.B<x\/y<=q.B)/\(q.hb<x\/y<=q.hb)->(fun w'=>cq w' q.B 0=some (Pq q.hb)/\cq w' q.hb 0=some (Pq (q.s 14))) V':=fun h o b=>⟨o.cell h.1 b.1,o.cell h.2 b.2⟩
   refine wp_region_held_drew (S:=fun w'=>cq w' q.B 0=some (Pq q.hb)/\cq w' q.hb 0=some (Pq (q.s 14))) (by kernel_rfl) ?hS516 (fun aB=>?rest516)
   case hS516=>exact⟨dK,dJ⟩
   obtain⟨Z19,hZ⟩:∃ Z,wr.drew=Z:=⟨_,rfl⟩
   have oZ:Out 0 0 wr Z19:=by rw[<-hZ];exact(Out.refl 0 0 _).drew
   rw[hZ] at aB ⊢;replace aD:=aD.quiet oZ;replace hI:=hI.kept oZ (by omega);replace kc1:=oZ.cell kc1 (by omega);replace lQ:=oZ.cell lQ (by omega);clear hZ oZ dK dJ;refine tk 0 ?_;refine tk 1 ?_;refine tk 2 ?_;refine tk 3 ?_;refine tk 4 ?_;refine tk 5 ?_;refine tk 6 ?_;refine tk 7 ?_;refine rd1 8 fun KK hK=>?_
   refine q3d (by rfl) _ _ (by rfl) (by rfl) (l:=kl) (by rfl) hI HKl.out.2 ?_;intro p9 cp9 Z19_8 hI9 q1;replace aD:=aD.quiet q1;replace hI:=hI.kept q1 (by omega);replace kc1:=q1.cell kc1 (by omega);replace lQ:=q1.cell lQ (by omega);refine hK.out _ _ (kp aB q1 (by omega)) fun aB=>?_
   clear q1 hK KK;refine rd1 9 fun KK hK=>?_
   go_simp;refine(eK.out _ _ kl p9 cp9 HKl.out.1 aD hI9 HKl.out.2).mono ?_;rintro e Z19_8_9 ⟨rfl,aJ,q1⟩;clear aD;have aD:=aJ;clear aJ;replace hI:=hI.kept q1 (by omega);replace kc1:=q1.cell kc1 (by omega);replace lQ:=q1.cell lQ (by omega);refine hK.out _ _ (kp aB q1 (by omega)) fun aB=>?_
   clear q1 hK KK;refine tk 10 ?_;refine tk 11 ?_;refine tk 12 ?_;refine tk 13 ?_;refine tk 14 ?_;refine dn ?_;have hV9:=IRow.into hI;have HQ:=Q3 (And.intro aD (And.intro hV9 (And.intro aB.2 lQ)));clear aD hV9 hI aB;go_wp2_with fail;refine(gH.out _ _ kl ov oc HKl.out.1 HQ.out.1 HQ.out.2.1 HKl.out.2).mono ?_;rintro e V9 ⟨rfl,mid9,q9⟩;have HE:=Q3 (mid9.e9 (st:=st) lP.out.1 (by have:=lP.out.2;omega) (q9.cell HQ.out.2.2.1 (by omega)) (q9.cell HQ.out.2.2.2 (by omega)));clear mid9 q9 kc1 lQ;go_wp2
   all_goals go_ret
   all_goals exact⟨z0d (by simp),HE.out⟩
end
theorem q8y:∀ (l:List (Nat × Blk)) (j:Nat) (b:Nat × Blk),l[j]? = some b->(bks l)[j*5]? = some (.int .i64 (b.1:Int))/\(bks l)[j*5+1]? = some (.int .i64 b.2.1)/\(bks l)[j*5+2]? = some (.int .i64 b.2.2.1)/\(bks l)[j*5+3]? = some (.int .i64 b.2.2.2.1)/\(bks l)[j*5+4]? = some (.int .i64 b.2.2.2.2)
 | [],j,b,h=>by simp at h
 | q :: l,0,b,h=>by
  simp at h;subst h;rw[z7t];exact⟨rfl,rfl,rfl,rfl,rfl⟩
 | q :: l,j+1,b,h=>by
  have:=q8y l j b (by simpa using h);rw[z7t,show (j+1)*5=j*5+5 from by omega];simpa using this
theorem q0e {w:World} {base:Nat} {v:Value} {l:List (Nat × Blk)} (h:F7 w base v l):∃ po pc,v=.slice po l.length pc/\∀ (j:Nat) (b:Nat × Blk),l[j]? = some b->∃ g,po=some ⟨g,0,none⟩/\w.cell? ⟨g,j*5,none⟩=some (.int .i64 (b.1:Int))/\w.cell? ⟨g,j*5+1,none⟩=some (.int .i64 b.2.1)/\w.cell? ⟨g,j*5+2,none⟩=some (.int .i64 b.2.2.1)/\w.cell? ⟨g,j*5+3,none⟩=some (.int .i64 b.2.2.2.1)/\w.cell? ⟨g,j*5+4,none⟩=some (.int .i64 b.2.2.2.2):=by
 obtain⟨h1,h2⟩:=h;rcases h2 with ⟨e1,h2⟩ | ⟨g,cap,dI,rfl,h3,h4,h5,h6,h7,h8⟩
 ·refine⟨none,0,by rw[e1,h2],fun j b hj=>?_⟩;rw[List.eq_nil_of_length_eq_zero h2] at hj;simp at hj
 refine⟨some ⟨g,0,none⟩,cap,rfl,fun j b hj=>⟨g,rfl,?_⟩⟩;have hl:=(List.getElem?_eq_some_iff.1 hj).1;obtain⟨k0,k1,k2,k3,k4⟩:=q8y l j b hj;have get:∀ i u,i<l.length*5->(bks l)[i]? = some u->w.cell? ⟨g,i,none⟩=some u:=by
  intro i u hi hu;rw[<-h8] at hu;have:dI[i]? = some u:=by simpa [List.getElem?_take,hi] using hu
  simp[World.cell?,h4,this]
 exact⟨get _ _ (by omega) k0,get _ _ (by omega) k1,get _ _ (by omega) k2,get _ _ (by omega) k3,get _ _ (by omega) k4⟩
theorem neqb (a b c d e:Int) (W:World):(binOp .neq 81 (.agg #[.int .i64 a,.int .i64 b,.int .i64 c,.int .i64 d,.int .i64 e]) (.agg #[.int .i64 a,.int .i64 b,.int .i64 c,.int .i64 d,.int .i64 e])).run Tryz.prog W=.ok (.bool false) W:=by
 go_simp
theorem op12 {w:World} {g:Nat} {x0 x1 x2 x3 x4 x5 x6 x7 x8 x9 x10 x11:Value} {T:TypeId} (h:w.heap[g]? = some (.cells #[x0,x1,x2,x3,x4,x5,x6,x7,x8,x9,x10,x11] T (0,0))) :
  w.cell? ⟨g,0,none⟩=some x0/\w.cell? ⟨g,2,none⟩=some x2/\w.cell? ⟨g,11,none⟩=some x11:=by
 refine⟨?_,?_,?_⟩ <;> simp[World.cell?,h]
section
variable {w:World} {q:Q9} {st:Sp} {c:Nat}
theorem z7e (h:PB w q st c) (hn:q.n<=4):Kz 13 #[Pq q.B] w fun e w'=>e=.returned (.bool true)/\Out 0 0 w w':=by
 have HP:=Q3 h;obtain⟨p0,p1,p2⟩:=h.cells;have r0:=h.be.pc;have r1:=h.be.rc;have mT:=j8x h.be.p.1 (z0w st);have lD:=fun V (o:Out 0 0 w V)=>q7t (h.be.r.quiet o) h.inv rfl
 obtain⟨r,hr⟩:∃ r,Q6 q.n st=r:=⟨_,rfl⟩
 rw[hr] at mT;simp only[hr] at lD;obtain⟨iI,eh0⟩:∃ x,nxr (r.F 0) (64*q.n) 0=x:=⟨_,rfl⟩
 rw[eh0] at mT;simp only[eh0] at lD;obtain⟨hz1,eh1⟩:∃ x,nxr (r.F 1) (64*q.n) 0=x:=⟨_,rfl⟩
 rw[eh1] at mT;simp only[eh1] at lD;obtain⟨iH,eh2⟩:∃ x,nxr (r.F 2) (64*q.n) 0=x:=⟨_,rfl⟩
 rw[eh2] at mT;simp only[eh2] at lD;obtain⟨hz3,eh3⟩:∃ x,nxr (r.F 3) (64*q.n) 0=x:=⟨_,rfl⟩
 rw[eh3] at mT;simp only[eh3] at lD;obtain⟨hz4,eh4⟩:∃ x,nxr (r.F 4) (64*q.n) 0=x:=⟨_,rfl⟩
 rw[eh4] at mT;simp only[eh4] at lD;obtain⟨hz5,eh5⟩:∃ x,nxr (r.F 5) (64*q.n) 0=x:=⟨_,rfl⟩
 rw[eh5] at mT;simp only[eh5] at lD;obtain⟨hz6,eh6⟩:∃ x,nxr (r.F 6) (64*q.n) 0=x:=⟨_,rfl⟩
 rw[eh6] at mT;simp only[eh6] at lD;obtain⟨hz7,eh7⟩:∃ x,nxr (r.F 7) (64*q.n) 0=x:=⟨_,rfl⟩
 rw[eh7] at mT;simp only[eh7] at lD;obtain⟨ls,hls⟩:∃ x,r.last=x:=⟨_,rfl⟩
 rw[hls] at mT;simp only[hls] at lD;obtain⟨M,hM⟩:∃ M,64*q.n=M:=⟨_,rfl⟩
 rw[hM] at mT;simp only[hM] at lD;have HM:=Q3 hM;have HD1:=Q3 mT;have HD2:=Q3 lD;clear h mT lD hr hls hM eh0 eh1 eh2 eh3 eh4 eh5 eh6 eh7;go_enter Tryz.func13,Tryz.ntmps13
 go_wp2_with fail;refine HD1.out.mono ?_;rintro e w1 ⟨gw,cw,gp,cp,vb,rfl,D1,o1⟩;obtain⟨po,pc,rfl,b1⟩:=q0e D1.2.2.1;obtain⟨L,hL⟩:∃ L,(K4 r (64*q.n)).length=L:=⟨_,rfl⟩
 rw[hL];have E1:ElAt w1 (Sz gw M cw) M 1 (fun j _=>r.W j):=by
  have h1:=D1.1;rw[HM.out] at h1;exact x6a h1 (fun j i hj hi=>by
   have e:j*1+i=j:=by omega
   rw[e,List.getElem?_map,List.getElem?_range hj];rfl)
 obtain⟨W1,d1,cC,mT,f1,oW1,_⟩:=box1a w1 (.cells #[Sz gw M cw,Sz gp q.n cp,.slice po L pc,Iz iI,Iz hz1,Iz iH,Iz hz3,Iz hz4,Iz hz5,Iz hz6,Iz hz7,Iz ls] 74);have H1:=Q3 (And.intro D1 (And.intro E1 (And.intro (o1.trans oW1) (And.intro oW1 f1))));have HB1:=Q3 b1;replace p0:=(o1.trans oW1).cell p0 z0;replace p1:=(o1.trans oW1).cell p1 z0;replace r1:=(o1.trans oW1).cell r1 z0;clear D1 E1 f1 oW1 o1 b1 r0;go_wp2_with fail;(try rw[cC]);(try rw[mT]);clear cC mT;refine(HD2.out _ H1.out.2.2.1).mono ?_;rintro e w2 ⟨gw2,cw2,gp2,cp2,vb2,rfl,D2,o2⟩;obtain⟨po2,pc2,rfl,b2⟩:=q0e D2.2.2.1;rw[hL];have E2:ElAt w2 (Sz gw2 M cw2) M 1 (fun j _=>r.W j):=by
  have h1:=D2.1;rw[HM.out] at h1;exact x6a h1 (fun j i hj hi=>by
   have e:j*1+i=j:=by omega
   rw[e,List.getElem?_map,List.getElem?_range hj];rfl)
 obtain⟨W2,d2,jL,lD,f2,oW2,_⟩:=box1a w2 (.cells #[Sz gw2 M cw2,Sz gp2 q.n cp2,.slice po2 L pc2,Iz iI,Iz hz1,Iz iH,Iz hz3,Iz hz4,Iz hz5,Iz hz6,Iz hz7,Iz ls] 74);have f1':=(o2.trans oW2).heap H1.out.2.2.2.2 z0;have aH:=Q3 (H1.out.2.2.1.trans (o2.trans oW2));have HE:=Q3 (And.intro (H1.out.2.1.quiet (H1.out.2.2.2.1.trans (o2.trans oW2))) (E2.quiet oW2));have HC1:Hid (∀ (j:Nat) (b:Nat × Blk),(K4 r (64*q.n))[j]? = some b->∃ g,po=some ⟨g,0,none⟩/\cq W2 g (j*5)=some (Iz (b.1:Int))/\cq W2 g (j*5+1)=some (Iz b.2.1)/\cq W2 g (j*5+2)=some (Iz b.2.2.1)/\cq W2 g (j*5+3)=some (Iz b.2.2.2.1)/\cq W2 g (j*5+4)=some (Iz b.2.2.2.2)):=fun j b hj=>by
  obtain⟨g,e,k0,k1,k2,k3,k4⟩:=HB1.out j b hj;have oo:=H1.out.2.2.2.1.trans (o2.trans oW2);exact⟨g,e,oo.cell k0 z0,oo.cell k1 z0,oo.cell k2 z0,oo.cell k3 z0,oo.cell k4 z0⟩
 have HC2:Hid (∀ (j:Nat) (b:Nat × Blk),(K4 r (64*q.n))[j]? = some b->∃ g,po2=some ⟨g,0,none⟩/\cq W2 g (j*5)=some (Iz (b.1:Int))/\cq W2 g (j*5+1)=some (Iz b.2.1)/\cq W2 g (j*5+2)=some (Iz b.2.2.1)/\cq W2 g (j*5+3)=some (Iz b.2.2.2.1)/\cq W2 g (j*5+4)=some (Iz b.2.2.2.2)):=fun j b hj=>by
  obtain⟨g,e,k0,k1,k2,k3,k4⟩:=b2 j b hj;exact⟨g,e,oW2.cell k0 z0,oW2.cell k1 z0,oW2.cell k2 z0,oW2.cell k3 z0,oW2.cell k4 z0⟩
 have HF:=Q3 (And.intro f1' f2);obtain⟨u0,u2,u11⟩:=op12 f1';obtain⟨v0,v2,v11⟩:=op12 f2;have HL:=Q3 hL;clear D2 E2 f1' f2 oW2 o2 b2 hL p0 p1 p2 r1 H1 HB1 HD1 HD2;go_wp2_with fail;(try rw[jL]);(try rw[lD]);clear jL lD;refine(q4x HE.out.1 HE.out.2 (by have:=HM.out;omega)).mono ?_;rintro e W3 ⟨rfl,o3⟩;replace u0:=o3.cell u0 z0;replace u2:=o3.cell u2 z0;replace u11:=o3.cell u11 z0;replace v0:=o3.cell v0 z0;replace v2:=o3.cell v2 z0;replace v11:=o3.cell v11 z0;have bU:=Q3 o3;have L1:L<=256:=by
  have h1:=z3d r (64*q.n);have h2:=HL.out;omega
 have L2:(L:Int)<=256:=by omega
 have L0:(0:Int)<=(L:Int):=by omega
 clear o3 HE;go_wp2_with fail;clear u0 u11 v0 v11 u2 v2;go_loopw [5] (fun u wr=>∃ i:Nat,u=Iz (i:Int)/\i<=L/\Out 0 0 W3 wr) (fun u _=>L-(intOf u).toNat)
 case atStart=>exact⟨0,rfl,Nat.zero_le _,Out.refl 0 0 _⟩
 case round=>
  obtain⟨i,rfl,i1,hO⟩:=hrel;have HO:=Q3 hO;have a1:=(op12 ((bU.out.trans hO).heap HF.out.1 z0)).2.1;have a2:=(op12 ((bU.out.trans hO).heap HF.out.2 z0)).2.1;have i0:(0:Int)<=(i:Int):=by omega
  by_cases hi:i<L
  ·have i2:(i:Int)<(L:Int):=by omega
   obtain⟨b,hb⟩:∃ b,(K4 r (64*q.n))[i]? = some b:=⟨_,List.getElem?_eq_getElem (by have:=HL.out;omega)⟩
   obtain⟨g,rfl,c0,c1,c2,c3,c4⟩:=HC1.out i b hb;obtain⟨g2,rfl,e0,e1,e2,e3,e4⟩:=HC2.out i b hb;obtain⟨x0,hx0⟩:∃ x,((b.1:Nat):Int)=x:=⟨_,rfl⟩
   rw[hx0] at c0 e0;obtain⟨x1,lS⟩:∃ x,b.2.1=x:=⟨_,rfl⟩
   rw[lS] at c1 e1;obtain⟨x2,hx2⟩:∃ x,b.2.2.1=x:=⟨_,rfl⟩
   rw[hx2] at c2 e2;obtain⟨x3,hx3⟩:∃ x,b.2.2.2.1=x:=⟨_,rfl⟩
   rw[hx3] at c3 e3;obtain⟨x4,hx4⟩:∃ x,b.2.2.2.2=x:=⟨_,rfl⟩
   rw[hx4] at c4 e4;replace c0:=(bU.out.trans hO).cell c0 z0;replace c1:=(bU.out.trans hO).cell c1 z0;replace c2:=(bU.out.trans hO).cell c2 z0;replace c3:=(bU.out.trans hO).cell c3 z0;replace c4:=(bU.out.trans hO).cell c4 z0;replace e0:=(bU.out.trans hO).cell e0 z0;replace e1:=(bU.out.trans hO).cell e1 z0;replace e2:=(bU.out.trans hO).cell e2 z0;replace e3:=(bU.out.trans hO).cell e3 z0;replace e4:=(bU.out.trans hO).cell e4 z0;have hE:=neqb x0 x1 x2 x3 x4;clear hO hb;go_wp2_with fail;refine wp_region_held_drew (S:=fun w'=>cq w' d1 2=some (Sz g L pc)/\cq w' d2 2=some (Sz g2 L pc2)/\cq w' g (i*5)=some (Iz x0)/\cq w' g (i*5+1)=some (Iz x1)/\cq w' g (i*5+2)=some (Iz x2)/\cq w' g (i*5+3)=some (Iz x3)/\cq w' g (i*5+4)=some (Iz x4)/\cq w' g2 (i*5)=some (Iz x0)/\cq w' g2 (i*5+1)=some (Iz x1)/\cq w' g2 (i*5+2)=some (Iz x2)/\cq w' g2 (i*5+3)=some (Iz x3)/\cq w' g2 (i*5+4)=some (Iz x4)) (by kernel_rfl) ?hS61 (fun aB=>?rest61)
   case hS61=>exact⟨a1,a2,c0,c1,c2,c3,c4,e0,e1,e2,e3,e4⟩
   refine tk 0 ?_;refine tk 1 ?_;refine tk 2 ?_;refine tk 3 ?_;refine tk 4 ?_;refine tk 5 ?_;refine tk 6 ?_;refine tk 7 ?_;refine tk 8 ?_;refine tk 9 ?_;refine tk 10 ?_;refine dn ?_;clear aB;go_wp2_with fail;exact⟨⟨i+1,by congr 1,by omega,(HO.out.drew)⟩,by simp[intOf] <;> omega⟩
  ·have e:i=L:=by omega
   subst e;clear hO;go_wp2;go_ret;exact⟨rfl,aH.out.trans (bU.out.trans HO.out)⟩
end
theorem z7s {w:World} {g:Nat} (h:w.heap[g]? = some bk0):w.cell? ⟨g,0,none⟩=some (.slice none 0 0)/\w.cell? ⟨g,1,none⟩=some (.slice none 0 0)/\w.cell? ⟨g,2,none⟩=some (.slice none 0 0)/\w.cell? ⟨g,3,none⟩=some (.slice none 0 0)/\w.cell? ⟨g,4,none⟩=some (.slice none 0 0)/\w.cell? ⟨g,5,none⟩=some (.slice none 0 0)/\w.cell? ⟨g,6,none⟩=some (.slice none 0 0)/\w.cell? ⟨g,7,none⟩=some (.slice none 0 0)/\w.cell? ⟨g,8,none⟩=some (.slice none 0 0):=by
 unfold bk0 at h;refine⟨?_,?_,?_,?_,?_,?_,?_,?_,?_⟩ <;> simp[World.cell?,h]
theorem x5o {w:World} {g:Nat} (h:w.heap[g]? = some bk0):Kz 33 #[Pq g] w fun e w'=>e=.returned (.bool false)/\w'=w:=by
 obtain⟨c0,c1,c2,c3,c4,c5,c6,c7,c8⟩:=z7s h;clear h;go_enter Tryz.func33,Tryz.ntmps33
 go_wp2_with fail;go_loopw [3,4] (fun b u wr=>b=.bool false/\u=Iz 0/\w=wr) (fun _ _ _=>0)
 case atStart=>exact⟨rfl,rfl,rfl⟩
 case round=>
  obtain⟨rfl,rfl,rfl⟩:=hrel;go_wp2_with fail;go_loopw [3,5] (fun b u wr=>b=.bool false/\u=Iz 0/\w=wr) (fun _ _ _=>0)
  case atStart=>exact⟨rfl,rfl,rfl⟩
  case round=>
   obtain⟨rfl,rfl,rfl⟩:=hrel;go_wp2_with fail;go_loopw [3,6] (fun b u wr=>b=.bool false/\u=Iz 0/\w=wr) (fun _ _ _=>0)
   case atStart=>exact⟨rfl,rfl,rfl⟩
   case round=>
    obtain⟨rfl,rfl,rfl⟩:=hrel;go_wp2_with fail;go_loopw [3,7] (fun b u wr=>b=.bool false/\u=Iz 0/\w=wr) (fun _ _ _=>0)
    case atStart=>exact⟨rfl,rfl,rfl⟩
    case round=>
     obtain⟨rfl,rfl,rfl⟩:=hrel;go_wp2_with fail;go_ret;exact⟨rfl,rfl⟩
theorem x7q {w:World} {g:Nat} (h:w.heap[g]? = some bk0):Kz 34 #[Pq g] w fun e w'=>e=.returned (.tuple #[])/\w'=w:=by
 obtain⟨c0,c1,c2,c3,c4,c5,c6,c7,c8⟩:=z7s h;clear h;go_enter Tryz.func34,Tryz.ntmps34
 go_wp2_with fail;go_loopw [2] (fun u wr=>u=Iz 0/\w=wr) (fun _ _=>0)
 case atStart=>exact⟨rfl,rfl⟩
 case round=>
  obtain⟨rfl,rfl⟩:=hrel;go_wp2_with fail;go_loopw [4] (fun u wr=>u=Iz 0/\w=wr) (fun _ _=>0)
  case atStart=>exact⟨rfl,rfl⟩
  case round=>
   obtain⟨rfl,rfl⟩:=hrel;go_wp2_with fail;go_loopw [6] (fun u wr=>u=Iz 0/\w=wr) (fun _ _=>0)
   case atStart=>exact⟨rfl,rfl⟩
   case round=>
    obtain⟨rfl,rfl⟩:=hrel;go_wp2_with fail;go_loopw [8] (fun u wr=>u=Iz 0/\w=wr) (fun _ _=>0)
    case atStart=>exact⟨rfl,rfl⟩
    case round=>
     obtain⟨rfl,rfl⟩:=hrel;go_wp2_with fail;go_loopw [10] (fun u wr=>u=Iz 0/\w=wr) (fun _ _=>0)
     case atStart=>exact⟨rfl,rfl⟩
     case round=>
      obtain⟨rfl,rfl⟩:=hrel;go_wp2_with fail;exact bodyPost_end (results_none Tryz.results34 _ _ _) rfl ⟨rfl,rfl⟩
theorem j0g {w:World} {g:Nat} (h:w.heap[g]? = some bk0):Kz 36 #[Pq g] w fun e w'=>e=.returned (.bool true)/\w'=w:=by
 obtain⟨c0,c1,c2,c3,c4,c5,c6,c7,c8⟩:=z7s h;clear h;go_enter Tryz.func36,Tryz.ntmps36
 go_wp2_with fail;go_loopw [3,4] (fun b u wr=>b=.bool true/\u=Iz 0/\w=wr) (fun _ _ _=>0)
 case atStart=>exact⟨rfl,rfl,rfl⟩
 case round=>
  obtain⟨rfl,rfl,rfl⟩:=hrel;go_wp2_with fail;go_loopw [3,6] (fun b u wr=>b=.bool true/\u=Iz 0/\w=wr) (fun _ _ _=>0)
  case atStart=>exact⟨rfl,rfl,rfl⟩
  case round=>
   obtain⟨rfl,rfl,rfl⟩:=hrel;go_wp2_with fail;go_loopw [3,8] (fun b u wr=>b=.bool true/\u=Iz 0/\w=wr) (fun _ _ _=>0)
   case atStart=>exact⟨rfl,rfl,rfl⟩
   case round=>
    obtain⟨rfl,rfl,rfl⟩:=hrel;go_wp2_with fail;go_loopw [3,10] (fun b u wr=>b=.bool true/\u=Iz 0/\w=wr) (fun _ _ _=>0)
    case atStart=>exact⟨rfl,rfl,rfl⟩
    case round=>
     obtain⟨rfl,rfl,rfl⟩:=hrel;go_wp2_with fail;go_loopw [3,12] (fun b u wr=>b=.bool true/\u=Iz 0/\w=wr) (fun _ _ _=>0)
     case atStart=>exact⟨rfl,rfl,rfl⟩
     case round=>
      obtain⟨rfl,rfl,rfl⟩:=hrel;go_wp2_with fail;go_ret;exact⟨rfl,rfl⟩
theorem x6h {w:World} {g:Nat} (h:w.heap[g]? = some bk0):Kz 35 #[Pq g] w fun e w'=>∃ g',e=.returned (Pq g')/\w'.heap[g']? = some bk0/\Out 0 0 w w':=by
 have o1:=(Out.refl 0 0 w).alloc bk0;have f1:=heap_alloc_new w bk0;have h1:=o1.heap h z0;obtain⟨c0,c1,c2,c3,c4,c5,c6,c7,c8⟩:=z7s h1;obtain⟨V,hV⟩:∃ V,w.alloc bk0=V:=⟨_,rfl⟩
 obtain⟨gg,hg⟩:∃ g,w.heap.size=g:=⟨_,rfl⟩
 rw[hV] at o1 f1 c0 c1 c2 c3 c4 c5 c6 c7 c8;rw[hg] at f1;have H:=Q3 (And.intro f1 o1);unfold bk0 at hV;clear h h1 f1 o1;go_enter Tryz.func35,Tryz.ntmps35
 go_wp2_with fail;(try rw[hV]);(try rw[hg]);clear hV hg;go_loopw [4] (fun u wr=>u=Iz 0/\V=wr) (fun _ _=>0)
 case atStart=>exact⟨rfl,rfl⟩
 case round=>
  obtain⟨rfl,rfl⟩:=hrel;go_wp2_with fail;go_loopw [9] (fun u wr=>u=Iz 0/\V=wr) (fun _ _=>0)
  case atStart=>exact⟨rfl,rfl⟩
  case round=>
   obtain⟨rfl,rfl⟩:=hrel;go_wp2_with fail;go_loopw [14] (fun u wr=>u=Iz 0/\V=wr) (fun _ _=>0)
   case atStart=>exact⟨rfl,rfl⟩
   case round=>
    obtain⟨rfl,rfl⟩:=hrel;go_wp2_with fail;go_loopw [19] (fun u wr=>u=Iz 0/\V=wr) (fun _ _=>0)
    case atStart=>exact⟨rfl,rfl⟩
    case round=>
     obtain⟨rfl,rfl⟩:=hrel;go_wp2_with fail;go_loopw [22] (fun u wr=>u=Iz 0/\V=wr) (fun _ _=>0)
     case atStart=>exact⟨rfl,rfl⟩
     case round=>
      obtain⟨rfl,rfl⟩:=hrel;go_wp2_with fail;go_ret;exact⟨_,rfl,H.out.1,H.out.2⟩
theorem q8w {w:World} {g:Nat} (h:w.heap[g]? = some bk0):Kz 14 #[Pq g] w fun e w'=>e=.returned (.bool true)/\Out 0 0 w w':=by
 have H:=Q3 h;clear h;go_enter Tryz.func14,Tryz.ntmps14
 go_wp2_with fail;refine Q4 (x5o H.out) ?_;go_wp2_with fail;refine Q4 (x7q H.out) ?_;go_wp2_with fail;refine(x6h H.out).mono ?_;rintro e V ⟨g',rfl,f1,o1⟩;have H1:=Q3 (And.intro f1 (And.intro (o1.heap H.out z0) o1));clear f1 o1;go_wp2_with fail;refine Q4 (j0g H1.out.2.1) ?_;go_wp2_with fail;refine Q4 (j0g H1.out.1) ?_;go_wp2;go_ret;exact⟨rfl,H1.out.2.2⟩
end Go.Proofs.YtjgnogflgoihfaaGreatDoor
namespace Go.Proofs.YtjgnogflgoihfaaGreatDoor
open Go.ChangeShapes Go.WideShapes Go.ChangeAt Go.RowKit Go.Deep Go.Joins
theorem j3o:Tryz.prog.cellsOf 22=2:=by kernel_rfl
theorem z6h:Tryz.prog.cellsOf 3=1:=by kernel_rfl
theorem j0u:Tryz.prog.cellsOf 32=2:=by kernel_rfl
theorem j3n:Tryz.prog.cellsOf 35=10:=by kernel_rfl
theorem open_two {H:Type} {enc:TypeId × Value->H} {W:World} {sp:Nat->Bool} {r:Reach} {b0:Nat} {v:Value} {d:DataW H} {p:List MemPlace} (hv:Value.okWide Tryz.prog W r b0 22 v)
  (h:DataW.Trod enc Tryz.prog W 0 sp true 22 v d p):∃ a b:Int,v=.agg #[.int .i64 a,.int .i64 b]/\(-9223372036854775808<=a/\a<=9223372036854775807)/\(-9223372036854775808<=b/\b<=9223372036854775807):=by
 simp only[Value.okWide,Tryz.underlying22] at hv;obtain⟨cs,rfl,gQ,_⟩:=hv;obtain⟨c0,c1,rfl⟩:=array2 (gQ.trans j3o);obtain⟨fuel,hf⟩:=h;obtain⟨xs,m,_,ex,bZ,hl,hel⟩:=DataW.trod_array Tryz.underlying22 hf;match xs,hl with
 | [y0,y1],_=>
  have h0:=hel 0 (by omega);have h1:=hel 1 (by omega);simp[z6h,Value.cells] at h0 h1;obtain⟨z0,e0,_,w0⟩:=DataW.trod_int Tryz.underlying3 h0;obtain⟨z1,e1,_,w1⟩:=DataW.trod_int Tryz.underlying3 h1;simp only[List.cons.injEq,and_true] at e0 e1;subst e0 e1;exact⟨z0,z1,rfl,G8 w0,G8 w1⟩
structure Op9 where
 who:Int
 kind:Int
 a:Int
 b:Int
 c:Int
 v1:Int
 v2:Int
 w1:Int
 w2:Int
 bs:List Int
def x1m (x:Int):Prop:=-9223372036854775808<=x/\x<=9223372036854775807
structure Op9.Ok (o:Op9):Prop where
 k:x1m o.kind
 a:x1m o.a
 b:x1m o.b
 c:x1m o.c
 v1:x1m o.v1
 v2:x1m o.v2
 w1:x1m o.w1
 w2:x1m o.w2
 len:o.bs.length<=140737488351232
def OpsAt (w:World) (b:Nat) (p:Option Addr) (os:List Op9):Prop:=
 (∀ o ∈ os,o.Ok)/\(os=[]\/∃ g cK,p=some ⟨g,cK,none⟩/\g<b/\∀ j o,os[j]? = some o->∃ pj cj,w.cell? ⟨g,cK+j*10,none⟩=some (.int .i64 o.who)/\w.cell? ⟨g,cK+(j*10+1),none⟩=some (.int .i64 o.kind)/\w.cell? ⟨g,cK+(j*10+2),none⟩=some (.int .i64 o.a)/\w.cell? ⟨g,cK+(j*10+3),none⟩=some (.int .i64 o.b)/\w.cell? ⟨g,cK+(j*10+4),none⟩=some (.int .i64 o.c) ∧
  w.cell? ⟨g,cK+(j*10+5),none⟩=some (.int .i64 o.v1)/\w.cell? ⟨g,cK+(j*10+6),none⟩=some (.int .i64 o.v2)/\w.cell? ⟨g,cK+(j*10+7),none⟩=some (.int .i64 o.w1)/\w.cell? ⟨g,cK+(j*10+8),none⟩=some (.int .i64 o.w2)/\w.cell? ⟨g,cK+(j*10+9),none⟩=some (.slice pj o.bs.length cj)/\ByIn w b pj o.bs)
theorem OpsAt.kept {w w':World} {b x y:Nat} {p:Option Addr} {os:List Op9} (h:OpsAt w b p os) (o:Out x y w w') (hx:b<=x\/y=0):OpsAt w' b p os:=by
 refine⟨h.1,?_⟩;rcases h.2 with h | ⟨g,cK,h1,h2,h3⟩
 ·exact .inl h
 ·refine .inr ⟨g,cK,h1,h2,fun j q hj=>?_⟩;obtain⟨pj,cj,c0,c1,c2,c3,c4,c5,c6,c7,c8,c9,c10⟩:=h3 j q hj;exact⟨pj,cj,o.cell c0 (by omega),o.cell c1 (by omega),o.cell c2 (by omega),o.cell c3 (by omega),o.cell c4 (by omega),o.cell c5 (by omega),o.cell c6 (by omega),o.cell c7 (by omega),o.cell c8 (by omega),o.cell c9 (by omega),c10.kept o hx⟩
theorem OpsAt.up {w:World} {b b':Nat} {p:Option Addr} {os:List Op9} (h:OpsAt w b p os) (hb:b<=b'):OpsAt w b' p os:=by
 refine⟨h.1,?_⟩;rcases h.2 with h | ⟨g,cK,h1,h2,h3⟩
 ·exact .inl h
 ·refine .inr ⟨g,cK,h1,by omega,fun j q hj=>?_⟩;obtain⟨pj,cj,c0,c1,c2,c3,c4,c5,c6,c7,c8,c9,c10⟩:=h3 j q hj;refine⟨pj,cj,c0,c1,c2,c3,c4,c5,c6,c7,c8,c9,c10.1,?_⟩;rcases c10.2 with e | ⟨g',off',e1,e2,e3⟩
  ·exact .inl e
  ·exact .inr ⟨g',off',e1,by omega,e3⟩
def z7g (t:Int × Int × Int × Int × Int × Int × Int × Int × Int × List Int):Op9:=⟨t.1,t.2.1,t.2.2.1,t.2.2.2.1,t.2.2.2.2.1,t.2.2.2.2.2.1,t.2.2.2.2.2.2.1,t.2.2.2.2.2.2.2.1,t.2.2.2.2.2.2.2.2.1,t.2.2.2.2.2.2.2.2.2⟩
theorem open_ops {H:Type} {enc:TypeId × Value->H} {W:World} {fuel:Nat} {cs:List Value} {x:DataW H × List MemPlace} (h:DataW.trod enc Tryz.prog W 0 (fun _=>true) true fuel 23 cs=some x) (hw:∀ n ∈ x.1.weights Tryz.prog 23,n<=reachBytes) :
  ∃ (p:Option Addr) (os:List Op9) (cap:Nat),cs=[.slice p os.length cap]/\OpsAt W W.heap.size p os/\os.length<=9223372036854775807:=by
 rcases open_slice Tryz.underlying23 h with h0 | ⟨a,len,cap,m,n,D,Pl,rfl,hb,hl,hm,hmm,rfl,hx⟩
 ·exact⟨none,[],0,h0.1,⟨(fun x hx=>by cases hx),.inl rfl⟩,by simp⟩
 simp only[if_true] at hmm;subst hmm;have oT:∀ i,i<len->∃ q:(Int × Int × Int × Int × Int × Int × Int × Int × Int × List Int) × Option Addr × Nat,W.cell? (a.add (i*10))=some (.int .i64 (z7g q.1).who)/\W.cell? (a.add (i*10+1))=some (.int .i64 (z7g q.1).kind)/\W.cell? (a.add (i*10+2))=some (.int .i64 (z7g q.1).a)/\W.cell? (a.add (i*10+3))=some (.int .i64 (z7g q.1).b) ∧
   W.cell? (a.add (i*10+4))=some (.int .i64 (z7g q.1).c)/\W.cell? (a.add (i*10+5))=some (.int .i64 (z7g q.1).v1)/\W.cell? (a.add (i*10+6))=some (.int .i64 (z7g q.1).v2)/\W.cell? (a.add (i*10+7))=some (.int .i64 (z7g q.1).w1)/\W.cell? (a.add (i*10+8))=some (.int .i64 (z7g q.1).w2) ∧
   W.cell? (a.add (i*10+9))=some (.slice q.2.1 (z7g q.1).bs.length q.2.2)/\ByIn W W.heap.size q.2.1 (z7g q.1).bs/\(z7g q.1).Ok:=by
  intro i hi;obtain⟨cs',h1,h2⟩:=hx i (by omega);rw[j3n] at h1;obtain⟨_,bZ,cU⟩:=World.cells?_some h1;obtain⟨xs,n',_,hD,hl',hxl,hf⟩:=DataW.trod_struct Tryz.underlying35 h2;match xs,hxl with
  | [y0,y1,y2,y3,y4,y5,y6,y7],_=>
   have g0:=hf 0 _ rfl;have g1:=hf 1 _ rfl;have g2:=hf 2 _ rfl;have g3:=hf 3 _ rfl;have g4:=hf 4 _ rfl;have g5:=hf 5 _ rfl;have g6:=hf 6 _ rfl;have g7:=hf 7 _ rfl;have hwt:∀ n ∈ y7.1.weights Tryz.prog 33,n<=reachBytes:=fun n hn=>hw n (by
    simp only[DataW.weights,Tryz.underlying23,List.mem_cons,List.mem_append];refine .inr (.inl (z6c (d:=D i) ?_ (List.mem_map.2 ⟨i,List.mem_range.2 hi,rfl⟩)));have hD1:D i=.agg [y0.1,y1.1,y2.1,y3.1,y4.1,y5.1,y6.1,y7.1]:=by simpa using congrArg Prod.fst hD
    rw[hD1];simp[DataW.weights,Tryz.underlying35,DataW.weightsEach];simp[hn])
   match cs',bZ with
   | [v0,v1,v2,v3,v4,v5,v6,v7,v8,v9],_=>
    simp[z6h,j0u,q6f] at g0 g1 g2 g3 g4 g5 g6 g7;obtain⟨z0,e0,_,w0⟩:=DataW.trod_int Tryz.underlying3 g0;obtain⟨z1,e1,_,w1⟩:=DataW.trod_int Tryz.underlying3 g1;obtain⟨z2,e2,_,w2⟩:=DataW.trod_int Tryz.underlying3 g2;obtain⟨z3,e3,_,w3⟩:=DataW.trod_int Tryz.underlying3 g3;obtain⟨z4,e4,_,w4⟩:=DataW.trod_int Tryz.underlying3 g4;obtain⟨u0,u1,nn,_,_,k0,k1⟩:=trod_struct2 Tryz.underlying32 g5;obtain⟨t0,t1,nm,_,_,l0,l1⟩:=trod_struct2 Tryz.underlying32 g6;simp[z6h] at k0 k1 l0 l1;obtain⟨z5,e5,_,w5⟩:=DataW.trod_int Tryz.underlying3 k0;obtain⟨z6,e6,_,w6⟩:=DataW.trod_int Tryz.underlying3 k1;obtain⟨z7,e7,_,w7⟩:=DataW.trod_int Tryz.underlying3 l0;obtain⟨z8,e8,_,w8⟩:=DataW.trod_int Tryz.underlying3 l1;obtain⟨lp,L,lc,e9,hBy,hLl⟩:=j1u g7 hwt;simp only[List.cons.injEq,and_true] at e0 e1 e2 e3 e4 e5 e6 e7 e8 e9;have f0:=cU 0 (by omega);have f1:=cU 1 (by omega);have f2:=cU 2 (by omega);have f3:=cU 3 (by omega);have f4:=cU 4 (by omega);have f5:=cU 5 (by omega);have f6:=cU 6 (by omega);have f7:=cU 7 (by omega);have f8:=cU 8 (by omega);have f9:=cU 9 (by omega);rw[add_add] at f0 f1 f2 f3 f4 f5 f6 f7 f8 f9;exact⟨((z0,z1,z2,z3,z4,z5,z6,z7,z8,L),lp,lc),by simpa [e0,z7g] using f0,by simpa [e1,z7g] using f1,by simpa [e2,z7g] using f2,by simpa [e3,z7g] using f3,by simpa [e4,z7g] using f4,by simpa [e5,z7g] using f5,by simpa [e6,z7g] using f6,by simpa [e7,z7g] using f7,by simpa [e8,z7g] using f8,by simpa [e9,z7g] using f9,hBy,⟨G8 w1,G8 w2,G8 w3,G8 w4,G8 w5,G8 w6,G8 w7,G8 w8,hLl⟩⟩
 obtain⟨q,hq⟩:=choose_lt oT;have bZ:((List.range len).map fun i=>z7g (q i).1).length=len:=by simp
 have getq:∀ j o,((List.range len).map fun i=>z7g (q i).1)[j]? = some o->j<len/\o=z7g (q j).1:=by
  intro j o hj;have lC:j<len:=by have:=(List.getElem?_eq_some_iff.1 hj).1;simpa using this
  rw[List.getElem?_map,List.getElem?_range lC] at hj;exact⟨lC,by simpa using hj.symm⟩
 refine⟨some a,(List.range len).map (fun i=>z7g (q i).1),_,by rw[bZ],⟨fun o ho=>?_,?_⟩,by rw[bZ];unfold maxLen at hm;omega⟩
 ·obtain⟨i,hi,rfl⟩:=List.mem_map.1 ho;exact(hq i (by simpa using hi)).2.2.2.2.2.2.2.2.2.2.2
 ·by_cases h0:len=0
  ·left;subst h0;rfl
  ·right
   obtain⟨b,cK,spot⟩:=a;have hspot:spot=none:=by
    have:=(hq 0 (by omega)).1;simpa [Addr.add] using World.cell?_spot this
   subst hspot;refine⟨b,cK,rfl,?_,fun j o hj=>?_⟩
   ·have:=j3m (hq 0 (by omega)).1;simpa [Addr.add] using this
   ·obtain⟨lC,rfl⟩:=getq j o hj;obtain⟨c0,c1,c2,c3,c4,c5,c6,c7,c8,c9,c10,_⟩:=hq j lC;rw[add_plain] at c0 c1 c2 c3 c4 c5 c6 c7 c8 c9;exact⟨_,_,c0,c1,c2,c3,c4,c5,c6,c7,c8,c9,c10⟩
end Go.Proofs.YtjgnogflgoihfaaGreatDoor
