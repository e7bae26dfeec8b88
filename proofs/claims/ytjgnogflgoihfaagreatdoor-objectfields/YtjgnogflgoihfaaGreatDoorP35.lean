import Derived.Test.YtjgnogflgoihfaaGreatDoorP33
set_option linter.unusedSimpArgs false
set_option linter.unusedVariables false
set_option maxHeartbeats 16000000
set_option maxRecDepth 100000
namespace Go.Proofs.YtjgnogflgoihfaaGreatDoor
open Go.RowKit
section
variable {w:World} {q:Q9} {st:Sp} {c:Nat}
theorem x5h (h:PB w q st c) (o0 o2 o3 o4 o5 o6 o7 o8 k m k2 m2:Int) (bp:Option Addr) (bl bc:Nat) (hv:I64 o3):Kz 29 #[Pq q.B,.agg #[Iz o0,Iz 25,Iz o2,Iz o3,Iz o4,Iz o5,Iz o6,Iz o7,Iz o8,.slice bp bl bc],Vz k m,Vz k2 m2] w fun e w'=>e=.returned (.bool true)/\E9 q st w w':=by
 have HP:=Q3 h;have cI:=Q3 h.od;obtain⟨W,bo,hW,dH,fO,fV,fX,oW,gQ⟩:=q1m w (.cells #[Iz o0,Iz 25,Iz o2,Iz o3,Iz o4,Iz o5,Iz o6,Iz o7,Iz o8,.slice bp bl bc] 35) (Dz k m 32) (Dz k2 m2 32);have cY:=h.od;rw[dH] at cY;unfold Od at cY;obtain⟨p0,p1,p2⟩:=(h.quiet oW).cells;have r0:=(h.quiet oW).be.pc;have r1:=(h.quiet oW).be.rc;obtain⟨x0,x1,x2,x3,x4,x5,x6,x7,x8,x9⟩:=j2o fO;obtain⟨v0,v1,_,_⟩:=Q5 fV;obtain⟨u0,u1,_,_⟩:=Q5 fX;have aD:=h.md oW;have bN:bo+3<=W.heap.size:=by omega
 have Hbo:=Q3 dH;obtain⟨eZ,nN⟩:∃ b,bo+3=b:=⟨_,rfl⟩
 rw[nN] at bN;have dK:=p0;have dJ:=p1;have dG:=r0;have dA:=r1;have dV:=v1;have eY:=x2;have gW:=x3;clear h fO fV fX;obtain⟨e0,he0⟩:∃ v,q3a (Q6 q.n st) m o2=v:=⟨_,rfl⟩
 obtain⟨a0,ha0⟩:∃ v,z4z (Q6 q.n st) m=v:=⟨_,rfl⟩
 have eK:Hid (∀ V lim,Mx q w lim st st V->cq V q.hb 0=some (Pq (q.s 14))->Kz 83 #[Pq (q.s 14),Iz m,Iz o2,Iz o3] V fun e w'=>e=.returned (Vz e0 a0)/\Mx q w lim (z1q st (wrW (Q6 q.n st) m o2 o3)) st w'/\Out q.lo q.hi V w'):=fun V lim hM hc=>by
  have q0:=cI.out;unfold Od at q0;have q:=x1b hM.sp m o2 o3;unfold z7d at q;rw[he0,ha0] at q;exact q.mono fun e w' ⟨h1,h2,h3⟩=>⟨h1,hM.p cI.out h2 h3,h3⟩
 have gH:Hid (∀ V lim,Mx q w lim (z1q st (wrW (Q6 q.n st) m o2 o3)) st V->cq V q.rb 0=some (Pq (q.s2 0))->Kz 84 #[Pq (q.s2 0),Iz m,Iz o2,Iz o3] V fun e w'=>e=.returned (Vz e0 a0)/\Mx q w lim (z1q st (wrW (Q6 q.n st) m o2 o3)) (z1q st (wrW (Q6 q.n st) m o2 o3)) w'/\Out q.lo2 q.hi2 V w'):=fun V lim hM hc=>by
  have q0:=cI.out;unfold Od at q0;have q:=q4q hM.rf HP.out.inv m o2 o3;unfold z7d at q;rw[he0,ha0] at q;exact q.mono fun e w' ⟨h1,h2,h3⟩=>⟨h1,hM.r cI.out h2 h3,h3⟩
 have lP:Hid (WI q.n (z1q st (wrW (Q6 q.n st) m o2 o3)).W):=HP.out.wi.wr _ _ hv;clear he0 ha0 hv;go_enter Tryz.func29,Tryz.ntmps29
 go_wp2_with fail;(try rw[hW]);(try rw[dH]);have gV:w.heap.size<=bo:=Nat.le_of_eq dH;clear hW dH p0 p1 p2 r0 r1 x0 x1 x2 x3 x4 x5 x6 x7 x8 x9 v0 v1 u0 u1 oW gQ;obtain⟨lim23,hlm23⟩:∃ l,W.heap.size=l:=⟨_,rfl⟩
 replace aD:=aD.at;rw[hlm23] at aD;have hlim23:eZ<=lim23:=by rw[<-hlm23];exact bN
 clear hlm23;rename_i K hK
 apply x1r (K:=K) (F:=fun g1 V=>Mx q w lim23 (z1q st (wrW (Q6 q.n st) m o2 o3)) st V/\(fun w'=>cq w' q.B 0=some (Pq q.hb)/\cq w' q.B 1=some (Pq q.rb)/\cq w' q.hb 0=some (Pq (q.s 14))/\cq w' q.rb 0=some (Pq (q.s2 0))/\cq w' (bo+1) 1=some (Iz m)/\cq w' bo 2=some (Iz o2)/\cq w' bo 3=some (Iz o3)) V/\V.heap[g1]? = some (Dz e0 a0 46)/\lim23<=g1)
 case h1=>
  intro nA;have HK:=Q3 nA;have kp:∀ {V V':World} {x y:Nat},(fun w'=>cq w' q.B 0=some (Pq q.hb)/\cq w' q.B 1=some (Pq q.rb)/\cq w' q.hb 0=some (Pq (q.s 14))/\cq w' q.rb 0=some (Pq (q.s2 0))/\cq w' (bo+1) 1=some (Iz m)/\cq w' bo 2=some (Iz o2)/\cq w' bo 3=some (Iz o3)) V->Out x y V V'->(q.B<x\/y<=q.B)/\(q.hb<x\/y<=q.hb)/\(q.rb<x\/y<=q.rb)/\(bo+1<x\/y<=bo+1)/\(bo<x\/y<=bo)->(fun w'=>cq w' q.B 0=some (Pq q.hb)/\cq w' q.B 1=some (Pq q.rb)/\cq w' q.hb 0=some (Pq (q.s 14))/\cq w' q.rb 0=some (Pq (q.s2 0))/\cq w' (bo+1) 1=some (Iz m)/\cq w' bo 2=some (Iz o2)/\cq w' bo 3=some (Iz o3)) V':=fun h o b=>⟨o.cell h.1 b.1,o.cell h.2.1 b.1,o.cell h.2.2.1 b.2.1,o.cell h.2.2.2.1 b.2.2.1,o.cell h.2.2.2.2.1 b.2.2.2.1,o.cell h.2.2.2.2.2.1 b.2.2.2.2,o.cell h.2.2.2.2.2.2 b.2.2.2.2⟩
  refine wp_region_held_drew (S:=fun w'=>cq w' q.B 0=some (Pq q.hb)/\cq w' q.B 1=some (Pq q.rb)/\cq w' q.hb 0=some (Pq (q.s 14))/\cq w' q.rb 0=some (Pq (q.s2 0))/\cq w' (bo+1) 1=some (Iz m)/\cq w' bo 2=some (Iz o2)/\cq w' bo 3=some (Iz o3)) (by kernel_rfl) ?hS480 (fun aB=>?rest480)
  case hS480=>exact⟨dK,dJ,dG,dA,dV,eY,gW⟩
  obtain⟨Z23,hZ⟩:∃ Z,W.drew=Z:=⟨_,rfl⟩
  have oZ:Out 0 0 W Z23:=by rw[<-hZ];exact(Out.refl 0 0 _).drew
  rw[hZ] at aB ⊢;replace aD:=aD.quiet oZ;refine tk 0 ?_;refine tk 1 ?_;refine tk 2 ?_;refine tk 3 ?_;refine tk 4 ?_;refine tk 5 ?_;refine tk 6 ?_;refine tk 7 ?_;refine tk 8 ?_;refine tk 9 ?_;refine tk 10 ?_;refine tk 11 ?_;refine tk 12 ?_;refine rd2 13 14 (fun KK hK=>?_) fun KK hK=>?_
  ·go_simp;refine(eK.out _ _ aD aB.2.2.1).mono ?_;rintro e Z23_13 ⟨rfl,aJ,q1⟩;have aD:=aJ;clear aJ;refine hK.out _ _ (kp aB q1 (by omega)) fun aB=>?_
   clear q1 hK KK;refine rd1 14 fun KK hK=>?_
   go_simp;obtain⟨g1,iW,aE,hY,qA,aF⟩:=alz Z23_13 (Dz 0 0 46)
   have bC:lim23<=g1:=by rw[<-aE];exact aD.lim
   (try rw[hY]);(try rw[aE]);clear hY aE;replace aD:=aD.quiet qA;refine hK.out _ _ (kp aB qA (by omega)) fun aB=>?_
   clear qA hK KK;refine rd1 15 fun KK hK=>?_
   simp only[xa,xb,xc];obtain⟨Y0,Y1,Y2,Y3⟩:=flt_facts aF;go_simp;obtain⟨kJ,hY,qS⟩:=s2z iW g1 e0 a0
   replace aF:kJ.heap[g1]? = some (Dz e0 a0 46):=by rw[<-hY];simp[World.setCell,Array.getElem?_modify,aF]
   (try rw[hY]);clear hY;replace aD:=aD.far qS cI.out (by omega);refine hK.out _ _ (kp aB qS (by omega)) fun aB=>?_
   clear qS hK KK;refine dn ?_;exact HK.out g1 _ ⟨aD,aB,aF,bC⟩
  ·go_simp;obtain⟨g1,Z23_14,aE,hY,qA,aF⟩:=alz Z23 (Dz 0 0 46)
   have bC:lim23<=g1:=by rw[<-aE];exact aD.lim
   (try rw[hY]);(try rw[aE]);clear hY aE;replace aD:=aD.quiet qA;refine hK.out _ _ (kp aB qA (by omega)) fun aB=>?_
   clear qA hK KK;refine rd1 13 fun KK hK=>?_
   go_simp;refine(eK.out _ _ aD aB.2.2.1).mono ?_;rintro e Z23_14_13 ⟨rfl,aJ,q1⟩;have aD:=aJ;clear aJ;replace aF:=q1.heap aF (by omega);refine hK.out _ _ (kp aB q1 (by omega)) fun aB=>?_
   clear q1 hK KK;refine rd1 15 fun KK hK=>?_
   simp only[xa,xb,xc];obtain⟨Y0,Y1,Y2,Y3⟩:=flt_facts aF;go_simp;obtain⟨kI,hY,qS⟩:=s2z Z23_14_13 g1 e0 a0
   replace aF:kI.heap[g1]? = some (Dz e0 a0 46):=by rw[<-hY];simp[World.setCell,Array.getElem?_modify,aF]
   (try rw[hY]);clear hY;replace aD:=aD.far qS cI.out (by omega);refine hK.out _ _ (kp aB qS (by omega)) fun aB=>?_
   clear qS hK KK;refine dn ?_;exact HK.out g1 _ ⟨aD,aB,aF,bC⟩
 case h2=>
  intro g1 V1 hF;obtain⟨aD,⟨dK,dJ,dG,dA,dV,eY,gW⟩,aF,bC⟩:=hF;apply hK;clear hK;have bN:eZ<=V1.heap.size:=Nat.le_trans hlim23 aD.lim;go_wp2_with fail;obtain⟨nE,hlm24⟩:∃ l,V1.heap.size=l:=⟨_,rfl⟩
  replace aD:=aD.at;rw[hlm24] at aD;have hlim24:eZ<=nE:=by rw[<-hlm24];exact bN
  have hc_g1:g1<nE:=by rw[<-hlm24];exact Q7 aF
  clear hlm24;rename_i K hK
  apply x1r (K:=K) (F:=fun g2 V=>Mx q w nE (z1q st (wrW (Q6 q.n st) m o2 o3)) (z1q st (wrW (Q6 q.n st) m o2 o3)) V/\(fun w'=>cq w' q.B 0=some (Pq q.hb)/\cq w' q.B 1=some (Pq q.rb)/\cq w' q.hb 0=some (Pq (q.s 14))/\cq w' q.rb 0=some (Pq (q.s2 0))/\cq w' (bo+1) 1=some (Iz m)/\cq w' bo 2=some (Iz o2)/\cq w' bo 3=some (Iz o3)) V/\V.heap[g2]? = some (Dz e0 a0 111)/\nE<=g2/\V.heap[g1]? = some (Dz e0 a0 46))
  case h1=>
   intro nA;have HK:=Q3 nA;have kp:∀ {V V':World} {x y:Nat},(fun w'=>cq w' q.B 0=some (Pq q.hb)/\cq w' q.B 1=some (Pq q.rb)/\cq w' q.hb 0=some (Pq (q.s 14))/\cq w' q.rb 0=some (Pq (q.s2 0))/\cq w' (bo+1) 1=some (Iz m)/\cq w' bo 2=some (Iz o2)/\cq w' bo 3=some (Iz o3)) V->Out x y V V'->(q.B<x\/y<=q.B)/\(q.hb<x\/y<=q.hb)/\(q.rb<x\/y<=q.rb)/\(bo+1<x\/y<=bo+1)/\(bo<x\/y<=bo)->(fun w'=>cq w' q.B 0=some (Pq q.hb)/\cq w' q.B 1=some (Pq q.rb)/\cq w' q.hb 0=some (Pq (q.s 14))/\cq w' q.rb 0=some (Pq (q.s2 0))/\cq w' (bo+1) 1=some (Iz m)/\cq w' bo 2=some (Iz o2)/\cq w' bo 3=some (Iz o3)) V':=fun h o b=>⟨o.cell h.1 b.1,o.cell h.2.1 b.1,o.cell h.2.2.1 b.2.1,o.cell h.2.2.2.1 b.2.2.1,o.cell h.2.2.2.2.1 b.2.2.2.1,o.cell h.2.2.2.2.2.1 b.2.2.2.2,o.cell h.2.2.2.2.2.2 b.2.2.2.2⟩
   refine wp_region_held_drew (S:=fun w'=>cq w' q.B 0=some (Pq q.hb)/\cq w' q.B 1=some (Pq q.rb)/\cq w' q.hb 0=some (Pq (q.s 14))/\cq w' q.rb 0=some (Pq (q.s2 0))/\cq w' (bo+1) 1=some (Iz m)/\cq w' bo 2=some (Iz o2)/\cq w' bo 3=some (Iz o3)) (by kernel_rfl) ?hS460 (fun aB=>?rest460)
   case hS460=>exact⟨dK,dJ,dG,dA,dV,eY,gW⟩
   obtain⟨Z24,hZ⟩:∃ Z,V1.drew=Z:=⟨_,rfl⟩
   have oZ:Out 0 0 V1 Z24:=by rw[<-hZ];exact(Out.refl 0 0 _).drew
   rw[hZ] at aB ⊢;replace aD:=aD.quiet oZ;replace aF:=oZ.heap aF Oz;refine tk 0 ?_;refine tk 1 ?_;refine tk 2 ?_;refine tk 3 ?_;refine tk 4 ?_;refine tk 5 ?_;refine tk 6 ?_;refine tk 7 ?_;refine tk 8 ?_;refine tk 9 ?_;refine tk 10 ?_;refine tk 11 ?_;refine tk 12 ?_;refine rd2 13 14 (fun KK hK=>?_) fun KK hK=>?_
   ·go_simp;refine(gH.out _ _ aD aB.2.2.2.1).mono ?_;rintro e Z24_13 ⟨rfl,aJ,q1⟩;have aD:=aJ;clear aJ;replace aF:=q1.heap aF (by omega);refine hK.out _ _ (kp aB q1 (by omega)) fun aB=>?_
    clear q1 hK KK;refine rd1 14 fun KK hK=>?_
    go_simp;obtain⟨g2,iV,aE,hY,qA,aG⟩:=alz Z24_13 (Dz 0 0 111)
    have aZ:nE<=g2:=by rw[<-aE];exact aD.lim
    (try rw[hY]);(try rw[aE]);clear hY aE;replace aD:=aD.quiet qA;replace aF:=qA.heap aF Oz;refine hK.out _ _ (kp aB qA (by omega)) fun aB=>?_
    clear qA hK KK;refine rd1 15 fun KK hK=>?_
    simp only[xa,xb,xc];obtain⟨Y0,Y1,Y2,Y3⟩:=flt_facts aG;go_simp;obtain⟨kH,hY,qS⟩:=s2z iV g2 e0 a0
    replace aG:kH.heap[g2]? = some (Dz e0 a0 111):=by rw[<-hY];simp[World.setCell,Array.getElem?_modify,aG]
    (try rw[hY]);clear hY;replace aD:=aD.far qS cI.out (by omega);replace aF:=qS.heap aF (by omega);refine hK.out _ _ (kp aB qS (by omega)) fun aB=>?_
    clear qS hK KK;refine dn ?_;exact HK.out g2 _ ⟨aD,aB,aG,aZ,aF⟩
   ·go_simp;obtain⟨g2,Z24_14,aE,hY,qA,aG⟩:=alz Z24 (Dz 0 0 111)
    have aZ:nE<=g2:=by rw[<-aE];exact aD.lim
    (try rw[hY]);(try rw[aE]);clear hY aE;replace aD:=aD.quiet qA;replace aF:=qA.heap aF Oz;refine hK.out _ _ (kp aB qA (by omega)) fun aB=>?_
    clear qA hK KK;refine rd1 13 fun KK hK=>?_
    go_simp;refine(gH.out _ _ aD aB.2.2.2.1).mono ?_;rintro e Z24_14_13 ⟨rfl,aJ,q1⟩;have aD:=aJ;clear aJ;replace aF:=q1.heap aF (by omega);replace aG:=q1.heap aG (by omega);refine hK.out _ _ (kp aB q1 (by omega)) fun aB=>?_
    clear q1 hK KK;refine rd1 15 fun KK hK=>?_
    simp only[xa,xb,xc];obtain⟨Y0,Y1,Y2,Y3⟩:=flt_facts aG;go_simp;obtain⟨kG,hY,qS⟩:=s2z Z24_14_13 g2 e0 a0
    replace aG:kG.heap[g2]? = some (Dz e0 a0 111):=by rw[<-hY];simp[World.setCell,Array.getElem?_modify,aG]
    (try rw[hY]);clear hY;replace aD:=aD.far qS cI.out (by omega);replace aF:=qS.heap aF (by omega);refine hK.out _ _ (kp aB qS (by omega)) fun aB=>?_
    clear qS hK KK;refine dn ?_;exact HK.out g2 _ ⟨aD,aB,aG,aZ,aF⟩
  case h2=>
   intro g2 V2 hF;obtain⟨aD,⟨dK,dJ,dG,dA,dV,eY,gW⟩,aG,aZ,aF⟩:=hF;apply hK;clear hK;have bN:eZ<=V2.heap.size:=Nat.le_trans hlim24 aD.lim;have HE:=Q3 (aD.e9 (st:=st) lP.out (by show st.last<=st.last+1;omega) dG dA);obtain⟨z0,z1,z2,z3⟩:=flt_facts aF;obtain⟨zz0,zz1,zz2,zz3⟩:=flt_facts aG;clear aD dK dJ dG dA dV eY gW;go_wp2
   all_goals go_ret
   all_goals exact⟨z0d (by simp),HE.out⟩
end
end Go.Proofs.YtjgnogflgoihfaaGreatDoor
namespace Go.Proofs.YtjgnogflgoihfaaGreatDoor
open Go.ChangeShapes Go.WideShapes Go.ChangeAt Go.RowKit Go.Deep
theorem j3m {w:World} {a:Addr} {v:Value} (h:w.cell? a=some v):a.block<w.heap.size:=by
 by_cases hb:a.block<w.heap.size
 ·exact hb
 ·have:w.heap[a.block]? = none:=by simp;omega
  simp[World.cell?,this] at h
theorem j7n {n:Int} (h:(Lit.int .u8 n).wf=true):0<=n/\n<=255:=by
 simpa [Lit.wf,IntKind.min,IntKind.max,IntKind.signed,IntKind.bits] using h
theorem q6f:Tryz.prog.cellsOf 33=1:=by kernel_rfl
def ByIn (w:World) (b:Nat) (p:Option Addr) (t:List Int):Prop:=Byt t/\(t=[]\/∃ g cK,p=some ⟨g,cK,none⟩/\g<b/\∀ j x,t[j]? = some x->w.cell? ⟨g,cK+j,none⟩=some (.int .u8 x))
theorem ByIn.kept {w w':World} {b x y:Nat} {p:Option Addr} {t:List Int} (h:ByIn w b p t) (o:Out x y w w') (hx:b<=x\/y=0):ByIn w' b p t:=by
 refine⟨h.1,?_⟩;rcases h.2 with h | ⟨g,cK,h1,h2,h3⟩
 ·exact .inl h
 ·exact .inr ⟨g,cK,h1,h2,fun j x hj=>o.cell (h3 j x hj) (by omega)⟩
theorem ByIn.bytes {w:World} {b:Nat} {p:Option Addr} {t:List Int} (h:ByIn w b p t):z1m w p t:=by
 refine⟨h.1,?_⟩;rcases h.2 with h | ⟨g,cK,h1,h2,h3⟩
 ·exact .inl h
 ·exact .inr ⟨g,cK,h1,h3⟩
theorem z6c {H:Type} {P:Program} {e:TypeId} {d:DataW H} {n:Nat} (hn:n ∈ d.weights P e):∀ {l:List (DataW H)},d ∈ l->n ∈ DataW.weightsAll P e l
 | [],h=>by cases h
 | x :: r,h=>by
  simp only[DataW.weightsAll,List.mem_append];rcases List.mem_cons.1 h with h | h
  ·subst h;exact .inl hn
  ·exact .inr (z6c hn h)
theorem j8h:Tryz.prog.bytesOf 5=1:=by kernel_rfl
theorem j1u {H:Type} {enc:TypeId × Value->H} {W:World} {fuel:Nat} {cs:List Value} {x:DataW H × List MemPlace} (h:DataW.trod enc Tryz.prog W 0 (fun _=>true) true fuel 33 cs=some x) (hw:∀ n ∈ x.1.weights Tryz.prog 33,n<=reachBytes) :
  ∃ (p:Option Addr) (L:List Int) (cap:Nat),cs=[.slice p L.length cap]/\ByIn W W.heap.size p L/\L.length<=140737488351232:=by
 rcases open_slice1 Tryz.underlying33 q8z h with h0 | ⟨a,len,cap,m,n,V,D,Pl,rfl,hb,hl,hm,hmm,rfl,hx⟩
 ·exact⟨none,[],0,h0.1,⟨(fun x hx=>by cases hx),.inl rfl⟩,Nat.zero_le _⟩
 simp only[if_true] at hmm;subst hmm;have oT:∀ i,i<len->∃ z:Int,W.cell? (a.add i)=some (.int .u8 z)/\0<=z/\z<=255:=by
  intro i hi;obtain⟨h1,h2⟩:=hx i (by omega);obtain⟨z,e,_,hw⟩:=DataW.trod_int Tryz.underlying5 h2;simp only[List.cons.injEq,and_true] at e;exact⟨z,by rw[h1,e],j7n hw⟩
 obtain⟨q,hq⟩:=choose_lt oT;have bZ:((List.range len).map q).length=len:=by simp
 have hle:len<=140737488351232:=by
  have:=hw ((len+(m-len))*1) (by simp[DataW.weights,Tryz.underlying33,j8h]);unfold reachBytes at this;omega
 refine⟨some a,(List.range len).map q,_,by rw[bZ],⟨fun x hx=>?_,?_⟩,by rw[bZ];exact hle⟩
 ·obtain⟨i,hi,rfl⟩:=List.mem_map.1 hx;exact(hq i (by simpa using hi)).2
 ·by_cases h0:len=0
  ·left;subst h0;rfl
  ·right
   obtain⟨b,cK,spot⟩:=a;have hspot:spot=none:=by
    have:=(hq 0 (by omega)).1;simpa [Addr.add] using World.cell?_spot this
   subst hspot;refine⟨b,cK,rfl,?_,fun j x hj=>?_⟩
   ·have:=j3m (hq 0 (by omega)).1;simpa [Addr.add] using this
   ·have lC:j<len:=by have:=(List.getElem?_eq_some_iff.1 hj).1;simpa using this
    have e:x=q j:=by rw[List.getElem?_map,List.getElem?_range lC] at hj;simpa using hj.symm
    rw[e];have:=(hq j lC).1;rw[add_plain] at this;exact this
end Go.Proofs.YtjgnogflgoihfaaGreatDoor
namespace Go.Proofs.YtjgnogflgoihfaaGreatDoor
open Go.RowKit
theorem q7a:(Tryz.prog.info? 5).map (fun i=>(i.zero,i.size,i.bytes))=some (some (.int .u8 0),1,1):=by kernel_rfl
def bvs (t:List Int):List Value:=t.map fun x=>.int .u8 x
theorem x0w (w:World) (ty:TypeId) (p:Option Addr) (c:Nat):(Builtin.append_ #[33,33] ty #[.slice none 0 0,.slice p 0 c]).run Tryz.prog w=.ok (.slice none 0 0) w:=by
 obtain⟨i0,hi,iI,hz1,iH⟩:=z1x q7a;cases p <;> simp[Builtin.append_,run_underlying Tryz.underlying33,sizeOf,typeInfo,hi,Builtin.lenOf,Builtin.firstCells,loadCells,loadCellsFrom]
theorem j0w {w:World} {p:Option Addr} {t:List Int} {c:Nat} (h:z1m w p t):(Go.convert 33 9 (.slice p t.length c)).run Tryz.prog w=.ok (.string (strOfNums t)) w:=by
 rcases h.2 with rfl | ⟨g,cK,rfl,hc⟩
 ·cases p with
  | none=>exact run_convert_bytes_nil w _ 5 Tryz.underlying33 Tryz.underlying5 _ _ _ Tryz.underlying9
  | some a=>
   rw[run_convert_bytes_string w 33 9 5 _ _ c Tryz.underlying33 Tryz.underlying5 Tryz.underlying9,run_bytesToString w _ _ c [] (by simp[loadCells,loadCellsFrom])];rfl
 ·refine run_convert_bytes_arg w _ 5 Tryz.underlying33 Tryz.underlying5 g cK t.length c t rfl (fun i hi=>?_) _ Tryz.underlying9;rw[hc i t[i] (List.getElem?_eq_getElem hi)];simp[List.getD,List.getElem?_eq_getElem hi]
theorem x4l {w:World} {base g n sz cap:Nat} {T:TypeId} {xs:List Value} {f:Nat->Value} (h:w.ownsRow base T sz (.slice (some ⟨g,0,none⟩) n cap) n xs) (hx:∀ j,j<n*sz->xs[j]? = some (f j)):Row w g T (n*sz) f:=by
 obtain⟨hl,h2⟩:=h;rcases h2 with ⟨e,_⟩ | ⟨g',cT,dI,e,hg,hh,h3,h4,h5,h6⟩
 ·cases e
 ·simp only[Value.slice.injEq,Option.some.injEq,Addr.mk.injEq] at e;obtain⟨⟨rfl,_⟩,_⟩:=e;refine⟨dI,hh,by rw[h5];exact Nat.mul_le_mul_right _ h3,fun i hi=>?_⟩;have:=hx i hi;rw[<-h6,List.getElem?_take,if_pos hi,Array.getElem?_toList] at this;exact this
end Go.Proofs.YtjgnogflgoihfaaGreatDoor
