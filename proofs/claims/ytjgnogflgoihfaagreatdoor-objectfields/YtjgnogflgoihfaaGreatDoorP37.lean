import Derived.Test.YtjgnogflgoihfaaGreatDoorP36
set_option linter.unusedSimpArgs false
set_option linter.unusedVariables false
set_option maxHeartbeats 16000000
set_option maxRecDepth 100000
namespace Go.Proofs.YtjgnogflgoihfaaGreatDoor
open Go.RowKit
section
variable {w:World} {lo hi n cw co:Nat} {s:Nat->Nat} {st:Sp}
def uq (O:Nat->Blk) (pg:Nat) (kd:Int) (i:Nat):Bool:=if kd=2 then Y6 (O (64*pg)) else if kd=1 then q6a O pg i else false
theorem z4g {st:Sp} {a:Nat} {b:Blk} (h:st.O a=b):obC st (a*5+1)=if Y6 b then b.1 else 0:=by subst h;exact z5r _ _
theorem x3y {l:List Int} {i k:Nat} (h:l[i]? = some (k:Int)):upd (kpS (l.take i)) k true=kpS (l.take (i+1)):=by
 rw[j5e];congr 1
 obtain⟨h1,h2⟩:=List.getElem?_eq_some_iff.1 h;rw[List.take_add_one,h];rfl
theorem q4o (h:RfAt w lo hi s n cw co st) (hI:Inv n st) {l:List Int} {p:Option Addr} {cp:Nat} (hl:j2s w p l) (hll:(l.length:Int)<9223372036854775807) (hI2:Inv n { st with S:=gkS n { st with O:=dpO st (kpS l) (64*n) } n,O:=dpO st (kpS l) (64*n) }) :
  Kz 82 #[Pq (s 0),.slice p l.length cp] w fun e w'=>Out lo hi w w' ∧
   (((∀ a ∈ l,(obM st a).isSome=true)/\e=.returned (.tuple #[Iz ((U0 (Q6 n st) (kpS l) (64*n):Nat):Int),Iz 0])/\RfAt w' lo hi s n cw co (q0q n { st with W:=tzW n { st with S:=gkS n { st with O:=dpO st (kpS l) (64*n) } n,O:=dpO st (kpS l) (64*n) } (64*n),S:=gkS n { st with O:=dpO st (kpS l) (64*n) } n,O:=dpO st (kpS l) (64*n) } 8)) ∨
    ((∃ a ∈ l,obM st a=none)/\e=.returned (.tuple #[Iz 0,Iz 22])/\RfAt w' lo hi s n cw co st)):=by
 have h2:=h.n2;have c2:=h.cells.2.2.1;obtain⟨M,hM⟩:∃ M,64*n=M:=⟨_,rfl⟩
 rw[hM] at c2;have M1:(M:Int)<=262144:=by omega
 have M0:(0:Int)<=(M:Int):=by omega
 have hmk:=run_make_row' (P:=Tryz.prog) 187 4 (.bool false) 1 Tryz.underlying187 (by kernel_rfl) rfl .i64 .i64 M (by omega) (by omega);have HM:=Q3 hM;have HI:=Q3 hI;have HH:=Q3 h;have HLi:=Q3 hl;have HI2:=Q3 hI2;obtain⟨N,hN⟩:∃ N,l.length=N:=⟨_,rfl⟩
 have HN:=Q3 hN;have N1:(N:Int)<9223372036854775807:=by omega
 rw[hN];obtain⟨G,hG⟩:∃ G,w.heap.size=G:=⟨_,rfl⟩
 have HGs:Hid (hi<=G/\w.heap.size=G):=⟨by rw[<-hG];exact h.top,hG⟩
 clear h hI h2 hM hl hll hI2 hN;go_enter Tryz.func82,Tryz.ntmps82
 go_wp2_with fail;clear c2;have o0:Out 0 0 w (w.alloc (.cells (madeCells #[Value.bool false] M) 4)):=(Out.refl 0 0 w).alloc _;have r0:Row (w.alloc (.cells (madeCells #[Value.bool false] M) 4)) G 4 M (fun j=>.bool (kpS (l.take 0) j)):=by
  refine⟨_,by rw[<-hG];exact heap_alloc_new _ _,by simp[madeCells],fun i bQ=>?_⟩;simp[madeCells,bQ,Nat.mod_one,kpS]
 have H0:=Q3 (And.intro o0 r0);clear o0 r0;go_loopw [7] (fun u wr=>∃ i:Nat,u=Iz (i:Int)/\i<=N/\Row wr G 4 M (fun j=>.bool (kpS (l.take i) j))/\(∀ a ∈ l.take i,(obM st a).isSome=true)/\Out 0 0 w wr) (fun u _=>N-(intOf u).toNat)
 case atStart=>exact⟨0,rfl,Nat.zero_le _,H0.out.2,by simp,H0.out.1⟩
 case round=>
  clear H0;obtain⟨i,rfl,ib,hB,eW,hO⟩:=hrel;have i0:(0:Int)<=(i:Int):=by omega
  have hR:=HH.out.quiet hO;by_cases bQ:i<N
  ·have i1:(i:Int)<(N:Int):=by omega
   obtain⟨z,hz⟩:∃ z,l[i]? = some z:=by
    have:=HN.out;exact⟨l[i]'(by omega),List.getElem?_eq_getElem (by omega)⟩
   obtain⟨g,cK,rfl,hg1,nL⟩:∃ g cK,p=some ⟨g,cK,none⟩/\g<w.heap.size/\cq w g (cK+i)=some (Iz z):=by
    rcases HLi.out with e | ⟨g,cK,e,h1,h2⟩
    ·have:=HN.out;rw[e] at this;simp at this;omega
    ·have:=h2 i (by have:=HN.out;omega);rw[hz] at this;exact⟨g,cK,e,h1,this⟩
   have d0:=hO.cell nL z0;have hmem:z ∈ l:=List.mem_of_getElem? hz;cases nH:obM st z with
   | none=>
    have HBl:=Q3 (z3h hR (a:=z) (fun k e hk=>by
     unfold obM at nH;cases hh:Y6 (st.O k) with
     | false=>rfl
     | true=>rw[if_pos ⟨by omega,by rw[e,show ((k:Nat):Int).toNat=k from by omega];exact hh⟩] at nH;cases nH))
    have HE:=Q3 (And.intro hO (And.intro hmem nH));clear hR hB eW hO hz nL hmem nH;go_wp2_with (go_at_call 123;refine HBl.out.mono ?_;rintro e w2 ⟨rfl,o2⟩);go_ret2;have o3:=(HE.out.1.trans o2).alloc (Ez 0 0 0 0 0 81);exact⟨o3.any lo hi,.inr ⟨⟨z,HE.out.2⟩,rfl,HH.out.quiet o3⟩⟩
   | some b=>
    obtain⟨k,rfl,hk⟩:∃ k:Nat,z=(k:Int)/\Y6 (st.O k)=true:=by
     unfold obM at nH;split at nH
     ·rename_i q
      exact⟨z.toNat,by omega,q.2⟩
     ·cases nH
    have hkn:=(HI.out.objs k hk).1;obtain⟨b1,b2,b3,b4,hO4⟩:∃ b1 b2 b3 b4,st.O k=(b1,b2,b3,b4):=⟨_,_,_,_,rfl⟩
    have HBl:=Q3 (z3i hR hkn hk hO4);have k0:(0:Int)<=(k:Int):=by omega
    have km:k<M:=by have:=HM.out;omega
    have k1:(k:Int)<(M:Int):=by omega
    have HE:=Q3 (And.intro hB (And.intro hO (And.intro eW (And.intro (x3y hz) (And.intro nH hz)))));clear hR hB eW hO hz hmem nH hO4 hkn hk;go_wp2_with (go_at_call 123;refine HBl.out.mono ?_;rintro e w2 ⟨rfl,o2⟩;have o3:=o2.alloc (Ez (k:Int) b1 b2 b3 b4 81);have hB3:=HE.out.1.kept o3 z0;have e0:=hB3.cell km;have e1:=hB3.frozen k;have d3:=o3.cell d0 z0;have HE3:=Q3 (And.intro hB3 (HE.out.2.1.trans o3));clear o2 o3 hB3);have oS:Out G (G+1) (w2.alloc (Ez (k:Int) b1 b2 b3 b4 81)) ((w2.alloc (Ez (k:Int) b1 b2 b3 b4 81)).setCell ⟨G,k,none⟩ (.bool true)):=(Out.refl _ _ _).setCell (p:=⟨G,k,none⟩) z1 _;refine⟨⟨i+1,by congr 1,by omega,?_,?_,HE3.out.2.past oS (by have:=HGs.out;omega)⟩,by simp[intOf] <;> omega⟩
    ·refine(HE3.out.1.set k (.bool true)).congr fun j _=>?_
     rw[<-HE.out.2.2.2.1];unfold upd;by_cases e:j=k
     ·rw[if_pos e,if_pos e]
     ·rw[if_neg e,if_neg e]
    ·intro a ha;rw[List.take_add_one,HE.out.2.2.2.2.2] at ha;simp at ha;rcases ha with ha | rfl
     ·exact HE.out.2.2.1 a ha
     ·rw[HE.out.2.2.2.2.1];rfl
  ·have e:i=N:=by omega
   subst e;have htk:l.take i=l:=List.take_of_length_le (by have:=HN.out;omega);rw[htk] at hB eW;have HE:=Q3 (And.intro hB (And.intro eW hO));clear hB eW hO hR htk;go_wp2_with fail;obtain⟨kp,hkp⟩:∃ kp,kpS l=kp:=⟨_,rfl⟩
   rw[hkp] at HE;go_loopw [10,11] (fun f u wr=>∃ a:Nat,u=Iz (a:Int)/\f=Iz ((U0 (Q6 n st) kp a:Nat):Int)/\a<=M/\RfAt wr lo hi s n cw co { st with O:=dpO st kp a }/\Row wr G 4 M (fun j=>.bool (kp j))/\Out lo hi w wr) (fun _ u _=>M-(intOf u).toNat)
   case atStart=>exact⟨0,rfl,rfl,Nat.zero_le _,by rw[x3e];exact HH.out.quiet HE.out.2.2,HE.out.1,HE.out.2.2.any lo hi⟩
   case round=>
    have HOk:=Q3 HE.out.2.1;clear HE;obtain⟨a,rfl,rfl,ab,hR,hB,hO⟩:=hrel;have a0:(0:Int)<=(a:Int):=by omega
    have c2:=hR.cells.2.2.1;rw[HM.out] at c2;have hfl:=z7v (Q6 n st) kp a;by_cases ha:a<M
    ·have a1:(a:Int)<(M:Int):=by omega
     have hm:=HM.out;have d1:=hR.ro.cell (i:=a*5+1) (by omega);have hda:dpO st kp a a=st.O a:=by unfold dpO;rw[if_neg (by omega)]
     rw[z4g (st:={ st with O:=dpO st kp a }) hda] at d1;have e0:=hB.cell ha;have hfs:U0 (Q6 n st) kp (a+1)=if Y6 (st.O a) && !kp a then U0 (Q6 n st) kp a+1 else U0 (Q6 n st) kp a:=by
      conv=>lhs;unfold U0
      rw[x0p HI.out]
     have hds:=x3d st kp a;obtain⟨fd,hfd⟩:∃ fd,U0 (Q6 n st) kp a=fd:=⟨_,rfl⟩
     rw[hfd] at hfs hfl ⊢;have fd1:(fd:Int)<=262144:=by omega
     cases hb:Y6 (st.O a) with
     | false=>
      rw[hb,if_neg (by simp)] at d1;rw[hb] at hfs;have iJ:=HI.out.none a hb;have hdd:dpO st kp (a+1)=dpO st kp a:=by
       rw[hds];split
       ·rfl
       ·funext b
        unfold H8;split
        ·rename_i e
         rw[e,hda,iJ]
        ·rfl
      have HE:=Q3 (And.intro hR (And.intro hB (And.intro hO (And.intro hfs hdd))));clear hR hB hO hfs hds hdd iJ hb hda e0 hm;go_wp2_with fail;exact⟨⟨a+1,by congr 1,by rw[HE.out.2.2.2.1];rfl,by omega,by rw[HE.out.2.2.2.2];exact HE.out.1,HE.out.2.1,HE.out.2.2.1⟩,by simp[intOf] <;> omega⟩
     | true=>
      rw[hb,if_pos rfl] at d1;rw[hb] at hfs;obtain⟨k5,nK⟩:∃ k,(st.O a).1=k:=⟨_,rfl⟩
      rw[nK] at d1;have oP:(k5 != 0)=true:=by unfold Y6 at hb;rw[nK] at hb;exact hb
      cases hka:kp a with
      | true=>
       rw[hka] at e0 hfs hds;rw[if_pos rfl] at hds;have HE:=Q3 (And.intro hR (And.intro hB (And.intro hO (And.intro hfs hds))));clear hR hB hO hfs hds hb hda hm nK hka;go_wp2_with fail;exact⟨⟨a+1,by congr 1,by rw[HE.out.2.2.2.1];rfl,by omega,by rw[HE.out.2.2.2.2];exact HE.out.1,HE.out.2.1,HE.out.2.2.1⟩,by simp[intOf] <;> omega⟩
      | false=>
       rw[hka] at e0 hfs hds;rw[if_neg (by simp)] at hds;have y0:=hR.ro.cell (i:=a*5) (by omega);have y1:=hR.ro.cell (i:=a*5+1) (by omega);have y2:=hR.ro.cell (i:=a*5+2) (by omega);have y3:=hR.ro.cell (i:=a*5+3) (by omega);have y4:=hR.ro.cell (i:=a*5+4) (by omega);have q0:=hR.ro.frozen (a*5);have q1:=hR.ro.frozen (a*5+1);have q2:=hR.ro.frozen (a*5+2);have q3:=hR.ro.frozen (a*5+3);have q4:=hR.ro.frozen (a*5+4);clear y1;have hD:=hR.delO (a:=a) (by omega);have HE:=Q3 (And.intro hD.1 (And.intro (hB.kept hD.2 (.inr HGs.out.1)) (And.intro (hO.trans hD.2) (And.intro hfs hds))));clear hR hB hO hfs hds hb hda hm nK hka hD;unfold j6z at HE;go_wp2_with fail;refine⟨⟨a+1,by congr 1,by rw[HE.out.2.2.2.1];rfl,by omega,?_,HE.out.2.1,HE.out.2.2.1⟩,by simp[intOf] <;> omega⟩;rw[HE.out.2.2.2.2];exact HE.out.1
    ·have e:a=M:=by omega
     subst e;have HE:=Q3 (And.intro hR hO);clear hR hB hO hfl;go_wp2_with fail;clear c2;obtain⟨O2,hO2⟩:∃ O2,dpO st kp a=O2:=⟨_,rfl⟩
     rw[hO2] at HE;have cI:Hid (dpO st (kpS l) (64*n)=O2):=by show _=_;rw[hkp,HM.out];exact hO2
     have HFr:Hid (U0 (Q6 n st) kp a<=a):=z7v _ _ _;obtain⟨fd,hfd⟩:∃ fd,U0 (Q6 n st) kp a=fd:=⟨_,rfl⟩
     rw[hfd];have HFd:Hid (U0 (Q6 n st) (kpS l) (64*n)=fd):=by show _=_;rw[hkp,HM.out];exact hfd
     clear hO2 hfd;go_loopw [12] (fun u wq=>∃ pg:Nat,u=Iz (pg:Int)/\pg<=n/\RfAt wq lo hi s n cw co { st with S:=gkS n { st with O:=O2 } pg,O:=O2 }/\Out lo hi w wq) (fun u _=>n-(intOf u).toNat)
     case atStart=>exact⟨0,rfl,Nat.zero_le _,HE.out.1,HE.out.2⟩
     case round=>
      clear HE;obtain⟨pg,rfl,pb,hR,hO⟩:=hrel;have p0:(0:Int)<=(pg:Int):=by omega
      obtain⟨T1,hT1⟩:∃ T1,gkS n { st with O:=O2 } pg=T1:=⟨_,rfl⟩
      rw[hT1] at hR;have c1:=hR.cells.2.1;obtain⟨ct,dt,_⟩:=hR.rt.cell;have hn2:=hR.n2;have n2:(n:Int)<=4096:=by omega
      by_cases hp:pg<n
      ·have p1:(pg:Int)<(n:Int):=by omega
       obtain⟨e0,e1,e2⟩:=hR.rt.row.cells hp;obtain⟨kd,nJ⟩:∃ kd,(T1 pg).1=kd:=⟨_,rfl⟩
       obtain⟨cl,kT⟩:∃ cl,(T1 pg).2.1=cl:=⟨_,rfl⟩
       obtain⟨ln,hln⟩:∃ ln,(T1 pg).2.2=ln:=⟨_,rfl⟩
       (try dsimp only at e0 e1 e2);rw[nJ] at e0;rw[kT] at e1;rw[hln] at e2;have HKd:=Q3 nJ;have HGk:Hid (gkS n { st with O:=O2 } (pg+1)=if z0y T1 O2 pg then T1 else gvS T1 n (pg:Int)):=by rw[<-hT1];exact rfl
       have kQ:=Q3 (And.intro hR hO);obtain⟨Pg,hPg⟩:∃ Pg,pg*64=Pg:=⟨_,rfl⟩
       have Pe:(pg:Int)*64=(Pg:Int):=by omega
       have Pm:(Pg:Int)<(a:Int):=by have:=HM.out;omega
       have Pz:(0:Int)<=(Pg:Int):=by omega
       have HPg:Hid (pg*64=Pg/\pg<n):=⟨hPg,hp⟩
       have hR1:=hR.quiet ((Out.refl 0 0 wr).alloc (.cells #[Iz kd,Iz cl,Iz ln] 189));have c2:=hR1.cells.2.2.1;rw[HM.out] at c2;by_cases jC:kd=2
       ·have ek2:(kd == 2)=true:=by simpa using jC
        have hm:=HM.out;have d1:=hR1.ro.cell (i:=Pg*5+1) (by omega);rw[z4g (st:={ st with S:=T1,O:=O2 }) (b:=O2 Pg) rfl] at d1;have hQ0:uq O2 pg kd 0=Y6 (O2 Pg):=by unfold uq;rw[if_pos jC,<-hPg,Nat.mul_comm]
        cases hb:Y6 (O2 Pg) with
        | false=>
         rw[hb,if_neg (by simp)] at d1;rw[hb] at hQ0;have HQ0:=Q3 hQ0;clear hR hO hR1 hT1 nJ kT hln hPg hb hQ0 hm jC;go_wp2_with fail;obtain⟨W1,cC⟩:∃ W1,wr.alloc (.cells #[Iz kd,Iz cl,Iz ln] 189)=W1:=⟨_,rfl⟩
         obtain⟨H,hH⟩:∃ H,wr.heap.size=H:=⟨_,rfl⟩
         have oW:Out 0 0 wr W1:=by rw[<-cC];exact(Out.refl 0 0 _).alloc _
         have HX0:Hid (cq W1 H 0=some (Iz kd)):=by
          show _=_
          have hh:W1.heap[H]? = some (.cells #[Iz kd,Iz cl,Iz ln] 189 (0,0)):=by rw[<-cC,<-hH];exact heap_alloc_new _ _
          simp[World.cell?,hh]
         have cD:=Q3 (kQ.out.1.quiet oW);have bM:=Q3 (kQ.out.2.trans (oW.any lo hi));(try rw[cC]);(try rw[hH]);clear cC hH oW d1 c2 c1 dt e0 e1 e2;go_loopw [14,15] (fun ok u wq=>∃ i:Nat,u=Iz (i:Int)/\i<=64/\ok=.bool (uq O2 pg kd i)/\(kd ≠ 1->i=0)/\wq=W1) (fun _ u _=>64-(intOf u).toNat)
         case atStart=>exact⟨0,rfl,by omega,by rw[HQ0.out],fun _=>rfl,rfl⟩
         case round=>
          obtain⟨i,rfl,i64,rfl,hik,hw⟩:=hrel;subst hw;have x0:=HX0.out;have c2:=cD.out.cells.2.2.1;rw[HM.out] at c2;have i0:(0:Int)<=(i:Int):=by omega
          by_cases iC:kd=1
          ·have ek:(kd == 1)=true:=by simpa using iC
           by_cases hi64:i<64
           ·have il:(i:Int)<64:=by omega
            have hm:=HM.out;have hpg:=HPg.out;obtain⟨x,hx⟩:∃ x,Pg+i=x:=⟨_,rfl⟩
            have xe:(Pg:Int)+(i:Int)=(x:Int):=by omega
            have xx0:(0:Int)<=(x:Int):=by omega
            have xM:(x:Int)<(a:Int):=by omega
            have d1:=cD.out.ro.cell (i:=x*5+1) (by omega);rw[z4g (st:={ st with S:=T1,O:=O2 }) (b:=O2 x) rfl] at d1;have dC:uq O2 pg kd (i+1)=(uq O2 pg kd i || Y6 (O2 x)):=by
             unfold uq;rw[if_neg (by omega),if_pos iC,if_neg (by omega),if_pos iC,<-hx,show Pg=64*pg from by omega];rfl
            have gK:=Q3 dC;obtain⟨q,hq⟩:∃ q,uq O2 pg kd i=q:=⟨_,rfl⟩
            rw[hq] at gK ⊢;have HK1:=Q3 iC;clear hik hm hx dC hq iC hpg;cases q with
            | true=>
             clear d1;go_wp2_with fail;exact⟨⟨i+1,by congr 1,by omega,by rw[gK.out];rfl,fun h=>absurd HK1.out h,by trivial⟩,by simp[intOf] <;> omega⟩
            | false=>
             cases hb:Y6 (O2 x) with
             | false=>
              rw[hb,if_neg (by simp)] at d1;rw[hb] at gK;clear hb;go_wp2_with fail;exact⟨⟨i+1,by congr 1,by omega,by rw[gK.out];rfl,fun h=>absurd HK1.out h,by trivial⟩,by simp[intOf] <;> omega⟩
             | true=>
              rw[hb,if_pos rfl] at d1;rw[hb] at gK;obtain⟨k5,nK⟩:∃ k,(O2 x).1=k:=⟨_,rfl⟩
              rw[nK] at d1;have oP:(k5 != 0)=true:=by unfold Y6 at hb;rw[nK] at hb;exact hb
              clear hb nK;go_wp2_with fail;exact⟨⟨i+1,by congr 1,by omega,by rw[gK.out];rfl,fun h=>absurd HK1.out h,by trivial⟩,by simp[intOf] <;> omega⟩
           ·have e64:i=64:=by omega
            subst e64;obtain⟨q,hq⟩:∃ q,uq O2 pg kd 64=q:=⟨_,rfl⟩
            rw[hq];have HUq:Hid (z0y T1 O2 pg=q):=by
             show _=_
             rw[<-hq];unfold z0y uq;rw[HKd.out]
            clear hq;cases q with
            | true=>
             go_wp2_with fail;refine⟨⟨pg+1,by congr 1,by omega,?_,bM.out⟩,by simp[intOf] <;> omega⟩;rw[HGk.out,HUq.out,if_pos rfl];exact cD.out
            | false=>
             have c1:=cD.out.cells.2.1;have HGv:=Q3 (z1c cD.out.rt (pg:Int));go_wp2_with (go_at_call 142;refine HGv.out.mono ?_;rintro e w5 ⟨rfl,ht,ho⟩;have kX:=Q3 (cD.out.setT ht ho);clear ht ho);refine⟨⟨pg+1,by congr 1,by omega,?_,bM.out.trans kX.out.2⟩,by simp[intOf] <;> omega⟩;rw[HGk.out,HUq.out,if_neg (by simp)];exact kX.out.1
          ·have ek:(kd == 1)=false:=by simpa using iC
           have e0:=hik iC;subst e0;obtain⟨q,hq⟩:∃ q,uq O2 pg kd 0=q:=⟨_,rfl⟩
           rw[hq];have HUq:Hid (z0y T1 O2 pg=q):=by
            show _=_
            rw[<-hq];unfold z0y uq;rw[HKd.out];rw[if_neg (c:=kd=1) iC,if_neg (c:=kd=1) iC]
           clear hq;cases q with
           | true=>
            go_wp2_with fail;refine⟨⟨pg+1,by congr 1,by omega,?_,bM.out⟩,by simp[intOf] <;> omega⟩;rw[HGk.out,HUq.out,if_pos rfl];exact cD.out
           | false=>
            have c1:=cD.out.cells.2.1;have HGv:=Q3 (z1c cD.out.rt (pg:Int));go_wp2_with (go_at_call 142;refine HGv.out.mono ?_;rintro e w5 ⟨rfl,ht,ho⟩;have kX:=Q3 (cD.out.setT ht ho);clear ht ho);refine⟨⟨pg+1,by congr 1,by omega,?_,bM.out.trans kX.out.2⟩,by simp[intOf] <;> omega⟩;rw[HGk.out,HUq.out,if_neg (by simp)];exact kX.out.1
        | true=>
         rw[hb,if_pos rfl] at d1;rw[hb] at hQ0;obtain⟨k6,hk6⟩:∃ k,(O2 Pg).1=k:=⟨_,rfl⟩
         rw[hk6] at d1;have hk60:(k6 != 0)=true:=by unfold Y6 at hb;rw[hk6] at hb;exact hb
         have HQ0:=Q3 hQ0;clear hR hO hR1 hT1 nJ kT hln hPg hb hQ0 hm jC hk6;go_wp2_with fail;obtain⟨W1,cC⟩:∃ W1,wr.alloc (.cells #[Iz kd,Iz cl,Iz ln] 189)=W1:=⟨_,rfl⟩
         obtain⟨H,hH⟩:∃ H,wr.heap.size=H:=⟨_,rfl⟩
         have oW:Out 0 0 wr W1:=by rw[<-cC];exact(Out.refl 0 0 _).alloc _
         have HX0:Hid (cq W1 H 0=some (Iz kd)):=by
          show _=_
          have hh:W1.heap[H]? = some (.cells #[Iz kd,Iz cl,Iz ln] 189 (0,0)):=by rw[<-cC,<-hH];exact heap_alloc_new _ _
          simp[World.cell?,hh]
         have cD:=Q3 (kQ.out.1.quiet oW);have bM:=Q3 (kQ.out.2.trans (oW.any lo hi));(try rw[cC]);(try rw[hH]);clear cC hH oW d1 c2 c1 dt e0 e1 e2;go_loopw [14,15] (fun ok u wq=>∃ i:Nat,u=Iz (i:Int)/\i<=64/\ok=.bool (uq O2 pg kd i)/\(kd ≠ 1->i=0)/\wq=W1) (fun _ u _=>64-(intOf u).toNat)
         case atStart=>exact⟨0,rfl,by omega,by rw[HQ0.out],fun _=>rfl,rfl⟩
         case round=>
          obtain⟨i,rfl,i64,rfl,hik,hw⟩:=hrel;subst hw;have x0:=HX0.out;have c2:=cD.out.cells.2.2.1;rw[HM.out] at c2;have i0:(0:Int)<=(i:Int):=by omega
          by_cases iC:kd=1
          ·have ek:(kd == 1)=true:=by simpa using iC
           by_cases hi64:i<64
           ·have il:(i:Int)<64:=by omega
            have hm:=HM.out;have hpg:=HPg.out;obtain⟨x,hx⟩:∃ x,Pg+i=x:=⟨_,rfl⟩
            have xe:(Pg:Int)+(i:Int)=(x:Int):=by omega
            have xx0:(0:Int)<=(x:Int):=by omega
            have xM:(x:Int)<(a:Int):=by omega
            have d1:=cD.out.ro.cell (i:=x*5+1) (by omega);rw[z4g (st:={ st with S:=T1,O:=O2 }) (b:=O2 x) rfl] at d1;have dC:uq O2 pg kd (i+1)=(uq O2 pg kd i || Y6 (O2 x)):=by
             unfold uq;rw[if_neg (by omega),if_pos iC,if_neg (by omega),if_pos iC,<-hx,show Pg=64*pg from by omega];rfl
            have gK:=Q3 dC;obtain⟨q,hq⟩:∃ q,uq O2 pg kd i=q:=⟨_,rfl⟩
            rw[hq] at gK ⊢;have HK1:=Q3 iC;clear hik hm hx dC hq iC hpg;cases q with
            | true=>
             clear d1;go_wp2_with fail;exact⟨⟨i+1,by congr 1,by omega,by rw[gK.out];rfl,fun h=>absurd HK1.out h,by trivial⟩,by simp[intOf] <;> omega⟩
            | false=>
             cases hb:Y6 (O2 x) with
             | false=>
              rw[hb,if_neg (by simp)] at d1;rw[hb] at gK;clear hb;go_wp2_with fail;exact⟨⟨i+1,by congr 1,by omega,by rw[gK.out];rfl,fun h=>absurd HK1.out h,by trivial⟩,by simp[intOf] <;> omega⟩
             | true=>
              rw[hb,if_pos rfl] at d1;rw[hb] at gK;obtain⟨k5,nK⟩:∃ k,(O2 x).1=k:=⟨_,rfl⟩
              rw[nK] at d1;have oP:(k5 != 0)=true:=by unfold Y6 at hb;rw[nK] at hb;exact hb
              clear hb nK;go_wp2_with fail;exact⟨⟨i+1,by congr 1,by omega,by rw[gK.out];rfl,fun h=>absurd HK1.out h,by trivial⟩,by simp[intOf] <;> omega⟩
           ·have e64:i=64:=by omega
            subst e64;obtain⟨q,hq⟩:∃ q,uq O2 pg kd 64=q:=⟨_,rfl⟩
            rw[hq];have HUq:Hid (z0y T1 O2 pg=q):=by
             show _=_
             rw[<-hq];unfold z0y uq;rw[HKd.out]
            clear hq;cases q with
            | true=>
             go_wp2_with fail;refine⟨⟨pg+1,by congr 1,by omega,?_,bM.out⟩,by simp[intOf] <;> omega⟩;rw[HGk.out,HUq.out,if_pos rfl];exact cD.out
            | false=>
             have c1:=cD.out.cells.2.1;have HGv:=Q3 (z1c cD.out.rt (pg:Int));go_wp2_with (go_at_call 142;refine HGv.out.mono ?_;rintro e w5 ⟨rfl,ht,ho⟩;have kX:=Q3 (cD.out.setT ht ho);clear ht ho);refine⟨⟨pg+1,by congr 1,by omega,?_,bM.out.trans kX.out.2⟩,by simp[intOf] <;> omega⟩;rw[HGk.out,HUq.out,if_neg (by simp)];exact kX.out.1
          ·have ek:(kd == 1)=false:=by simpa using iC
           have e0:=hik iC;subst e0;obtain⟨q,hq⟩:∃ q,uq O2 pg kd 0=q:=⟨_,rfl⟩
           rw[hq];have HUq:Hid (z0y T1 O2 pg=q):=by
            show _=_
            rw[<-hq];unfold z0y uq;rw[HKd.out];rw[if_neg (c:=kd=1) iC,if_neg (c:=kd=1) iC]
           clear hq;cases q with
           | true=>
            go_wp2_with fail;refine⟨⟨pg+1,by congr 1,by omega,?_,bM.out⟩,by simp[intOf] <;> omega⟩;rw[HGk.out,HUq.out,if_pos rfl];exact cD.out
           | false=>
            have c1:=cD.out.cells.2.1;have HGv:=Q3 (z1c cD.out.rt (pg:Int));go_wp2_with (go_at_call 142;refine HGv.out.mono ?_;rintro e w5 ⟨rfl,ht,ho⟩;have kX:=Q3 (cD.out.setT ht ho);clear ht ho);refine⟨⟨pg+1,by congr 1,by omega,?_,bM.out.trans kX.out.2⟩,by simp[intOf] <;> omega⟩;rw[HGk.out,HUq.out,if_neg (by simp)];exact kX.out.1
       ·have ek2:(kd == 2)=false:=by simpa using jC
        have HQ0:Hid (uq O2 pg kd 0=false):=by
         show _=_
         unfold uq;rw[if_neg jC];split <;> rfl
        clear hR hO hR1 hT1 nJ kT hln hPg jC;go_wp2_with fail;obtain⟨W1,cC⟩:∃ W1,wr.alloc (.cells #[Iz kd,Iz cl,Iz ln] 189)=W1:=⟨_,rfl⟩
        obtain⟨H,hH⟩:∃ H,wr.heap.size=H:=⟨_,rfl⟩
        have oW:Out 0 0 wr W1:=by rw[<-cC];exact(Out.refl 0 0 _).alloc _
        have HX0:Hid (cq W1 H 0=some (Iz kd)):=by
         show _=_
         have hh:W1.heap[H]? = some (.cells #[Iz kd,Iz cl,Iz ln] 189 (0,0)):=by rw[<-cC,<-hH];exact heap_alloc_new _ _
         simp[World.cell?,hh]
        have cD:=Q3 (kQ.out.1.quiet oW);have bM:=Q3 (kQ.out.2.trans (oW.any lo hi));(try rw[cC]);(try rw[hH]);clear cC hH oW c2 c1 dt e0 e1 e2;go_loopw [14,15] (fun ok u wq=>∃ i:Nat,u=Iz (i:Int)/\i<=64/\ok=.bool (uq O2 pg kd i)/\(kd ≠ 1->i=0)/\wq=W1) (fun _ u _=>64-(intOf u).toNat)
        case atStart=>exact⟨0,rfl,by omega,by rw[HQ0.out],fun _=>rfl,rfl⟩
        case round=>
         obtain⟨i,rfl,i64,rfl,hik,hw⟩:=hrel;subst hw;have x0:=HX0.out;have c2:=cD.out.cells.2.2.1;rw[HM.out] at c2;have i0:(0:Int)<=(i:Int):=by omega
         by_cases iC:kd=1
         ·have ek:(kd == 1)=true:=by simpa using iC
          by_cases hi64:i<64
          ·have il:(i:Int)<64:=by omega
           have hm:=HM.out;have hpg:=HPg.out;obtain⟨x,hx⟩:∃ x,Pg+i=x:=⟨_,rfl⟩
           have xe:(Pg:Int)+(i:Int)=(x:Int):=by omega
           have xx0:(0:Int)<=(x:Int):=by omega
           have xM:(x:Int)<(a:Int):=by omega
           have d1:=cD.out.ro.cell (i:=x*5+1) (by omega);rw[z4g (st:={ st with S:=T1,O:=O2 }) (b:=O2 x) rfl] at d1;have dC:uq O2 pg kd (i+1)=(uq O2 pg kd i || Y6 (O2 x)):=by
            unfold uq;rw[if_neg (by omega),if_pos iC,if_neg (by omega),if_pos iC,<-hx,show Pg=64*pg from by omega];rfl
           have gK:=Q3 dC;obtain⟨q,hq⟩:∃ q,uq O2 pg kd i=q:=⟨_,rfl⟩
           rw[hq] at gK ⊢;have HK1:=Q3 iC;clear hik hm hx dC hq iC hpg;cases q with
           | true=>
            clear d1;go_wp2_with fail;exact⟨⟨i+1,by congr 1,by omega,by rw[gK.out];rfl,fun h=>absurd HK1.out h,by trivial⟩,by simp[intOf] <;> omega⟩
           | false=>
            cases hb:Y6 (O2 x) with
            | false=>
             rw[hb,if_neg (by simp)] at d1;rw[hb] at gK;clear hb;go_wp2_with fail;exact⟨⟨i+1,by congr 1,by omega,by rw[gK.out];rfl,fun h=>absurd HK1.out h,by trivial⟩,by simp[intOf] <;> omega⟩
            | true=>
             rw[hb,if_pos rfl] at d1;rw[hb] at gK;obtain⟨k5,nK⟩:∃ k,(O2 x).1=k:=⟨_,rfl⟩
             rw[nK] at d1;have oP:(k5 != 0)=true:=by unfold Y6 at hb;rw[nK] at hb;exact hb
             clear hb nK;go_wp2_with fail;exact⟨⟨i+1,by congr 1,by omega,by rw[gK.out];rfl,fun h=>absurd HK1.out h,by trivial⟩,by simp[intOf] <;> omega⟩
          ·have e64:i=64:=by omega
           subst e64;obtain⟨q,hq⟩:∃ q,uq O2 pg kd 64=q:=⟨_,rfl⟩
           rw[hq];have HUq:Hid (z0y T1 O2 pg=q):=by
            show _=_
            rw[<-hq];unfold z0y uq;rw[HKd.out]
           clear hq;cases q with
           | true=>
            go_wp2_with fail;refine⟨⟨pg+1,by congr 1,by omega,?_,bM.out⟩,by simp[intOf] <;> omega⟩;rw[HGk.out,HUq.out,if_pos rfl];exact cD.out
           | false=>
            have c1:=cD.out.cells.2.1;have HGv:=Q3 (z1c cD.out.rt (pg:Int));go_wp2_with (go_at_call 142;refine HGv.out.mono ?_;rintro e w5 ⟨rfl,ht,ho⟩;have kX:=Q3 (cD.out.setT ht ho);clear ht ho);refine⟨⟨pg+1,by congr 1,by omega,?_,bM.out.trans kX.out.2⟩,by simp[intOf] <;> omega⟩;rw[HGk.out,HUq.out,if_neg (by simp)];exact kX.out.1
         ·have ek:(kd == 1)=false:=by simpa using iC
          have e0:=hik iC;subst e0;obtain⟨q,hq⟩:∃ q,uq O2 pg kd 0=q:=⟨_,rfl⟩
          rw[hq];have HUq:Hid (z0y T1 O2 pg=q):=by
           show _=_
           rw[<-hq];unfold z0y uq;rw[HKd.out];rw[if_neg (c:=kd=1) iC,if_neg (c:=kd=1) iC]
          clear hq;cases q with
          | true=>
           go_wp2_with fail;refine⟨⟨pg+1,by congr 1,by omega,?_,bM.out⟩,by simp[intOf] <;> omega⟩;rw[HGk.out,HUq.out,if_pos rfl];exact cD.out
          | false=>
           have c1:=cD.out.cells.2.1;have HGv:=Q3 (z1c cD.out.rt (pg:Int));go_wp2_with (go_at_call 142;refine HGv.out.mono ?_;rintro e w5 ⟨rfl,ht,ho⟩;have kX:=Q3 (cD.out.setT ht ho);clear ht ho);refine⟨⟨pg+1,by congr 1,by omega,?_,bM.out.trans kX.out.2⟩,by simp[intOf] <;> omega⟩;rw[HGk.out,HUq.out,if_neg (by simp)];exact kX.out.1
      ·have e:pg=n:=by omega
       subst e;have hfin:RfAt wr lo hi s pg cw co { st with S:=gkS pg { st with O:=O2 } pg,O:=O2 }:=by rw[hT1];exact hR
       have hI2:=HI2.out;rw[cI.out] at hI2;have HTd:=Q3 (q8a hfin hI2);have HO:=Q3 hO;clear hR hO hT1 hfin hI2 hn2;go_wp2_with (go_at_call 143;refine HTd.out.mono ?_;rintro e w5 ⟨⟨v,rfl⟩,hR5,o5⟩);go_ret2;refine⟨HO.out.trans o5,.inl ⟨HOk.out,by rw[HFd.out];rfl,?_⟩⟩;rw[cI.out];exact hR5
end
def Cov (S:Nat->Int × Int × Int) (O:Nat->Blk) (p q:Nat):Prop:=∃ h,h<p/\z0y S O h=false/\((S h).1=1\/(S h).1=2)/\h<=q/\q<h+z5n (S h)
section
variable {n:Nat} {st:Sp}
theorem q7e {x:Int × Int × Int} (h:x.1=1):z5n x=1:=by unfold z5n;rw[if_neg (by omega)]
theorem j8n {O:Nat->Blk} {p:Nat} (hg:Good n st.S) (hp:p<n) (h:Cov st.S O p p):st.S p=(3,0,0):=by
 obtain⟨h,h1,h2,h3,h4,h5⟩:=h;rcases h3 with e | e
 ·rw[q7e e] at h5;omega
 ·rcases hg h (by omega) with q | ⟨c,_,_,q⟩ | ⟨k,k1,k2,k3,q,k5⟩ | ⟨q,_⟩
  ·rw[q] at e;cases e
  ·rw[q] at e;cases e
  ·have:z5n (st.S h)=k:=by rw[q];unfold z5n;simp
   rw[this] at h5;exact k5 p h1 h5
  ·rw[q] at e;cases e
theorem x6g {O:Nat->Blk} (hg:Good n st.S):∀ p,p<=n->∀ q,(Cov st.S O p q->gkS n { st with O:=O } p q=(0,0,0))/\(¬Cov st.S O p q->gkS n { st with O:=O } p q=st.S q)
 | 0,_,q=>⟨fun⟨h,h1,_⟩=>by omega,fun _=>rfl⟩
 | p+1,hp,q=>by
  have ih:=x6g (O:=O) hg p (by omega);obtain⟨T,hT⟩:∃ T,gkS n { st with O:=O } p=T:=⟨_,rfl⟩
  rw[hT] at ih;have hs:gkS n { st with O:=O } (p+1)=if z0y T O p then T else gvS T n (p:Int):=by rw[<-hT];rfl
  rw[hs];have mR:inB n (p:Int)=true:=by unfold inB;simp;omega
  have hup:Cov st.S O p q->Cov st.S O (p+1) q:=fun⟨h,h1,h2⟩=>⟨h,by omega,h2⟩
  have hdn:(¬((st.S p).1=1\/(st.S p).1=2)\/z0y st.S O p=true\/¬(p<=q/\q<p+z5n (st.S p)))->Cov st.S O (p+1) q->Cov st.S O p q:=fun hor ⟨h,h1,h2,h3,h4,h5⟩=>by
   by_cases e:h=p
   ·subst e;rcases hor with x | x | x
    ·exact absurd h3 x
    ·rw[x] at h2;cases h2
    ·exact absurd ⟨h4,h5⟩ x
   ·exact⟨h,by omega,h2,h3,h4,h5⟩
  by_cases hc:Cov st.S O p p
  ·have h3:=j8n hg (by omega) hc;have ht:=(ih p).1 hc;have hu:z0y T O p=false:=by unfold z0y;rw[ht];rfl
   have hv:gvS T n (p:Int)=T:=by
    unfold gvS z5l;rw[show ((p:Nat):Int).toNat=p from by omega,ht,mR];rfl
   rw[hu,if_neg (by simp),hv];have hd:=hdn (.inl (by rw[h3];rintro(e | e) <;> cases e));exact⟨fun h=>(ih q).1 (hd h),fun h=>(ih q).2 (fun x=>h (hup x))⟩
  ·have ht:=(ih p).2 hc;have hu:z0y T O p=z0y st.S O p:=by unfold z0y;rw[ht]
   rw[hu];cases hup2:z0y st.S O p with
   | true=>
    rw[if_pos rfl];have hd:=hdn (.inr (.inl hup2));exact⟨fun h=>(ih q).1 (hd h),fun h=>(ih q).2 (fun x=>h (hup x))⟩
   | false=>
    rw[if_neg (by simp)];unfold gvS z5l;rw[show ((p:Nat):Int).toNat=p from by omega,ht,mR];by_cases hk:(st.S p).1=1\/(st.S p).1=2
    ·have:(true && ((st.S p).1 == 1 || (st.S p).1 == 2))=true:=by simpa using hk
     rw[this,if_pos rfl];unfold setF;by_cases hr:p<=q/\q<p+z5n (st.S p)
     ·rw[if_pos hr];exact⟨fun _=>rfl,fun h=>absurd ⟨p,by omega,hup2,hk,hr.1,hr.2⟩ h⟩
     ·rw[if_neg hr];have hd:=hdn (.inr (.inr hr));exact⟨fun h=>(ih q).1 (hd h),fun h=>(ih q).2 (fun x=>h (hup x))⟩
    ·have:(true && ((st.S p).1 == 1 || (st.S p).1 == 2))=false:=by simpa using hk
     rw[this,if_neg (by simp)];have hd:=hdn (.inl hk);exact⟨fun h=>(ih q).1 (hd h),fun h=>(ih q).2 (fun x=>h (hup x))⟩
theorem q6b {O:Nat->Blk} {p:Nat}:∀ i,q6a O p i=true ↔ ∃ j,j<i/\Y6 (O (64*p+j))=true
 | 0=>⟨fun h=>(by cases h),fun⟨j,h,_⟩=>absurd h (Nat.not_lt_zero _)⟩
 | i+1=>by
  unfold q6a;rw[Bool.or_eq_true,q6b i];constructor
  ·rintro(⟨j,h1,h2⟩ | h)
   ·exact⟨j,by omega,h2⟩
   ·exact⟨i,by omega,h⟩
  ·rintro⟨j,h1,h2⟩;by_cases e:j=i
   ·exact .inr (e ▸ h2)
   ·exact .inl ⟨j,by omega,h2⟩
theorem j8k {P:Nat->Bool} {lo hi j:Nat} (h1:lo<=j) (h2:j<hi) (hp:P j=true):0<z7u P lo hi:=by
 exact Nat.pos_of_ne_zero (j3t (S:=fun j=>decide (lo<=j) && P j) (a:=j) (by simp[h1,hp]) hi h2)
theorem cntR_none {P:Nat->Bool} {lo hi:Nat}:(z7u P lo hi == 0)=true ↔ ∀ j,lo<=j->j<hi->P j=false:=by
 rw[beq_iff_eq];constructor
 ·intro h j h1 h2;cases hp:P j with
  | false=>rfl
  | true=>
   exfalso
   have:=j8k (P:=P) (lo:=lo) (hi:=hi) (j:=j) h1 h2 hp;omega
 ·intro h;unfold z7u;exact q9a fun j hj=>by
   by_cases e:lo<=j
   ·simp[h j e hj]
   ·simp[e]
theorem j5f {kp:Nat->Bool} {q:Nat} (hI:Inv n st) (hq:q<n) (hk:(st.S q).1=1):z0y st.S (kpO st kp) q = !(z7u (ob n { st with O:=kpO st kp }) (64*q) (64*q+64) == 0):=by
 have hu:z0y st.S (kpO st kp) q=q6a (kpO st kp) q 64:=by unfold z0y;rw[if_neg (by omega),if_pos hk]
 rw[hu];cases ha:q6a (kpO st kp) q 64 with
 | true=>
  obtain⟨j,j1,j2⟩:=(q6b 64).1 ha;cases hc:(z7u (ob n { st with O:=kpO st kp }) (64*q) (64*q+64) == 0) with
  | false=>rfl
  | true=>
   have:=cntR_none.1 hc (64*q+j) (by omega) (by omega);unfold ob at this;rw[show decide (64*q+j<64*n)=true from by simp;omega] at this;have h2:Y6 (kpO st kp (64*q+j))=false:=this;rw[j2] at h2;cases h2
 | false=>
  have:(z7u (ob n { st with O:=kpO st kp }) (64*q) (64*q+64) == 0)=true:=cntR_none.2 fun j j1 j2=>by
   cases hb:ob n { st with O:=kpO st kp } j with
   | false=>rfl
   | true=>
    unfold ob at hb;rw[Bool.and_eq_true] at hb;have:=(q6b (O:=kpO st kp) (p:=q) 64).2 ⟨j-64*q,by omega,by rw[show 64*q+(j-64*q)=j from by omega];exact hb.2⟩;rw[ha] at this;cases this
  rw[this];rfl
theorem x2b {kp:Nat->Bool} (hI:Inv n st):gkS n { st with O:=kpO st kp } n=dlS (z7p n st kp) (ob n { st with O:=kpO st kp }) n:=by
 funext q
 have hg:=x6g (O:=kpO st kp) hI.good n (Nat.le_refl _) q;by_cases hc:Cov st.S (kpO st kp) n q
 ·rw[hg.1 hc];obtain⟨h,h1,h2,h3,h4,h5⟩:=hc;unfold dlS;rcases h3 with e | e
  ·rw[q7e e] at h5;obtain rfl:q=h:=by omega
   by_cases mS:z2d (Q6 n st) kp (64*n) q=true
   ·have:z7p n st kp q=(0,0,0):=by unfold z7p;rw[if_pos mS]
    rw[this];split <;> rfl
   ·have hk:z7p n st kp q=st.S q:=by unfold z7p;rw[if_neg mS]
    have hb:z4y (z7p n st kp) (ob n { st with O:=kpO st kp }) q=true:=by
     unfold z4y;rw[hk,e];rw[j5f hI h1 e] at h2;simpa using h2
    rw[hb,show decide (q<n)=true from by simpa using h1];rfl
  ·have hh:=hI.heads h h1 e;have hu:Y6 (kpO st kp (64*h))=false:=by unfold z0y at h2;rw[if_pos e] at h2;exact h2
   have hkp:kp (64*h)=false:=by
    rw[z4e,hh] at hu;simpa using hu
   have nH:=hI.objs _ hh;obtain⟨o1,o2,o3⟩:=nH;rw[show 64*h / 64=h from by omega] at o3;obtain⟨z,hz⟩:∃ z,(st.O (64*h)).2.1=z:=⟨_,rfl⟩
   rw[hz] at o3;rcases o3 with ⟨_,e3,_⟩ | ⟨e2,_,e3⟩
   ·rw[e3] at e;cases e
   ·have hl:z5n (st.S h)=((z+63) / 64).toNat:=by rw[e3];unfold z5n;rw[if_pos rfl]
    rw[hl] at h5;have mS:z2d (Q6 n st) kp (64*n) q=true:=goneP_iff.2 ⟨64*h,st.O (64*h),by omega,by
     unfold z2l;rw[x0p hI,hh,hkp];rfl,x4q hh,by rw[hz];exact e2,by omega,by rw[hz];omega⟩
    have:z7p n st kp q=(0,0,0):=by unfold z7p;rw[if_pos mS]
    rw[this];split <;> rfl
 ·rw[hg.2 hc];have mS:¬ z2d (Q6 n st) kp (64*n) q=true:=fun mS=>by
   obtain⟨a,b,a1,a2,a3,a4,a5,a6⟩:=goneP_iff.1 mS;unfold z2l at a2;rw[x0p hI,Bool.and_eq_true] at a2;rw[x4q a2.1] at a3;cases a3;obtain⟨o1,o2,o3⟩:=hI.objs a a2.1;rcases o3 with ⟨e1,_⟩ | ⟨_,e2,e3⟩
   ·omega
   ·refine hc ⟨a / 64,by omega,?_,.inr (by rw[e3]),a5,?_⟩
    ·unfold z0y;rw[e3,if_pos rfl,show 64*(a / 64)=a from by omega,z4e];have:=a2.2;simp at this;rw[this];simp
    ·rw[e3];unfold z5n;rw[if_pos rfl];exact a6
  have hk:z7p n st kp q=st.S q:=by unfold z7p;rw[if_neg mS]
  unfold dlS;rw[hk];cases hd:(decide (q<n) && z4y (z7p n st kp) (ob n { st with O:=kpO st kp }) q) with
  | false=>rfl
  | true=>
   exfalso
   rw[Bool.and_eq_true,decide_eq_true_eq] at hd;obtain⟨q1,q2⟩:=hd;unfold z4y at q2;rw[hk,Bool.and_eq_true,beq_iff_eq] at q2;exact hc ⟨q,q1,by rw[j5f hI q1 q2.1,q2.2];rfl,.inl q2.1,Nat.le_refl _,by rw[q7e q2.1];omega⟩
end
section
variable {n:Nat} {st:Sp}
theorem x1t {kp:Nat->Bool} (hI:Inv n st):dpO st kp (64*n)=kpO st kp:=by
 funext b
 unfold dpO;by_cases h:b<64*n
 ·rw[if_pos h]
 ·rw[if_neg h];have hb:Y6 (st.O b)=false:=by
   cases hh:Y6 (st.O b) with
   | false=>rfl
   | true=>exact absurd (hI.objs b hh).1 h
  have:=hI.none b hb;unfold kpO;split
  ·rfl
  ·exact this
theorem j5a {s2:Sp}:∀ p j,z1y s2 p j=true ↔ ∃ a,a<p/\Y6 (s2.O a)=true/\a<=j/\j<a+Y8 (s2.O a).2.1
 | 0,j=>⟨fun h=>(by cases h),fun⟨a,h,_⟩=>absurd h (Nat.not_lt_zero _)⟩
 | p+1,j=>by
  unfold z1y;rw[Bool.or_eq_true,j5a p j,Bool.and_eq_true,decide_eq_true_eq];constructor
  ·rintro(⟨a,h1,h2⟩ | ⟨h1,h2⟩)
   ·exact⟨a,by omega,h2⟩
   ·exact⟨p,by omega,h1,h2⟩
  ·rintro⟨a,h1,h2,h3⟩;by_cases e:a=p
   ·subst e;exact .inr ⟨h2,h3⟩
   ·exact .inl ⟨a,by omega,h2,h3⟩
theorem j9k {l:List Int} {S:Nat->Int × Int × Int} (hI:Inv n st) (j:Nat):z1y { st with S:=S,O:=kpO st (kpS l) } (64*n) j=j1o (V5 n (Q6 n st) (kpS l) (64*n)) j:=by
 rw[Bool.eq_iff_iff,j5a,j4y hI];constructor
 ·rintro⟨a,h1,h2,h3,h4⟩;have iD:Y6 (kpO st (kpS l) a)=true:=h2;have hk:=iD;rw[z4e,Bool.and_eq_true] at hk;have e:kpO st (kpS l) a=st.O a:=by unfold kpO;rw[if_pos hk.2]
  refine⟨a,by rw[z7w,hk.1,hk.2];rfl,h3,?_⟩;have h4':j<a+Y8 (kpO st (kpS l) a).2.1:=h4;rw[e] at h4';exact h4'
 ·rintro⟨a,h1,h2,h3⟩;rw[z7w,Bool.and_eq_true] at h1;have e:kpO st (kpS l) a=st.O a:=by unfold kpO;rw[if_pos h1.2]
  refine⟨a,(hI.objs a h1.1).1,?_,h2,?_⟩
  ·show Y6 (kpO st (kpS l) a)=true
   rw[e];exact h1.1
  ·show j<a+Y8 (kpO st (kpS l) a).2.1
   rw[e];exact h3
theorem x3x {l:List Int} (hI:Inv n st):({ st with W:=tzW n { st with S:=gkS n { st with O:=dpO st (kpS l) (64*n) } n,O:=dpO st (kpS l) (64*n) } (64*n),S:=gkS n { st with O:=dpO st (kpS l) (64*n) } n,O:=dpO st (kpS l) (64*n) }:Sp)=q7b n st (kpS l):=by
 rw[x1t hI,x2b hI];unfold q7b;congr 1
 funext j
 unfold tzW wpW;rw[j9k hI,(G7 (n:=n) (r:=Q6 n st) (kp:=kpS l) (z0w st) (64*n) j).2.2];rfl
theorem j9n {l:List Int} (hI:Inv n st):Inv n { st with S:=gkS n { st with O:=dpO st (kpS l) (64*n) } n,O:=dpO st (kpS l) (64*n) }:=by
 rw[x1t hI,x2b hI];have hk:=q9l (l:=l) hI;obtain⟨e1,e2,e3⟩:=z7x n (q7b n st (kpS l)) 8;have e1':(z0m n st l).S=dlS (z7p n st (kpS l)) (ob n { st with O:=kpO st (kpS l) }) n:=e1;have e2':(z0m n st l).O=kpO st (kpS l):=e2;have e3':(z0m n st l).last=st.last:=e3;refine⟨hk.n1,hk.n2,?_,?_,?_,?_,?_,?_,?_⟩
 ·have:=hk.good;rw[e1'] at this;exact this
 ·have:=hk.objs;rw[e1',e2'] at this;exact this
 ·have:=hk.none;rw[e2'] at this;exact this
 ·have:=hk.heads;rw[e1',e2'] at this;exact this
 ·have:=hk.last0;rw[e3'] at this;exact this
 ·have:=hk.ser;rw[e2',e3'] at this;exact this
 ·have:=hk.one;rw[e2'] at this;exact this
theorem z7k {w:World} {lo hi cw co:Nat} {s:Nat->Nat} (h:RfAt w lo hi s n cw co st) (hI:Inv n st) {l:List Int} {p:Option Addr} {cp:Nat} (hl:j2s w p l) (hll:(l.length:Int)<9223372036854775807) :
  Calls Tryz.prog 82 #[.pointer (some ⟨s 0,0,none⟩),.slice p l.length cp] w fun e w'=>Out lo hi w w' ∧
   (((∀ a ∈ l,(obM st a).isSome=true)/\e=.returned (.tuple #[.int .i64 ((U0 (Q6 n st) (kpS l) (64*n):Nat):Int),.int .i64 0])/\RfAt w' lo hi s n cw co (z0m n st l)) ∨
    ((∃ a ∈ l,obM st a=none)/\e=.returned (.tuple #[.int .i64 0,.int .i64 22])/\RfAt w' lo hi s n cw co st)):=by
 have:=q4o h hI (cp:=cp) hl hll (j9n hI);rw[x3x hI] at this;exact this
end
end Go.Proofs.YtjgnogflgoihfaaGreatDoor
