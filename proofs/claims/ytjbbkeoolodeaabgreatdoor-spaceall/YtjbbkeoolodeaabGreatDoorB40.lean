import Derived.Test.YtjbbkeoolodeaabGreatDoorB39
namespace Go.Proofs.YtjbbkeoolodeaabGreatDoor
open Go.RowKit
set_option linter.unusedVariables false
set_option maxRecDepth 100000
set_option maxHeartbeats 16000000
set_option linter.unusedSimpArgs false
section
variable {w:World} {lo hi n cw co:Nat} {s:Nat->Nat} {st:Sp}
def uq (O:Nat->Blk) (pg:Nat) (kd:Int) (i:Nat):Bool:=if kd=2 then Q7 (O (64*pg)) else if kd=1 then q4i O pg i else false
theorem z3a {st:Sp} {a:Nat} {b:Blk} (h:st.O a=b):obC st (a*5+1)=if Q7 b then b.1 else 0:=by subst h;exact z3g _ _
theorem j7r {l:List Int} {i k:Nat} (h:l[i]? = some (k:Int)):upd (kpS (l.take i)) k true=kpS (l.take (i+1)):=by
 rw[q9k];congr 1
 obtain⟨h1,h2⟩:=List.getElem?_eq_some_iff.1 h;rw[List.take_add_one,h];rfl
theorem q1p (h:RfAt w lo hi s n cw co st) (hI:Inv n st) {l:List Int} {p:Option Addr} {cp:Nat} (hl:z2x w p l) (hll:(l.length:Int)<9223372036854775807) (hI2:Inv n { st with S:=gkS n { st with O:=dpO st (kpS l) (64*n) } n,O:=dpO st (kpS l) (64*n) }) :
  Calls Tryz.prog 64 #[.pointer (some ⟨s 0,0,none⟩),.slice p l.length cp] w fun e w'=>Out lo hi w w' ∧
   (((∀ a ∈ l,(obM st a).isSome=true)/\e=.returned (.tuple #[.int .i64 ((J7 (Z6 n st) (kpS l) (64*n):Nat):Int),.int .i64 0])/\RfAt w' lo hi s n cw co (q3o n { st with W:=tzW n { st with S:=gkS n { st with O:=dpO st (kpS l) (64*n) } n,O:=dpO st (kpS l) (64*n) } (64*n),S:=gkS n { st with O:=dpO st (kpS l) (64*n) } n,O:=dpO st (kpS l) (64*n) } 8)) ∨
    ((∃ a ∈ l,obM st a=none)/\e=.returned (.tuple #[.int .i64 0,.int .i64 22])/\RfAt w' lo hi s n cw co st)):=by
 have h2:=h.n2;have c2:=h.cells.2.2.1;obtain⟨M,hM⟩:∃ M,64*n=M:=⟨_,rfl⟩
 rw[hM] at c2;have M1:(M:Int)<=262144:=by omega
 have M0:(0:Int)<=(M:Int):=by omega
 have hmk:=run_make_row' (P:=Tryz.prog) 149 4 (.bool false) 1 Tryz.underlying149 (by kernel_rfl) rfl .i64 .i64 M (by omega) (by omega);have HM:=Z0 hM;have HI:=Z0 hI;have HH:=Z0 h;have HLi:=Z0 hl;have HI2:=Z0 hI2;obtain⟨N,hN⟩:∃ N,l.length=N:=⟨_,rfl⟩
 have HN:=Z0 hN;have N1:(N:Int)<9223372036854775807:=by omega
 rw[hN];obtain⟨G,hG⟩:∃ G,w.heap.size=G:=⟨_,rfl⟩
 have HGs:Hid (hi<=G/\w.heap.size=G):=⟨by rw[<-hG];exact h.top,hG⟩
 clear h hI h2 hM hl hll hI2 hN;go_enter Tryz.func64,Tryz.ntmps64
 go_wp2_with fail;clear c2;have o0:Out 0 0 w (w.alloc (.cells (madeCells #[Value.bool false] M) 4)):=(Out.refl 0 0 w).alloc _;have r0:Row (w.alloc (.cells (madeCells #[Value.bool false] M) 4)) G 4 M (fun j=>.bool (kpS (l.take 0) j)):=by
  refine⟨_,by rw[<-hG];exact heap_alloc_new _ _,by simp[madeCells],fun i hi'=>?_⟩;simp[madeCells,hi',Nat.mod_one,kpS]
 have H0:=Z0 (And.intro o0 r0);clear o0 r0;go_loopw [7] (fun u wr=>∃ i:Nat,u=.int .i64 (i:Int)/\i<=N/\Row wr G 4 M (fun j=>.bool (kpS (l.take i) j))/\(∀ a ∈ l.take i,(obM st a).isSome=true)/\Out 0 0 w wr) (fun u _=>N-(intOf u).toNat)
 case atStart=>exact⟨0,rfl,Nat.zero_le _,H0.out.2,by simp,H0.out.1⟩
 case round=>
  clear H0;obtain⟨i,rfl,ib,hB,hok,hO⟩:=hrel;have i0:(0:Int)<=(i:Int):=by omega
  have hR:=HH.out.quiet hO;by_cases hi':i<N
  ·have i1:(i:Int)<(N:Int):=by omega
   obtain⟨z,hz⟩:∃ z,l[i]? = some z:=by
    have:=HN.out;exact⟨l[i]'(by omega),List.getElem?_eq_getElem (by omega)⟩
   obtain⟨g,off,rfl,hg1,hg2⟩:∃ g off,p=some ⟨g,off,none⟩/\g<w.heap.size/\w.cell? ⟨g,off+i,none⟩=some (.int .i64 z):=by
    rcases HLi.out with e | ⟨g,off,e,h1,h2⟩
    ·have:=HN.out;rw[e] at this;simp at this;omega
    ·have:=h2 i (by have:=HN.out;omega);rw[hz] at this;exact⟨g,off,e,h1,this⟩
   have d0:=hO.cell hg2 z0;have hmem:z ∈ l:=List.mem_of_getElem? hz;cases hob:obM st z with
   | none=>
    have HBl:=Z0 (z2c hR (a:=z) (fun k e hk=>by
     unfold obM at hob;cases hh:Q7 (st.O k) with
     | false=>rfl
     | true=>rw[if_pos ⟨by omega,by rw[e,show ((k:Nat):Int).toNat=k from by omega];exact hh⟩] at hob;cases hob))
    have HE:=Z0 (And.intro hO (And.intro hmem hob));clear hR hB hok hO hz hg2 hmem hob;go_wp2_with (go_at_call 66;refine HBl.out.mono ?_;rintro e w2 ⟨rfl,o2⟩);go_ret2;have o3:=(HE.out.1.trans o2).alloc (.cells #[.int .i64 0,.int .i64 0,.int .i64 0,.int .i64 0,.int .i64 0] 97);exact⟨o3.any lo hi,.inr ⟨⟨z,HE.out.2⟩,rfl,HH.out.quiet o3⟩⟩
   | some b=>
    obtain⟨k,rfl,hk⟩:∃ k:Nat,z=(k:Int)/\Q7 (st.O k)=true:=by
     unfold obM at hob;split at hob
     ·rename_i q
      exact⟨z.toNat,by omega,q.2⟩
     ·cases hob
    have hkn:=(HI.out.objs k hk).1;obtain⟨b1,b2,b3,b4,hO4⟩:∃ b1 b2 b3 b4,st.O k=(b1,b2,b3,b4):=⟨_,_,_,_,rfl⟩
    have HBl:=Z0 (z1z hR hkn hk hO4);have k0:(0:Int)<=(k:Int):=by omega
    have km:k<M:=by have:=HM.out;omega
    have k1:(k:Int)<(M:Int):=by omega
    have HE:=Z0 (And.intro hB (And.intro hO (And.intro hok (And.intro (j7r hz) (And.intro hob hz)))));clear hR hB hok hO hz hmem hob hO4 hkn hk;go_wp2_with (go_at_call 66;refine HBl.out.mono ?_;rintro e w2 ⟨rfl,o2⟩;have o3:=o2.alloc (.cells #[.int .i64 (k:Int),.int .i64 b1,.int .i64 b2,.int .i64 b3,.int .i64 b4] 97);have hB3:=HE.out.1.kept o3 z0;have e0:=hB3.cell km;have e1:=hB3.frozen k;have d3:=o3.cell d0 z0;have HE3:=Z0 (And.intro hB3 (HE.out.2.1.trans o3));clear o2 o3 hB3);have oS:Out G (G+1) (w2.alloc (.cells #[.int .i64 (k:Int),.int .i64 b1,.int .i64 b2,.int .i64 b3,.int .i64 b4] 97)) ((w2.alloc (.cells #[.int .i64 (k:Int),.int .i64 b1,.int .i64 b2,.int .i64 b3,.int .i64 b4] 97)).setCell ⟨G,k,none⟩ (.bool true)):=(Out.refl _ _ _).setCell (p:=⟨G,k,none⟩) z1 _;refine⟨⟨i+1,by congr 1,by omega,?_,?_,HE3.out.2.past oS (by have:=HGs.out;omega)⟩,by simp[intOf] <;> omega⟩
    ·refine(HE3.out.1.set k (.bool true)).congr fun j _=>?_
     rw[<-HE.out.2.2.2.1];unfold upd;by_cases e:j=k
     ·rw[if_pos e,if_pos e]
     ·rw[if_neg e,if_neg e]
    ·intro a ha;rw[List.take_add_one,HE.out.2.2.2.2.2] at ha;simp at ha;rcases ha with ha | rfl
     ·exact HE.out.2.2.1 a ha
     ·rw[HE.out.2.2.2.2.1];rfl
  ·have e:i=N:=by omega
   subst e;have htk:l.take i=l:=List.take_of_length_le (by have:=HN.out;omega);rw[htk] at hB hok;have HE:=Z0 (And.intro hB (And.intro hok hO));clear hB hok hO hR htk;go_wp2_with fail;obtain⟨kp,hkp⟩:∃ kp,kpS l=kp:=⟨_,rfl⟩
   rw[hkp] at HE;go_loopw [10,11] (fun f u wr=>∃ a:Nat,u=.int .i64 (a:Int)/\f=.int .i64 ((J7 (Z6 n st) kp a:Nat):Int)/\a<=M/\RfAt wr lo hi s n cw co { st with O:=dpO st kp a }/\Row wr G 4 M (fun j=>.bool (kp j))/\Out lo hi w wr) (fun _ u _=>M-(intOf u).toNat)
   case atStart=>exact⟨0,rfl,rfl,Nat.zero_le _,by rw[j8x];exact HH.out.quiet HE.out.2.2,HE.out.1,HE.out.2.2.any lo hi⟩
   case round=>
    have HOk:=Z0 HE.out.2.1;clear HE;obtain⟨a,rfl,rfl,ab,hR,hB,hO⟩:=hrel;have a0:(0:Int)<=(a:Int):=by omega
    have c2:=hR.cells.2.2.1;rw[HM.out] at c2;have hfl:=z6j (Z6 n st) kp a;by_cases ha:a<M
    ·have a1:(a:Int)<(M:Int):=by omega
     have hm:=HM.out;have d1:=hR.ro.cell (i:=a*5+1) (by omega);have hda:dpO st kp a a=st.O a:=by unfold dpO;rw[if_neg (by omega)]
     rw[z3a (st:={ st with O:=dpO st kp a }) hda] at d1;have e0:=hB.cell ha;have hfs:J7 (Z6 n st) kp (a+1)=if Q7 (st.O a) && !kp a then J7 (Z6 n st) kp a+1 else J7 (Z6 n st) kp a:=by
      conv=>lhs;unfold J7
      rw[j0g HI.out]
     have hds:=j9e st kp a;obtain⟨fd,hfd⟩:∃ fd,J7 (Z6 n st) kp a=fd:=⟨_,rfl⟩
     rw[hfd] at hfs hfl ⊢;have fd1:(fd:Int)<=262144:=by omega
     cases hb:Q7 (st.O a) with
     | false=>
      rw[hb,if_neg (by simp)] at d1;rw[hb] at hfs;have hno:=HI.out.none a hb;have hdd:dpO st kp (a+1)=dpO st kp a:=by
       rw[hds];split
       ·rfl
       ·funext b
        unfold U4;split
        ·rename_i e
         rw[e,hda,hno]
        ·rfl
      have HE:=Z0 (And.intro hR (And.intro hB (And.intro hO (And.intro hfs hdd))));clear hR hB hO hfs hds hdd hno hb hda e0 hm;go_wp2_with fail;exact⟨⟨a+1,by congr 1,by rw[HE.out.2.2.2.1];rfl,by omega,by rw[HE.out.2.2.2.2];exact HE.out.1,HE.out.2.1,HE.out.2.2.1⟩,by simp[intOf] <;> omega⟩
     | true=>
      rw[hb,if_pos rfl] at d1;rw[hb] at hfs;obtain⟨k5,hk5⟩:∃ k,(st.O a).1=k:=⟨_,rfl⟩
      rw[hk5] at d1;have hk0:(k5 != 0)=true:=by unfold Q7 at hb;rw[hk5] at hb;exact hb
      cases hka:kp a with
      | true=>
       rw[hka] at e0 hfs hds;rw[if_pos rfl] at hds;have HE:=Z0 (And.intro hR (And.intro hB (And.intro hO (And.intro hfs hds))));clear hR hB hO hfs hds hb hda hm hk5 hka;go_wp2_with fail;exact⟨⟨a+1,by congr 1,by rw[HE.out.2.2.2.1];rfl,by omega,by rw[HE.out.2.2.2.2];exact HE.out.1,HE.out.2.1,HE.out.2.2.1⟩,by simp[intOf] <;> omega⟩
      | false=>
       rw[hka] at e0 hfs hds;rw[if_neg (by simp)] at hds;have y0:=hR.ro.cell (i:=a*5) (by omega);have y1:=hR.ro.cell (i:=a*5+1) (by omega);have y2:=hR.ro.cell (i:=a*5+2) (by omega);have y3:=hR.ro.cell (i:=a*5+3) (by omega);have y4:=hR.ro.cell (i:=a*5+4) (by omega);have q0:=hR.ro.frozen (a*5);have q1:=hR.ro.frozen (a*5+1);have q2:=hR.ro.frozen (a*5+2);have q3:=hR.ro.frozen (a*5+3);have q4:=hR.ro.frozen (a*5+4);clear y1;have hD:=hR.delO (a:=a) (by omega);have HE:=Z0 (And.intro hD.1 (And.intro (hB.kept hD.2 (.inr HGs.out.1)) (And.intro (hO.trans hD.2) (And.intro hfs hds))));clear hR hB hO hfs hds hb hda hm hk5 hka hD;unfold j1p at HE;go_wp2_with fail;refine⟨⟨a+1,by congr 1,by rw[HE.out.2.2.2.1];rfl,by omega,?_,HE.out.2.1,HE.out.2.2.1⟩,by simp[intOf] <;> omega⟩;rw[HE.out.2.2.2.2];exact HE.out.1
    ·have e:a=M:=by omega
     subst e;have HE:=Z0 (And.intro hR hO);clear hR hB hO hfl;go_wp2_with fail;clear c2;obtain⟨O2,hO2⟩:∃ O2,dpO st kp a=O2:=⟨_,rfl⟩
     rw[hO2] at HE;have HOd:Hid (dpO st (kpS l) (64*n)=O2):=by show _=_;rw[hkp,HM.out];exact hO2
     have HFr:Hid (J7 (Z6 n st) kp a<=a):=z6j _ _ _;obtain⟨fd,hfd⟩:∃ fd,J7 (Z6 n st) kp a=fd:=⟨_,rfl⟩
     rw[hfd];have HFd:Hid (J7 (Z6 n st) (kpS l) (64*n)=fd):=by show _=_;rw[hkp,HM.out];exact hfd
     clear hO2 hfd;go_loopw [12] (fun u wq=>∃ pg:Nat,u=.int .i64 (pg:Int)/\pg<=n/\RfAt wq lo hi s n cw co { st with S:=gkS n { st with O:=O2 } pg,O:=O2 }/\Out lo hi w wq) (fun u _=>n-(intOf u).toNat)
     case atStart=>exact⟨0,rfl,Nat.zero_le _,HE.out.1,HE.out.2⟩
     case round=>
      clear HE;obtain⟨pg,rfl,pb,hR,hO⟩:=hrel;have p0:(0:Int)<=(pg:Int):=by omega
      obtain⟨T1,hT1⟩:∃ T1,gkS n { st with O:=O2 } pg=T1:=⟨_,rfl⟩
      rw[hT1] at hR;have c1:=hR.cells.2.1;obtain⟨ct,dt,_⟩:=hR.rt.cell;have hn2:=hR.n2;have n2:(n:Int)<=4096:=by omega
      by_cases hp:pg<n
      ·have p1:(pg:Int)<(n:Int):=by omega
       obtain⟨e0,e1,e2⟩:=hR.rt.row.cells hp;obtain⟨kd,hkd⟩:∃ kd,(T1 pg).1=kd:=⟨_,rfl⟩
       obtain⟨cl,hcl⟩:∃ cl,(T1 pg).2.1=cl:=⟨_,rfl⟩
       obtain⟨ln,hln⟩:∃ ln,(T1 pg).2.2=ln:=⟨_,rfl⟩
       (try dsimp only at e0 e1 e2);rw[hkd] at e0;rw[hcl] at e1;rw[hln] at e2;have HKd:=Z0 hkd;have HGk:Hid (gkS n { st with O:=O2 } (pg+1)=if G6 T1 O2 pg then T1 else gvS T1 n (pg:Int)):=by rw[<-hT1];exact rfl
       have HR0:=Z0 (And.intro hR hO);obtain⟨Pg,hPg⟩:∃ Pg,pg*64=Pg:=⟨_,rfl⟩
       have Pe:(pg:Int)*64=(Pg:Int):=by omega
       have Pm:(Pg:Int)<(a:Int):=by have:=HM.out;omega
       have Pz:(0:Int)<=(Pg:Int):=by omega
       have HPg:Hid (pg*64=Pg/\pg<n):=⟨hPg,hp⟩
       have hR1:=hR.quiet ((Out.refl 0 0 wr).alloc (.cells #[.int .i64 kd,.int .i64 cl,.int .i64 ln] 147));have c2:=hR1.cells.2.2.1;rw[HM.out] at c2;by_cases hk2:kd=2
       ·have ek2:(kd == 2)=true:=by simpa using hk2
        have hm:=HM.out;have d1:=hR1.ro.cell (i:=Pg*5+1) (by omega);rw[z3a (st:={ st with S:=T1,O:=O2 }) (b:=O2 Pg) rfl] at d1;have hQ0:uq O2 pg kd 0=Q7 (O2 Pg):=by unfold uq;rw[if_pos hk2,<-hPg,Nat.mul_comm]
        cases hb:Q7 (O2 Pg) with
        | false=>
         rw[hb,if_neg (by simp)] at d1;rw[hb] at hQ0;have HQ0:=Z0 hQ0;clear hR hO hR1 hT1 hkd hcl hln hPg hb hQ0 hm hk2;go_wp2_with fail;obtain⟨W1,hW1⟩:∃ W1,wr.alloc (.cells #[.int .i64 kd,.int .i64 cl,.int .i64 ln] 147)=W1:=⟨_,rfl⟩
         obtain⟨H,hH⟩:∃ H,wr.heap.size=H:=⟨_,rfl⟩
         have oW:Out 0 0 wr W1:=by rw[<-hW1];exact(Out.refl 0 0 _).alloc _
         have HX0:Hid (W1.cell? ⟨H,0,none⟩=some (.int .i64 kd)):=by
          show _=_
          have hh:W1.heap[H]? = some (.cells #[.int .i64 kd,.int .i64 cl,.int .i64 ln] 147 (0,0)):=by rw[<-hW1,<-hH];exact heap_alloc_new _ _
          simp[World.cell?,hh]
         have HR1:=Z0 (HR0.out.1.quiet oW);have HO1:=Z0 (HR0.out.2.trans (oW.any lo hi));(try rw[hW1]);(try rw[hH]);clear hW1 hH oW d1 c2 c1 dt e0 e1 e2;go_loopw [14,15] (fun ok u wq=>∃ i:Nat,u=.int .i64 (i:Int)/\i<=64/\ok=.bool (uq O2 pg kd i)/\(kd ≠ 1->i=0)/\wq=W1) (fun _ u _=>64-(intOf u).toNat)
         case atStart=>exact⟨0,rfl,by omega,by rw[HQ0.out],fun _=>rfl,rfl⟩
         case round=>
          obtain⟨i,rfl,i64,rfl,hik,hw⟩:=hrel;subst hw;have x0:=HX0.out;have c2:=HR1.out.cells.2.2.1;rw[HM.out] at c2;have i0:(0:Int)<=(i:Int):=by omega
          by_cases hk1:kd=1
          ·have ek:(kd == 1)=true:=by simpa using hk1
           by_cases hi64:i<64
           ·have il:(i:Int)<64:=by omega
            have hm:=HM.out;have hpg:=HPg.out;obtain⟨x,hx⟩:∃ x,Pg+i=x:=⟨_,rfl⟩
            have xe:(Pg:Int)+(i:Int)=(x:Int):=by omega
            have xx0:(0:Int)<=(x:Int):=by omega
            have xM:(x:Int)<(a:Int):=by omega
            have d1:=HR1.out.ro.cell (i:=x*5+1) (by omega);rw[z3a (st:={ st with S:=T1,O:=O2 }) (b:=O2 x) rfl] at d1;have hnx:uq O2 pg kd (i+1)=(uq O2 pg kd i || Q7 (O2 x)):=by
             unfold uq;rw[if_neg (by omega),if_pos hk1,if_neg (by omega),if_pos hk1,<-hx,show Pg=64*pg from by omega];rfl
            have HNx:=Z0 hnx;obtain⟨q,hq⟩:∃ q,uq O2 pg kd i=q:=⟨_,rfl⟩
            rw[hq] at HNx ⊢;have HK1:=Z0 hk1;clear hik hm hx hnx hq hk1 hpg;cases q with
            | true=>
             clear d1;go_wp2_with fail;exact⟨⟨i+1,by congr 1,by omega,by rw[HNx.out];rfl,fun h=>absurd HK1.out h,by trivial⟩,by simp[intOf] <;> omega⟩
            | false=>
             cases hb:Q7 (O2 x) with
             | false=>
              rw[hb,if_neg (by simp)] at d1;rw[hb] at HNx;clear hb;go_wp2_with fail;exact⟨⟨i+1,by congr 1,by omega,by rw[HNx.out];rfl,fun h=>absurd HK1.out h,by trivial⟩,by simp[intOf] <;> omega⟩
             | true=>
              rw[hb,if_pos rfl] at d1;rw[hb] at HNx;obtain⟨k5,hk5⟩:∃ k,(O2 x).1=k:=⟨_,rfl⟩
              rw[hk5] at d1;have hk0:(k5 != 0)=true:=by unfold Q7 at hb;rw[hk5] at hb;exact hb
              clear hb hk5;go_wp2_with fail;exact⟨⟨i+1,by congr 1,by omega,by rw[HNx.out];rfl,fun h=>absurd HK1.out h,by trivial⟩,by simp[intOf] <;> omega⟩
           ·have e64:i=64:=by omega
            subst e64;obtain⟨q,hq⟩:∃ q,uq O2 pg kd 64=q:=⟨_,rfl⟩
            rw[hq];have HUq:Hid (G6 T1 O2 pg=q):=by
             show _=_
             rw[<-hq];unfold G6 uq;rw[HKd.out]
            clear hq;cases q with
            | true=>
             go_wp2_with fail;refine⟨⟨pg+1,by congr 1,by omega,?_,HO1.out⟩,by simp[intOf] <;> omega⟩;rw[HGk.out,HUq.out,if_pos rfl];exact HR1.out
            | false=>
             have c1:=HR1.out.cells.2.1;have HGv:=Z0 (z0b HR1.out.rt (pg:Int));go_wp2_with (go_at_call 119;refine HGv.out.mono ?_;rintro e w5 ⟨rfl,ht,ho⟩;have HS5:=Z0 (HR1.out.setT ht ho);clear ht ho);refine⟨⟨pg+1,by congr 1,by omega,?_,HO1.out.trans HS5.out.2⟩,by simp[intOf] <;> omega⟩;rw[HGk.out,HUq.out,if_neg (by simp)];exact HS5.out.1
          ·have ek:(kd == 1)=false:=by simpa using hk1
           have e0:=hik hk1;subst e0;obtain⟨q,hq⟩:∃ q,uq O2 pg kd 0=q:=⟨_,rfl⟩
           rw[hq];have HUq:Hid (G6 T1 O2 pg=q):=by
            show _=_
            rw[<-hq];unfold G6 uq;rw[HKd.out];rw[if_neg (c:=kd=1) hk1,if_neg (c:=kd=1) hk1]
           clear hq;cases q with
           | true=>
            go_wp2_with fail;refine⟨⟨pg+1,by congr 1,by omega,?_,HO1.out⟩,by simp[intOf] <;> omega⟩;rw[HGk.out,HUq.out,if_pos rfl];exact HR1.out
           | false=>
            have c1:=HR1.out.cells.2.1;have HGv:=Z0 (z0b HR1.out.rt (pg:Int));go_wp2_with (go_at_call 119;refine HGv.out.mono ?_;rintro e w5 ⟨rfl,ht,ho⟩;have HS5:=Z0 (HR1.out.setT ht ho);clear ht ho);refine⟨⟨pg+1,by congr 1,by omega,?_,HO1.out.trans HS5.out.2⟩,by simp[intOf] <;> omega⟩;rw[HGk.out,HUq.out,if_neg (by simp)];exact HS5.out.1
        | true=>
         rw[hb,if_pos rfl] at d1;rw[hb] at hQ0;obtain⟨k6,hk6⟩:∃ k,(O2 Pg).1=k:=⟨_,rfl⟩
         rw[hk6] at d1;have hk60:(k6 != 0)=true:=by unfold Q7 at hb;rw[hk6] at hb;exact hb
         have HQ0:=Z0 hQ0;clear hR hO hR1 hT1 hkd hcl hln hPg hb hQ0 hm hk2 hk6;go_wp2_with fail;obtain⟨W1,hW1⟩:∃ W1,wr.alloc (.cells #[.int .i64 kd,.int .i64 cl,.int .i64 ln] 147)=W1:=⟨_,rfl⟩
         obtain⟨H,hH⟩:∃ H,wr.heap.size=H:=⟨_,rfl⟩
         have oW:Out 0 0 wr W1:=by rw[<-hW1];exact(Out.refl 0 0 _).alloc _
         have HX0:Hid (W1.cell? ⟨H,0,none⟩=some (.int .i64 kd)):=by
          show _=_
          have hh:W1.heap[H]? = some (.cells #[.int .i64 kd,.int .i64 cl,.int .i64 ln] 147 (0,0)):=by rw[<-hW1,<-hH];exact heap_alloc_new _ _
          simp[World.cell?,hh]
         have HR1:=Z0 (HR0.out.1.quiet oW);have HO1:=Z0 (HR0.out.2.trans (oW.any lo hi));(try rw[hW1]);(try rw[hH]);clear hW1 hH oW d1 c2 c1 dt e0 e1 e2;go_loopw [14,15] (fun ok u wq=>∃ i:Nat,u=.int .i64 (i:Int)/\i<=64/\ok=.bool (uq O2 pg kd i)/\(kd ≠ 1->i=0)/\wq=W1) (fun _ u _=>64-(intOf u).toNat)
         case atStart=>exact⟨0,rfl,by omega,by rw[HQ0.out],fun _=>rfl,rfl⟩
         case round=>
          obtain⟨i,rfl,i64,rfl,hik,hw⟩:=hrel;subst hw;have x0:=HX0.out;have c2:=HR1.out.cells.2.2.1;rw[HM.out] at c2;have i0:(0:Int)<=(i:Int):=by omega
          by_cases hk1:kd=1
          ·have ek:(kd == 1)=true:=by simpa using hk1
           by_cases hi64:i<64
           ·have il:(i:Int)<64:=by omega
            have hm:=HM.out;have hpg:=HPg.out;obtain⟨x,hx⟩:∃ x,Pg+i=x:=⟨_,rfl⟩
            have xe:(Pg:Int)+(i:Int)=(x:Int):=by omega
            have xx0:(0:Int)<=(x:Int):=by omega
            have xM:(x:Int)<(a:Int):=by omega
            have d1:=HR1.out.ro.cell (i:=x*5+1) (by omega);rw[z3a (st:={ st with S:=T1,O:=O2 }) (b:=O2 x) rfl] at d1;have hnx:uq O2 pg kd (i+1)=(uq O2 pg kd i || Q7 (O2 x)):=by
             unfold uq;rw[if_neg (by omega),if_pos hk1,if_neg (by omega),if_pos hk1,<-hx,show Pg=64*pg from by omega];rfl
            have HNx:=Z0 hnx;obtain⟨q,hq⟩:∃ q,uq O2 pg kd i=q:=⟨_,rfl⟩
            rw[hq] at HNx ⊢;have HK1:=Z0 hk1;clear hik hm hx hnx hq hk1 hpg;cases q with
            | true=>
             clear d1;go_wp2_with fail;exact⟨⟨i+1,by congr 1,by omega,by rw[HNx.out];rfl,fun h=>absurd HK1.out h,by trivial⟩,by simp[intOf] <;> omega⟩
            | false=>
             cases hb:Q7 (O2 x) with
             | false=>
              rw[hb,if_neg (by simp)] at d1;rw[hb] at HNx;clear hb;go_wp2_with fail;exact⟨⟨i+1,by congr 1,by omega,by rw[HNx.out];rfl,fun h=>absurd HK1.out h,by trivial⟩,by simp[intOf] <;> omega⟩
             | true=>
              rw[hb,if_pos rfl] at d1;rw[hb] at HNx;obtain⟨k5,hk5⟩:∃ k,(O2 x).1=k:=⟨_,rfl⟩
              rw[hk5] at d1;have hk0:(k5 != 0)=true:=by unfold Q7 at hb;rw[hk5] at hb;exact hb
              clear hb hk5;go_wp2_with fail;exact⟨⟨i+1,by congr 1,by omega,by rw[HNx.out];rfl,fun h=>absurd HK1.out h,by trivial⟩,by simp[intOf] <;> omega⟩
           ·have e64:i=64:=by omega
            subst e64;obtain⟨q,hq⟩:∃ q,uq O2 pg kd 64=q:=⟨_,rfl⟩
            rw[hq];have HUq:Hid (G6 T1 O2 pg=q):=by
             show _=_
             rw[<-hq];unfold G6 uq;rw[HKd.out]
            clear hq;cases q with
            | true=>
             go_wp2_with fail;refine⟨⟨pg+1,by congr 1,by omega,?_,HO1.out⟩,by simp[intOf] <;> omega⟩;rw[HGk.out,HUq.out,if_pos rfl];exact HR1.out
            | false=>
             have c1:=HR1.out.cells.2.1;have HGv:=Z0 (z0b HR1.out.rt (pg:Int));go_wp2_with (go_at_call 119;refine HGv.out.mono ?_;rintro e w5 ⟨rfl,ht,ho⟩;have HS5:=Z0 (HR1.out.setT ht ho);clear ht ho);refine⟨⟨pg+1,by congr 1,by omega,?_,HO1.out.trans HS5.out.2⟩,by simp[intOf] <;> omega⟩;rw[HGk.out,HUq.out,if_neg (by simp)];exact HS5.out.1
          ·have ek:(kd == 1)=false:=by simpa using hk1
           have e0:=hik hk1;subst e0;obtain⟨q,hq⟩:∃ q,uq O2 pg kd 0=q:=⟨_,rfl⟩
           rw[hq];have HUq:Hid (G6 T1 O2 pg=q):=by
            show _=_
            rw[<-hq];unfold G6 uq;rw[HKd.out];rw[if_neg (c:=kd=1) hk1,if_neg (c:=kd=1) hk1]
           clear hq;cases q with
           | true=>
            go_wp2_with fail;refine⟨⟨pg+1,by congr 1,by omega,?_,HO1.out⟩,by simp[intOf] <;> omega⟩;rw[HGk.out,HUq.out,if_pos rfl];exact HR1.out
           | false=>
            have c1:=HR1.out.cells.2.1;have HGv:=Z0 (z0b HR1.out.rt (pg:Int));go_wp2_with (go_at_call 119;refine HGv.out.mono ?_;rintro e w5 ⟨rfl,ht,ho⟩;have HS5:=Z0 (HR1.out.setT ht ho);clear ht ho);refine⟨⟨pg+1,by congr 1,by omega,?_,HO1.out.trans HS5.out.2⟩,by simp[intOf] <;> omega⟩;rw[HGk.out,HUq.out,if_neg (by simp)];exact HS5.out.1
       ·have ek2:(kd == 2)=false:=by simpa using hk2
        have HQ0:Hid (uq O2 pg kd 0=false):=by
         show _=_
         unfold uq;rw[if_neg hk2];split <;> rfl
        clear hR hO hR1 hT1 hkd hcl hln hPg hk2;go_wp2_with fail;obtain⟨W1,hW1⟩:∃ W1,wr.alloc (.cells #[.int .i64 kd,.int .i64 cl,.int .i64 ln] 147)=W1:=⟨_,rfl⟩
        obtain⟨H,hH⟩:∃ H,wr.heap.size=H:=⟨_,rfl⟩
        have oW:Out 0 0 wr W1:=by rw[<-hW1];exact(Out.refl 0 0 _).alloc _
        have HX0:Hid (W1.cell? ⟨H,0,none⟩=some (.int .i64 kd)):=by
         show _=_
         have hh:W1.heap[H]? = some (.cells #[.int .i64 kd,.int .i64 cl,.int .i64 ln] 147 (0,0)):=by rw[<-hW1,<-hH];exact heap_alloc_new _ _
         simp[World.cell?,hh]
        have HR1:=Z0 (HR0.out.1.quiet oW);have HO1:=Z0 (HR0.out.2.trans (oW.any lo hi));(try rw[hW1]);(try rw[hH]);clear hW1 hH oW c2 c1 dt e0 e1 e2;go_loopw [14,15] (fun ok u wq=>∃ i:Nat,u=.int .i64 (i:Int)/\i<=64/\ok=.bool (uq O2 pg kd i)/\(kd ≠ 1->i=0)/\wq=W1) (fun _ u _=>64-(intOf u).toNat)
        case atStart=>exact⟨0,rfl,by omega,by rw[HQ0.out],fun _=>rfl,rfl⟩
        case round=>
         obtain⟨i,rfl,i64,rfl,hik,hw⟩:=hrel;subst hw;have x0:=HX0.out;have c2:=HR1.out.cells.2.2.1;rw[HM.out] at c2;have i0:(0:Int)<=(i:Int):=by omega
         by_cases hk1:kd=1
         ·have ek:(kd == 1)=true:=by simpa using hk1
          by_cases hi64:i<64
          ·have il:(i:Int)<64:=by omega
           have hm:=HM.out;have hpg:=HPg.out;obtain⟨x,hx⟩:∃ x,Pg+i=x:=⟨_,rfl⟩
           have xe:(Pg:Int)+(i:Int)=(x:Int):=by omega
           have xx0:(0:Int)<=(x:Int):=by omega
           have xM:(x:Int)<(a:Int):=by omega
           have d1:=HR1.out.ro.cell (i:=x*5+1) (by omega);rw[z3a (st:={ st with S:=T1,O:=O2 }) (b:=O2 x) rfl] at d1;have hnx:uq O2 pg kd (i+1)=(uq O2 pg kd i || Q7 (O2 x)):=by
            unfold uq;rw[if_neg (by omega),if_pos hk1,if_neg (by omega),if_pos hk1,<-hx,show Pg=64*pg from by omega];rfl
           have HNx:=Z0 hnx;obtain⟨q,hq⟩:∃ q,uq O2 pg kd i=q:=⟨_,rfl⟩
           rw[hq] at HNx ⊢;have HK1:=Z0 hk1;clear hik hm hx hnx hq hk1 hpg;cases q with
           | true=>
            clear d1;go_wp2_with fail;exact⟨⟨i+1,by congr 1,by omega,by rw[HNx.out];rfl,fun h=>absurd HK1.out h,by trivial⟩,by simp[intOf] <;> omega⟩
           | false=>
            cases hb:Q7 (O2 x) with
            | false=>
             rw[hb,if_neg (by simp)] at d1;rw[hb] at HNx;clear hb;go_wp2_with fail;exact⟨⟨i+1,by congr 1,by omega,by rw[HNx.out];rfl,fun h=>absurd HK1.out h,by trivial⟩,by simp[intOf] <;> omega⟩
            | true=>
             rw[hb,if_pos rfl] at d1;rw[hb] at HNx;obtain⟨k5,hk5⟩:∃ k,(O2 x).1=k:=⟨_,rfl⟩
             rw[hk5] at d1;have hk0:(k5 != 0)=true:=by unfold Q7 at hb;rw[hk5] at hb;exact hb
             clear hb hk5;go_wp2_with fail;exact⟨⟨i+1,by congr 1,by omega,by rw[HNx.out];rfl,fun h=>absurd HK1.out h,by trivial⟩,by simp[intOf] <;> omega⟩
          ·have e64:i=64:=by omega
           subst e64;obtain⟨q,hq⟩:∃ q,uq O2 pg kd 64=q:=⟨_,rfl⟩
           rw[hq];have HUq:Hid (G6 T1 O2 pg=q):=by
            show _=_
            rw[<-hq];unfold G6 uq;rw[HKd.out]
           clear hq;cases q with
           | true=>
            go_wp2_with fail;refine⟨⟨pg+1,by congr 1,by omega,?_,HO1.out⟩,by simp[intOf] <;> omega⟩;rw[HGk.out,HUq.out,if_pos rfl];exact HR1.out
           | false=>
            have c1:=HR1.out.cells.2.1;have HGv:=Z0 (z0b HR1.out.rt (pg:Int));go_wp2_with (go_at_call 119;refine HGv.out.mono ?_;rintro e w5 ⟨rfl,ht,ho⟩;have HS5:=Z0 (HR1.out.setT ht ho);clear ht ho);refine⟨⟨pg+1,by congr 1,by omega,?_,HO1.out.trans HS5.out.2⟩,by simp[intOf] <;> omega⟩;rw[HGk.out,HUq.out,if_neg (by simp)];exact HS5.out.1
         ·have ek:(kd == 1)=false:=by simpa using hk1
          have e0:=hik hk1;subst e0;obtain⟨q,hq⟩:∃ q,uq O2 pg kd 0=q:=⟨_,rfl⟩
          rw[hq];have HUq:Hid (G6 T1 O2 pg=q):=by
           show _=_
           rw[<-hq];unfold G6 uq;rw[HKd.out];rw[if_neg (c:=kd=1) hk1,if_neg (c:=kd=1) hk1]
          clear hq;cases q with
          | true=>
           go_wp2_with fail;refine⟨⟨pg+1,by congr 1,by omega,?_,HO1.out⟩,by simp[intOf] <;> omega⟩;rw[HGk.out,HUq.out,if_pos rfl];exact HR1.out
          | false=>
           have c1:=HR1.out.cells.2.1;have HGv:=Z0 (z0b HR1.out.rt (pg:Int));go_wp2_with (go_at_call 119;refine HGv.out.mono ?_;rintro e w5 ⟨rfl,ht,ho⟩;have HS5:=Z0 (HR1.out.setT ht ho);clear ht ho);refine⟨⟨pg+1,by congr 1,by omega,?_,HO1.out.trans HS5.out.2⟩,by simp[intOf] <;> omega⟩;rw[HGk.out,HUq.out,if_neg (by simp)];exact HS5.out.1
      ·have e:pg=n:=by omega
       subst e;have hfin:RfAt wr lo hi s pg cw co { st with S:=gkS pg { st with O:=O2 } pg,O:=O2 }:=by rw[hT1];exact hR
       have hI2:=HI2.out;rw[HOd.out] at hI2;have HTd:=Z0 (q4e hfin hI2);have HO:=Z0 hO;clear hR hO hT1 hfin hI2 hn2;go_wp2_with (go_at_call 120;refine HTd.out.mono ?_;rintro e w5 ⟨⟨v,rfl⟩,hR5,o5⟩);go_ret2;refine⟨HO.out.trans o5,.inl ⟨HOk.out,by rw[HFd.out];rfl,?_⟩⟩;rw[HOd.out];exact hR5
end
end Go.Proofs.YtjbbkeoolodeaabGreatDoor
