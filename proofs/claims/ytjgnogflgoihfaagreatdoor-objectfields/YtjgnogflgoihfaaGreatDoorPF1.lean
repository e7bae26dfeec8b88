import Derived.Test.YtjgnogflgoihfaaGreatDoorPF0
set_option linter.unusedSimpArgs false
set_option linter.unusedVariables false
set_option maxHeartbeats 16000000
set_option maxRecDepth 100000
namespace Go.Proofs.YtjgnogflgoihfaaGreatDoor
open Go.RowKit
theorem cut14 {P:Program} {Q:Exit->Go.Act->World->Prop} {x y:Code} {a:Go.Act} {w:World} (h1:∀ K:Go.Act->World->Prop,(∀ v76 v77 v78 v79 v80 v81 v82 v83 v84 v85 v86 v87 v88 v89 v90 v91 v92 v93 v94 v95 v96 v97 v98 v99 v100 v101 v102 v103 v104 v105:Value,K ((((((((((((((((((((((((((((((a.put (some 76) v76).put (some 77) v77).put (some 78) v78).put (some 79) v79).put (some 80) v80).put (some 81) v81).put (some 82) v82).put (some 83) v83).put (some 84) v84).put (some 85) v85).put (some 86) v86).put (some 87) v87).put (some 88) v88).put (some 89) v89).put (some 90) v90).put (some 91) v91).put (some 92) v92).put (some 93) v93).put (some 94) v94).put (some 95) v95).put (some 96) v96).put (some 97) v97).put (some 98) v98).put (some 99) v99).put (some 100) v100).put (some 101) v101).put (some 102) v102).put (some 103) v103).put (some 104) v104).put (some 105) v105) w)->x.wp P (Exit.then K Q) a w) (h2:∀ v76 v77 v78 v79 v80 v81 v82 v83 v84 v85 v86 v87 v88 v89 v90 v91 v92 v93 v94 v95 v96 v97 v98 v99 v100 v101 v102 v103 v104 v105:Value,y.wp P Q ((((((((((((((((((((((((((((((a.put (some 76) v76).put (some 77) v77).put (some 78) v78).put (some 79) v79).put (some 80) v80).put (some 81) v81).put (some 82) v82).put (some 83) v83).put (some 84) v84).put (some 85) v85).put (some 86) v86).put (some 87) v87).put (some 88) v88).put (some 89) v89).put (some 90) v90).put (some 91) v91).put (some 92) v92).put (some 93) v93).put (some 94) v94).put (some 95) v95).put (some 96) v96).put (some 97) v97).put (some 98) v98).put (some 99) v99).put (some 100) v100).put (some 101) v101).put (some 102) v102).put (some 103) v103).put (some 104) v104).put (some 105) v105) w):(Code.seq x y).wp P Q a w:=
 wp_seq (h1 _ fun v76 v77 v78 v79 v80 v81 v82 v83 v84 v85 v86 v87 v88 v89 v90 v91 v92 v93 v94 v95 v96 v97 v98 v99 v100 v101 v102 v103 v104 v105=>h2 v76 v77 v78 v79 v80 v81 v82 v83 v84 v85 v86 v87 v88 v89 v90 v91 v92 v93 v94 v95 v96 v97 v98 v99 v100 v101 v102 v103 v104 v105)
theorem q6d {w:World} (hT:Tab w) (n:Nat) (h1:1<=n) (h2:n<=4096):Calls Tryz.prog 11 #[.int .i64 n] w fun e w'=>∃ q:Q9,e=.returned (.tuple #[.pointer (some ⟨q.B,0,none⟩),.bool true])/\PB w' q newSp 0/\w'.heap[q.bk]? = some bk0/\w.heap.size<=q.lo/\q.n=n/\Out 0 0 w w':=
 (j3h hT n h1 h2).mono fun e w' ⟨B,hb,rb,bk,lo,hi,lo2,hi2,s,s2,cap,h1,h2,h3,h4,h5⟩=>⟨⟨B,hb,rb,bk,lo,hi,lo2,hi2,n,cap,64*n,64*n,s,s2⟩,h1,⟨h2,WI.new,by show (0:Int)<=_;omega⟩,h3,h4,rfl,h5⟩
theorem fits0 (p:Option Addr) (cp:Nat) (w:World):Kz 10 #[.slice p 0 cp] w fun e w'=>w'=w/\e=.returned (.bool true):=by
 go_enter Tryz.func10,Tryz.ntmps10
 go_wp2_with fail;go_loopw [3,4] (fun nv u wr=>u=Iz 0/\nv=Iz 0/\w=wr) (fun _ _ _=>0)
 case atStart=>exact⟨rfl,rfl,rfl⟩
 case round=>
  obtain⟨rfl,rfl,rfl⟩:=hrel;go_wp2;go_ret;exact⟨rfl,rfl⟩
theorem j9a {w:World} {b cp:Nat} {p:Option Addr} {os:List Op9} (h:OpsAt w b p os):Calls Tryz.prog 10 #[.slice p os.length cp] w fun e w'=>w'=w/\∃ x,e=.returned (.bool x)/\(x=true->∀ j o,os[j]? = some o->j<80->o.bs.length<=20000):=by
 rcases h.2 with rfl | ⟨g,cK,rfl,_,hc⟩
 ·exact(fits0 p cp w).mono fun e w' ⟨h1,h2⟩=>⟨h1,true,h2,fun _ j o hj=>by simp at hj⟩
 ·have oT:∀ i,i<os.length->∃ z:Option Addr × Nat × Nat,w.cell? ⟨g,cK+i*10+9,none⟩=some (.slice z.1 z.2.1 z.2.2)/\z.2.1<=4611686018427387904/\∀ o,os[i]? = some o->o.bs.length=z.2.1:=by
   intro i hi;obtain⟨pj,cj,_,_,_,_,_,_,_,_,_,c9,_⟩:=hc i os[i] (List.getElem?_eq_getElem hi);refine⟨(pj,os[i].bs.length,cj),by rw[Nat.add_assoc];exact c9,?_,fun o ho=>?_⟩
   ·have:=(h.1 os[i] (List.getElem_mem hi)).len;show os[i].bs.length<=_;omega
   ·rw[List.getElem?_eq_getElem hi] at ho;cases ho;rfl
  obtain⟨z,hz⟩:=Go.Deep.choose_lt oT;exact(q7c (tl:=fun i=>(z i).2.1) (tp:=fun i=>(z i).1) (tc:=fun i=>(z i).2.2) (fun i hi=>(hz i hi).1) (fun i hi=>(hz i hi).2.1)).mono fun e w' ⟨h1,x,h2,h3⟩=>⟨h1,x,h2,fun hx j o hj h80=>by
   have hl:=(List.getElem?_eq_some_iff.1 hj).1;rw[(hz j hl).2.2 o hj];exact h3 hx j hl h80⟩
theorem P2.go {w V V':World} {q1 q2:Q9} {eU eT:Sp} {c:Nat} (h:P2 w.heap.size V q1 q2 eU eT c) (o:Out 0 0 w V) (e:E9 q1 eU V V'):∃ st',P2 w.heap.size V' q1 q2 st' eT (c+1)/\Out 0 0 w V':=by
 obtain⟨st',hp⟩:=h.p1.next e;obtain⟨_,_,_,_,_,e5,_,_⟩:=e;exact⟨st',h.step hp e5 (by omega),o.trans' e5 h.b1⟩
theorem q2b {m:Int} (h:q9p m=true):∃ n:Nat,m=(n:Int)/\1<=n/\n<=4096:=by
 unfold q9p at h;have h1:1<=m/\m<=4096:=by simpa using h
 exact⟨m.toNat,by omega,by omega,by omega⟩
theorem plays_any {w:World} (hT:Tab w) {p:Option Addr} {os:List Op9} {cp:Nat} (hS:OpsAt w w.heap.size p os) (bZ:os.length<=9223372036854775807) (m1 m2 lo hi:Int) (oT:Bool) (hlh:∀ k,lo<=k->k<=hi->k<=5) :
  Kz 8 #[Vz m1 m2,.slice p os.length cp,Iz lo,Iz hi,.bool oT] w fun e w'=>e=.returned (.bool true)/\Out 0 0 w w':=by
 obtain⟨W0,bo,hW,dH,fP,oW,_⟩:=box1a w (Dz m1 m2 22);have HT:=Q3 hT;have HS:=Q3 hS;have HFi:=Q3 (fun V (o:Out 0 0 w V)=>j9a (cp:=cp) (hS.kept o (.inr rfl)));have HA:=Q3 (j3b (hT.quiet oW));have HLh:=Q3 hlh;have HO:=Q3 oW;have HfP:=Q3 fP;obtain⟨n,hn⟩:∃ n,os.length=n:=⟨_,rfl⟩
 have Hn:=Q3 hn;have n1:(n:Int)<=9223372036854775807:=by omega
 have n0:(0:Int)<=(n:Int):=by omega
 rw[hn] at HFi ⊢;clear hT hS hlh oW fP hn bZ;go_enter Tryz.func8,Tryz.ntmps8
 go_wp2_with fail;(try rw[hW]);(try rw[dH]);clear hW dH;refine HA.out.mono ?_;rintro e W1 ⟨rfl,o1⟩;have bM:=Q3 (HO.out.trans o1);have HfP1:=Q3 (o1.heap HfP.out z0);clear o1 HA HO HfP;go_wp2_with fail;refine(HFi.out _ bM.out).mono ?_;rintro e W2 ⟨rfl,x,rfl,hx⟩;cases x with
 | false=>
  clear hx;go_wp2;go_ret;exact⟨rfl,bM.out⟩
 | true=>
  have HX:=Q3 (hx rfl);clear hx HFi;obtain⟨c0,c1,_,_⟩:=flt_facts HfP1.out;cases hn1:q9p m1 with
  | false=>
   go_wp2_with fail;refine Q4 (q1k m1 hn1 _) ?_;clear hn1 c0;cases hn2:q9p m2 with
   | false=>
    go_wp2_with fail;refine Q4 (q1k m2 hn2 _) ?_;clear hn2 c1;go_wp2;go_ret;exact⟨rfl,bM.out⟩
   | true=>
    obtain⟨k2,rfl,k21,k22⟩:=q2b hn2;go_wp2_with fail;refine(q6d (HT.out.quiet bM.out) k2 k21 k22).mono ?_;rintro e W3 ⟨q2,rfl,_,_,_,_,o3⟩;have bU:=Q3 (bM.out.trans o3);clear hn2 c1 o3;go_wp2;go_ret;exact⟨rfl,bU.out⟩
  | true=>
   obtain⟨k1,rfl,k11,k12⟩:=q2b hn1;go_wp2_with fail;refine(q6d (HT.out.quiet bM.out) k1 k11 k12).mono ?_;rintro e W3 ⟨q1,rfl,p1,b1,l1,e1,o3⟩;have bU:=Q3 (bM.out.trans o3);have HP1:=Q3 (And.intro p1 (And.intro b1 (And.intro l1 e1)));have HfP3:=Q3 (o3.heap HfP1.out z0);clear hn1 c0 c1 p1 b1 l1 e1 o3 HfP1;obtain⟨c0,c1,_,_⟩:=flt_facts HfP3.out;cases hn2:q9p m2 with
   | false=>
    go_wp2_with fail;refine Q4 (q1k m2 hn2 _) ?_;clear hn2;go_wp2;go_ret;exact⟨rfl,bU.out⟩
   | true=>
    obtain⟨k2,rfl,k21,k22⟩:=q2b hn2;go_wp2_with fail;refine(q6d (HT.out.quiet bU.out) k2 k21 k22).mono ?_;rintro e W4 ⟨q2,rfl,p2,b2,l2,e2,o4⟩;have bJ:=Q3 (bU.out.trans o4);have HP:Hid (P2 w.heap.size W4 q1 q2 newSp newSp 0):=by
     obtain⟨p1,b1,l1,_⟩:=HP1.out;have t1:=p1.tops;exact⟨p1.quiet o4,p2,o4.heap b1 z0,b2,.inl (by omega),Nat.le_trans bM.out.size l1,Nat.le_trans bU.out.size l2⟩
    have HN:Hid (q1.n=k1/\q2.n=k2):=⟨HP1.out.2.2.2,e2⟩
    have f4:=o4.heap HfP3.out z0;clear hn2 c0 c1 p2 b2 l2 e2 o4 HP1 HfP3 bM bU;obtain⟨c0,c1,_,_⟩:=flt_facts f4;clear f4;by_cases h4:(k1:Int)<=4
    ·by_cases h5:(k2:Int)<=4
     ·have HN4:Hid (q1.n<=4/\q2.n<=4):=⟨by rw[HN.out.1];omega,by rw[HN.out.2];omega⟩
      go_wp2_with fail;clear c0 c1 h4 h5 k11 k12 k21 k22;have jG:Hid (∀ V eU eT c,P2 w.heap.size V q1 q2 eU eT c->Kz 13 #[Pq q1.B] V fun e w'=>e=.returned (.bool true)/\Out 0 0 V w'):=fun V eU eT c h=>z7e h.p1 HN4.out.1
      have HWe:Hid (∀ V eU eT c,P2 w.heap.size V q1 q2 eU eT c->Kz 13 #[Pq q2.B] V fun e w'=>e=.returned (.bool true)/\Out 0 0 V w'):=fun V eU eT c h=>z7e h.p2 HN4.out.2
      go_loopw [16] (fun u wr=>∃ (i:Nat) (eU eT:Sp),u=Iz (i:Int)/\i<=n/\i<=80/\P2 w.heap.size wr q1 q2 eU eT i/\Out 0 0 w wr) (fun u _=>80-(intOf u).toNat)
      case atStart=>exact⟨0,newSp,newSp,rfl,Nat.zero_le _,Nat.zero_le _,HP.out,bJ.out⟩
      case round=>
       obtain⟨i,eU,eT,rfl,i1,i2,hp,ho⟩:=hrel;have i0:(0:Int)<=(i:Int):=by omega
       have i4:(i:Int)<=80:=by omega
       by_cases bQ:i<n/\i<80
       ·have j1:(i:Int)<(n:Int):=by omega
        have j2:(i:Int)<80:=by omega
        obtain⟨o,dZ⟩:∃ o,os[i]? = some o:=⟨_,List.getElem?_eq_getElem (by have:=Hn.out;omega)⟩
        have eW:=HS.out.1 o (List.mem_of_getElem? dZ);have hbl:=HX.out i o dZ (by omega);obtain⟨pp,pj,cj,hpp,hBy,hcells⟩:∃ (pp:Nat × Nat) (pj:Option Addr) (cj:Nat),p=some ⟨pp.1,pp.2,none⟩/\ByIn wr w.heap.size pj o.bs/\(cq wr pp.1 (pp.2+i*10)=some (Iz o.who)/\cq wr pp.1 (pp.2+i*10+1)=some (Iz o.kind)/\cq wr pp.1 (pp.2+i*10+2)=some (Iz o.a)/\cq wr pp.1 (pp.2+i*10+3)=some (Iz o.b)/\cq wr pp.1 (pp.2+i*10+4)=some (Iz o.c)/\cq wr pp.1 (pp.2+i*10+5)=some (Iz o.v1)/\cq wr pp.1 (pp.2+i*10+6)=some (Iz o.v2)/\cq wr pp.1 (pp.2+i*10+7)=some (Iz o.w1)/\cq wr pp.1 (pp.2+i*10+8)=some (Iz o.w2)/\cq wr pp.1 (pp.2+i*10+9)=some (.slice pj o.bs.length cj)):=by
         rcases (HS.out.kept ho (.inr rfl)).2 with e | ⟨g,cK,e,_,hc⟩
         ·rw[e] at dZ;simp at dZ
         ·obtain⟨pj,cj,c0,c1,c2,c3,c4,c5,c6,c7,c8,c9,c10⟩:=hc i o dZ;exact⟨(g,cK),pj,cj,e,c10,c0,by rw[Nat.add_assoc];exact c1,by rw[Nat.add_assoc];exact c2,by rw[Nat.add_assoc];exact c3,by rw[Nat.add_assoc];exact c4,by rw[Nat.add_assoc];exact c5,by rw[Nat.add_assoc];exact c6,by rw[Nat.add_assoc];exact c7,by rw[Nat.add_assoc];exact c8,by rw[Nat.add_assoc];exact c9⟩
        obtain⟨g,cK⟩:=pp;subst hpp;obtain⟨c0,c1,c2,c3,c4,c5,c6,c7,c8,c9⟩:=hcells;dsimp only at c0 c1 c2 c3 c4 c5 c6 c7 c8 c9;obtain⟨who,kd,oa,ob,oc,ov1,ov2,ow1,ow2,bs⟩:=o;dsimp only at c0 c1 c2 c3 c4 c5 c6 c7 c8 c9 hBy hbl;have hk64:=eW;obtain⟨V,gb,hV,bD,fO,oV,_⟩:=box1a wr (.cells #[Iz who,Iz kd,Iz oa,Iz ob,Iz oc,Iz ov1,Iz ov2,Iz ow1,Iz ow2,.slice pj bs.length cj] 35);have hpV:=hp.quiet oV;have hoV:=ho.trans oV;have HS1:Hid ((kd<=5\/kd=7\/20<=kd)->Kz 12 #[Pq q1.B,.agg #[Iz who,Iz kd,Iz oa,Iz ob,Iz oc,Iz ov1,Iz ov2,Iz ow1,Iz ow2,.slice pj bs.length cj]] V fun e w'=>e=.returned (.bool true)/\∃ st',P2 w.heap.size w' q1 q2 st' eT (i+1)/\Out 0 0 w w'):=fun hk=>
         (j0h hpV.p1 HN4.out.1 (by have:=hpV.p1.last;omega) eW.b eW.c eW.v1 eW.v2 eW.w1 eW.w2 (hBy.kept oV (.inr rfl)) hpV.b1 (by omega) hk).mono fun e w' ⟨h1,h2⟩=>⟨h1,hpV.go hoV h2⟩
        have oH:Hid ((kd<=5\/kd=7\/20<=kd)->Kz 12 #[Pq q2.B,.agg #[Iz who,Iz kd,Iz oa,Iz ob,Iz oc,Iz ov1,Iz ov2,Iz ow1,Iz ow2,.slice pj bs.length cj]] V fun e w'=>e=.returned (.bool true)/\∃ st',P2 w.heap.size w' q1 q2 eU st' (i+1)/\Out 0 0 w w'):=fun hk=>
         (j0h hpV.p2 HN4.out.2 (by have:=hpV.p2.last;omega) eW.b eW.c eW.v1 eW.v2 eW.w1 eW.w2 (hBy.kept oV (.inr rfl)) hpV.b2 (by omega) hk).mono fun e w' ⟨h1,h2⟩=>⟨h1,by
          obtain⟨st',h3,h4⟩:=hpV.swap.go hoV h2;exact⟨st',h3.swap,h4⟩⟩
        have HEn:Hid (∃ eU eT,P2 w.heap.size V q1 q2 eU eT (i+1)/\Out 0 0 w V):=⟨eU,eT,⟨hpV.p1.mono (by omega),hpV.p2.mono (by omega),hpV.k1,hpV.k2,hpV.ap,hpV.b1,hpV.b2⟩,hoV⟩
        obtain⟨x0,x1,x2,x3,x4,x5,x6,x7,x8,x9⟩:=j2o fO;clear hp ho dZ eW hk64 hbl hBy fO oV hpV hoV HP;obtain⟨t,ht⟩:∃ t,bits .and .i64 who 1=t:=⟨_,rfl⟩
        obtain⟨s1,s2,hen⟩:=HEn.out;clear HEn;have HEn:=Q3 hen;clear hen;apply wp_seq_k;intro K1 hK1;have HK1:=Q3 hK1;clear hK1;go_wp2_with fail;refine HK1.out _ _ ?_;clear HK1;apply wp_seq_k;intro K2 hK2;have HK2:=Q3 hK2;clear hK2;apply wp_block;apply wp_seq_k;intro K3 hK3;have HK3:=Q3 hK3;clear hK3;go_wp2_with fail;(try rw[hV]);(try rw[bD]);refine HK3.out _ _ ?_;clear HK3 hV bD c0 c1 c2 c3 c4 c5 c6 c7 c8 c9;by_cases skp:(2<kd/\kd<20/\kd ≠ 5/\kd ≠ 7)/\(kd<lo\/hi<kd)
        ·obtain⟨⟨a2,a4,a5,a7⟩,a9⟩:=skp;clear HS1 oH jG HWe x0 x2 x3 x4 x5 x6 x7 x8 x9;have a6:(kd != 5)=true:=by simp[a5]
         have a8:(kd != 7)=true:=by simp[a7]
         by_cases a10:kd<lo
         ·go_wp2;refine HK2.out _ _ ?_;go_wp2;exact⟨⟨i+1,s1,s2,by first | rfl | simp,by omega,by omega,HEn.out.1,HEn.out.2⟩,by simp[intOf] <;> omega⟩
         have a11:hi<kd:=by omega
         go_wp2;refine HK2.out _ _ ?_;go_wp2;exact⟨⟨i+1,s1,s2,by first | rfl | simp,by omega,by omega,HEn.out.1,HEn.out.2⟩,by simp[intOf] <;> omega⟩
        refine cut14 ?_ ?_
        ·intro K hK0;(try simp only[Act.put,List.getElem_toArray,List.getElem_cons_zero,List.getElem_cons_succ,List.setIfInBounds_toArray,List.set_cons_zero,List.set_cons_succ] at hK0);have HK:=Q3 hK0;clear hK0 HK2 HEn HS1 oH jG HWe x0 x2 x3 x4 x5 x6 x7 x8 x9;by_cases a1:kd<=2
         ·have a2:¬ (2:Int)<kd:=by omega
          go_wp2;exact HK.out _ _ _ _ _ _ _ _ _ _ _ _ _ _ _ _ _ _ _ _ _ _ _ _ _ _ _ _ _ _
         have a2:(2:Int)<kd:=by omega
         by_cases a3:20<=kd
         ·have a4:¬ kd<20:=by omega
          go_wp2;exact HK.out _ _ _ _ _ _ _ _ _ _ _ _ _ _ _ _ _ _ _ _ _ _ _ _ _ _ _ _ _ _
         have a4:kd<20:=by omega
         by_cases a5:kd=5
         ·have a6:(kd != 5)=false:=by simp[a5]
          clear a5 a1 a3 skp;go_wp2;exact HK.out _ _ _ _ _ _ _ _ _ _ _ _ _ _ _ _ _ _ _ _ _ _ _ _ _ _ _ _ _ _
         have a6:(kd != 5)=true:=by simp[a5]
         by_cases a7:kd=7
         ·have a8:(kd != 7)=false:=by simp[a7]
          clear a7 a1 a3 skp;go_wp2;exact HK.out _ _ _ _ _ _ _ _ _ _ _ _ _ _ _ _ _ _ _ _ _ _ _ _ _ _ _ _ _ _
         have a8:(kd != 7)=true:=by simp[a7]
         have a9:¬ kd<lo:=by omega
         have a10:¬ hi<kd:=by omega
         go_wp2;exact HK.out _ _ _ _ _ _ _ _ _ _ _ _ _ _ _ _ _ _ _ _ _ _ _ _ _ _ _ _ _ _
        intro v76 v77 v78 v79 v80 v81 v82 v83 v84 v85 v86 v87 v88 v89 v90 v91 v92 v93 v94 v95 v96 v97 v98 v99 v100 v101 v102 v103 v104 v105;(try simp only[Act.put,xa,xb,xc,xd,xe,xf]);have HKd:Hid (kd<=5\/kd=7\/20<=kd):=by
         show _\/_
         by_cases b1:kd<=2\/kd=5\/kd=7\/20<=kd
         ·omega
         ·have:=HLh.out kd (by omega) (by omega);omega
        clear skp;by_cases ht1:t=1
        ·subst ht1;clear HS1;go_wp2_with fail;refine(oH.out HKd.out).mono ?_;rintro e V1 ⟨rfl,st',h1,h2⟩;have H1:=Q3 (And.intro h1 h2);clear h1 h2 x0 x1 x2 x3 x4 x5 x6 x7 x8 x9;cases oT with
         | false=>
          go_wp2;refine HK2.out _ _ ?_;go_wp2;exact⟨⟨i+1,_,_,by first | rfl | simp,by omega,by omega,H1.out.1,H1.out.2⟩,by simp[intOf] <;> omega⟩
         | true=>
          go_wp2_with fail;refine(HWe.out _ _ _ _ H1.out.1).mono ?_;rintro e V2 ⟨rfl,o2⟩;have H2:=Q3 (And.intro (H1.out.1.quiet o2) (H1.out.2.trans o2));clear o2;go_wp2;refine HK2.out _ _ ?_;go_wp2;exact⟨⟨i+1,_,_,by first | rfl | simp,by omega,by omega,H2.out.1,H2.out.2⟩,by simp[intOf] <;> omega⟩
        have ht2:(t == 1)=false:=by simp[ht1]
        clear oH;go_wp2_with fail;refine(HS1.out HKd.out).mono ?_;rintro e V1 ⟨rfl,st',h1,h2⟩;have H1:=Q3 (And.intro h1 h2);clear h1 h2 x0 x1 x2 x3 x4 x5 x6 x7 x8 x9;cases oT with
        | false=>
         go_wp2;refine HK2.out _ _ ?_;go_wp2;exact⟨⟨i+1,_,_,by first | rfl | simp,by omega,by omega,H1.out.1,H1.out.2⟩,by simp[intOf] <;> omega⟩
        | true=>
         go_wp2_with fail;refine(jG.out _ _ _ _ H1.out.1).mono ?_;rintro e V2 ⟨rfl,o2⟩;have H2:=Q3 (And.intro (H1.out.1.quiet o2) (H1.out.2.trans o2));clear o2;go_wp2;refine HK2.out _ _ ?_;go_wp2;exact⟨⟨i+1,_,_,by first | rfl | simp,by omega,by omega,H2.out.1,H2.out.2⟩,by simp[intOf] <;> omega⟩
       ·have HE:=Q3 (And.intro hp ho);clear hp ho;have fin:Hid (∀ V,P2 w.heap.size V q1 q2 eU eT i->cq V q1.B 2=some (Pq q1.bk)/\cq V q2.B 2=some (Pq q2.bk)):=fun V h=>⟨h.p1.cells.2.2,h.p2.cells.2.2⟩
        by_cases j1:(i:Int)<(n:Int)
        ·have j2:¬ (i:Int)<80:=by omega
         go_wp2_with fail;refine(jG.out _ _ _ _ HE.out.1).mono ?_;rintro e V1 ⟨rfl,o1⟩;have kZ:=Q3 (And.intro (HE.out.1.quiet o1) (HE.out.2.trans o1));clear o1 HE;go_wp2_with fail;refine(HWe.out _ _ _ _ kZ.out.1).mono ?_;rintro e V2 ⟨rfl,o2⟩;have HE2:=Q3 (And.intro (kZ.out.1.quiet o2) (kZ.out.2.trans o2));obtain⟨z1,z2⟩:=fin.out _ (kZ.out.1.quiet o2);clear o2 kZ;go_wp2_with fail;refine(q8w HE2.out.1.k1).mono ?_;rintro e V3 ⟨rfl,o3⟩;have HE3:=Q3 (And.intro (HE2.out.1.quiet o3) (HE2.out.2.trans o3));clear z1 HE2;replace z2:=o3.cell z2 z0;clear o3;go_wp2_with fail;refine(q8w HE3.out.1.k2).mono ?_;rintro e V4 ⟨rfl,o4⟩;have HE4:=Q3 (HE3.out.2.trans o4);clear o4 z2 HE3;go_wp2;go_ret;exact⟨rfl,HE4.out⟩
        ·skip
         go_wp2_with fail;refine(jG.out _ _ _ _ HE.out.1).mono ?_;rintro e V1 ⟨rfl,o1⟩;have kZ:=Q3 (And.intro (HE.out.1.quiet o1) (HE.out.2.trans o1));clear o1 HE;go_wp2_with fail;refine(HWe.out _ _ _ _ kZ.out.1).mono ?_;rintro e V2 ⟨rfl,o2⟩;have HE2:=Q3 (And.intro (kZ.out.1.quiet o2) (kZ.out.2.trans o2));obtain⟨z1,z2⟩:=fin.out _ (kZ.out.1.quiet o2);clear o2 kZ;go_wp2_with fail;refine(q8w HE2.out.1.k1).mono ?_;rintro e V3 ⟨rfl,o3⟩;have HE3:=Q3 (And.intro (HE2.out.1.quiet o3) (HE2.out.2.trans o3));clear z1 HE2;replace z2:=o3.cell z2 z0;clear o3;go_wp2_with fail;refine(q8w HE3.out.1.k2).mono ?_;rintro e V4 ⟨rfl,o4⟩;have HE4:=Q3 (HE3.out.2.trans o4);clear o4 z2 HE3;go_wp2;go_ret;exact⟨rfl,HE4.out⟩
     ·have h5':(4:Int)<(k2:Int):=by omega
      go_wp2;go_ret;exact⟨rfl,bJ.out⟩
    ·have h4':(4:Int)<(k1:Int):=by omega
     go_wp2;go_ret;exact⟨rfl,bJ.out⟩
end Go.Proofs.YtjgnogflgoihfaaGreatDoor
