import Derived.Test.YtjgnogflgoihfaaGreatDoorP13
namespace Go.Proofs.YtjgnogflgoihfaaGreatDoor
open Go.RowKit
set_option linter.unusedVariables false
set_option maxRecDepth 100000
set_option maxHeartbeats 16000000
set_option linter.unusedSimpArgs false
def mtC (n:Nat) (a:Int) (W:Nat->Int) (bs:List Int):Nat->Nat->Int
 | 0=>F8 n W (a+1) bs.length
 | j+1=>F8 n (mtC n a W bs j) (a+2+j) (wrap64 (pkU ((bs.drop (8*j)).take 8)))
def mtW (n:Nat) (a:Int) (W:Nat->Int) (bs:List Int):Nat->Int:=mtC n a W bs ((bs.length+7) / 8)
section
variable {w:World} {lo hi hb:Nat} {s:Nat->Nat} {n cap:Nat} {st:Sp}
theorem q6v (h:SpAt w lo hi s n cap st) (hH:cq w hb 0=some (Pq (s 14))) (hout:hb<lo\/hi<=hb) {p:Option Addr} {bs:List Int} {cb:Nat} (hB:z1u w p bs) (hcb:bs.length<=cb) (hpo:∀ g cX,p=some ⟨g,cX,none⟩->g<lo\/hi<=g) (qM:bs.length<=4096) {z a fa:Int} (hz:U9 4 bs.length=true) (hzv:U2 4 bs.length=z) (z1:-9223372036854775808<=z) (z2:z<=9223372036854775807) (hl:st.last<4611686018427387904) (ha:(alF n st 4 z 0).1=a) (he:(alF n st 4 z 0).2.1=0) (hf:(alF n st 4 z 0).2.2.1=fa) {b1 b2 b3 b4:Int} (hM:(J0 n (alF n st 4 z 0).2.2.2).M a=some (b1,b2,b3,b4)) :
  Kz 64 #[Pq hb,.slice p bs.length cb] w fun e w'=>e=.returned (.tuple #[Vz 2 a,Vz 0 0])/\SpAt w' lo hi s n cap (z1y (alF n st 4 z 0).2.2.2 (mtW n a (alF n st 4 z 0).2.2.2.W bs))/\Out lo hi w w':=by
 have pM:∀ (fn:Fn) (first cap:Array Value) (w:World),(Instr.makeFunc fn first cap).run Tryz.prog w=.ok (.func fn first cap) w:=fun _ _ _ _=>rfl
 have Hh:=Q3 h;have fR:=Q3 (J3 (w:=w) (o:=Dz 0 0 32) (o2:=Dz 0 0 46));have fF:=Q3 (J7 (w:=w) (o:=Dz 0 0 32) (o2:=Dz 0 0 46));have HO:=Q3 (((Out.refl 0 0 w).alloc (Dz 0 0 32)).alloc (Dz 0 0 46));obtain⟨gv,aR⟩:∃ g,w.heap.size=g:=⟨_,rfl⟩
 have bD:=Q3 aR;obtain⟨V1,gX⟩:∃ V,(w.alloc (Dz 0 0 32)).alloc (Dz 0 0 46)=V:=⟨_,rfl⟩
 rw[gX,aR] at fR fF;rw[gX] at HO;have mF:=HO.out.cell hH z0;have HH1:=Q3 mF;have fK:=Q3 hout;have HBy:=Q3 (And.intro hB hpo);have hli:(bs.length:Int)<=4096:=by omega
 clear h hH hout hB hpo;have HTk:=Q3 (j8c (Hh.out.quiet HO.out) mF fK.out 4 bs.length 0 hz hzv z1 z2 hl ha he hf hM);have Ha:Hid (∀ V,SpAt V lo hi s n cap (alF n st 4 z 0).2.2.2->0<=a/\a+b2<=64*n/\1<=b2/\b2<=1024/\n<=4096):=fun V hV=>by
  have q:=H7 hV.2 a _ hM;exact⟨q.1,q.2.1,q.2.2.1,q.2.2.2,hV.1.n2⟩
 generalize (alF n st 4 z 0).2.2.2=S2 at *
 clear hz hzv z1 z2 hl ha he hf hM mF;go_enter_defers Tryz.func64,Tryz.ntmps64
 go_wp2_with fail;(try rw[gX]);(try rw[aR]);clear gX aR;refine(U3 _ _).mono ?_;rintro e w5 ⟨rfl,he⟩;rw[he];clear he w5;go_wp2_with fail;refine HTk.out.mono ?_;rintro e X3 ⟨rfl,S3,q3⟩;replace Ha:=Q3 (Ha.out X3 S3);obtain⟨gb,bG⟩:∃ g,X3.heap.size=g:=⟨_,rfl⟩
 obtain⟨V4,cG⟩:∃ V,X3.alloc (Ez a b1 b2 b3 b4 81)=V:=⟨_,rfl⟩
 have o4:Out 0 0 X3 V4:=by rw[<-cG];exact(Out.refl 0 0 _).alloc _
 have f4:V4.heap[gb]? = some (Ez a b1 b2 b3 b4 81):=by rw[<-cG,<-bG];exact heap_alloc_new _ _
 have cU:Hid (hi<=gb):=by have h1:=S3.1.top;rw[<-bG];exact h1
 have nI:=Q3 f4;have HS4:=Q3 (S3.quiet o4);have HQ1:=Q3 (q3.trans (o4.any lo hi));obtain⟨y0,y1,y2,y3,y4,y5⟩:=W7 f4;have y6:=HQ1.out.cell HH1.out fK.out;have mD:IntKind.i64.wrap (a+1)=a+1:=by have h2:=Ha.out;rw[IntKind.wrap_i64];omega
 clear S3 q3 o4 f4;go_wp2_with fail;(try rw[cG]);(try rw[bG]);clear cG bG;refine wp_region_held_drew (S:=fun w'=>cq w' hb 0=some (Pq (s 14))/\cq w' gb 0=some (Iz a)) (by kernel_rfl) ?hS61 (fun aB=>?rest61)
 case hS61=>exact⟨y6,y0⟩
 obtain⟨Z0,hZ⟩:∃ Z,V4.drew=Z:=⟨_,rfl⟩
 have O:Out 0 0 V4 Z0:=by rw[<-hZ];exact(Out.refl 0 0 _).drew
 rw[hZ] at aB ⊢;clear hZ;refine wpAnyH_take (i:=0) (v:=?v62) rfl (by kernel_rfl) (by kernel_rfl) (by kernel_rfl) (fun _ _ _ h=>Q6 (Q7 Tryz.results64 (by decide) (by decide) _ _) _ _ _ h) (Or.inl ⟨by rfl,?hy62⟩) (by assumption) ?rest62
 case hy62=>(intro w aW;(try dsimp only at aW);simp only[xa,xb,xc];go_simp;(try with_reducible rfl))
 (try simp only[Act.put,xa,xb,xc,xd,xe,xf]);refine wpAnyH_take (i:=1) (v:=?v63) rfl (by kernel_rfl) (by kernel_rfl) (by kernel_rfl) (fun _ _ _ h=>Q6 (Q7 Tryz.results64 (by decide) (by decide) _ _) _ _ _ h) (Or.inl ⟨by rfl,?hy63⟩) (by assumption) ?rest63
 case hy63=>(intro w aW;(try dsimp only at aW);simp only[xa,xb,xc];go_simp;(try with_reducible rfl))
 (try simp only[Act.put,xa,xb,xc,xd,xe,xf]);refine wpAnyH_take (i:=2) (v:=?v64) rfl (by kernel_rfl) (by kernel_rfl) (by kernel_rfl) (fun _ _ _ h=>Q6 (Q7 Tryz.results64 (by decide) (by decide) _ _) _ _ _ h) (Or.inl ⟨by rfl,?hy64⟩) (by assumption) ?rest64
 case hy64=>(intro w aW;(try dsimp only at aW);simp only[xa,xb,xc];go_simp;(try with_reducible rfl))
 (try simp only[Act.put,xa,xb,xc,xd,xe,xf]);refine wpAnyH_take (i:=3) (v:=?v65) rfl (by kernel_rfl) (by kernel_rfl) (by kernel_rfl) (fun _ _ _ h=>Q6 (Q7 Tryz.results64 (by decide) (by decide) _ _) _ _ _ h) (Or.inl ⟨by rfl,?hy65⟩) (by assumption) ?rest65
 case hy65=>(intro w aW;(try dsimp only at aW);simp only[xa,xb,xc];go_simp;(try with_reducible rfl))
 (try simp only[Act.put,xa,xb,xc,xd,xe,xf]);refine wpAnyH_take (i:=4) (v:=?v66) rfl (by kernel_rfl) (by kernel_rfl) (by kernel_rfl) (fun _ _ _ h=>Q6 (Q7 Tryz.results64 (by decide) (by decide) _ _) _ _ _ h) (Or.inl ⟨by rfl,?hy66⟩) (by assumption) ?rest66
 case hy66=>(intro w aW;(try dsimp only at aW);simp only[xa,xb,xc];go_simp;(try with_reducible rfl))
 (try simp only[Act.put,xa,xb,xc,xd,xe,xf]);refine wpAnyH_take (i:=5) (v:=?v67) rfl (by kernel_rfl) (by kernel_rfl) (by kernel_rfl) (fun _ _ _ h=>Q6 (Q7 Tryz.results64 (by decide) (by decide) _ _) _ _ _ h) (Or.inl ⟨by rfl,?hy67⟩) (by assumption) ?rest67
 case hy67=>(intro w aW;(try dsimp only at aW);simp only[xa,xb,xc];go_simp;(try with_reducible rfl))
 (try simp only[Act.put,xa,xb,xc,xd,xe,xf]);refine wpAnyH_take (i:=6) (v:=?v68) rfl (by kernel_rfl) (by kernel_rfl) (by kernel_rfl) (fun _ _ _ h=>Q6 (Q7 Tryz.results64 (by decide) (by decide) _ _) _ _ _ h) (Or.inl ⟨by rfl,?hy68⟩) (by assumption) ?rest68
 case hy68=>(intro w aW;(try dsimp only at aW);simp only[xa,xb,xc];go_simp;(try with_reducible rfl))
 (try simp only[Act.put,xa,xb,xc,xd,xe,xf]);refine wpAnyH_take (i:=7) (v:=?v69) rfl (by kernel_rfl) (by kernel_rfl) (by kernel_rfl) (fun _ _ _ h=>Q6 (Q7 Tryz.results64 (by decide) (by decide) _ _) _ _ _ h) (Or.inl ⟨by rfl,?hy69⟩) (by assumption) ?rest69
 case hy69=>(intro w aW;(try dsimp only at aW);simp only[xa,xb,xc];go_simp;(try with_reducible rfl))
 (try simp only[Act.put,xa,xb,xc,xd,xe,xf]);refine wpAnyH_take (i:=8) (v:=?v70) rfl (by kernel_rfl) (by kernel_rfl) (by kernel_rfl) (fun _ _ _ h=>Q6 (Q7 Tryz.results64 (by decide) (by decide) _ _) _ _ _ h) (Or.inl ⟨by rfl,?hy70⟩) (by assumption) ?rest70
 case hy70=>(intro w aW;(try dsimp only at aW);simp only[xa,xb,xc];go_simp;(try with_reducible rfl))
 refine rd1 9 fun KK hK=>?_
 simp only[xa,xb,xc];go_simp;refine(z5t (HS4.out.quiet O) (a+1) (bs.length:Int)).mono ?_;rintro e X6 ⟨rfl,P6,q6⟩;refine hK.out _ _ ⟨q6.cell aB.1 fK.out,q6.cell aB.2 (.inr cU.out)⟩ fun aB=>?_
 clear hK KK;refine dn ?_;have HS6:=Q3 P6;have HQ6:=Q3 ((O.any lo hi).trans q6);clear aB P6 q6 O y0 y1 y2 y3 y4 y5 y6;go_wp2_with fail;go_loopw [7] (fun y wr=>∃ j:Nat,8*j<=bs.length+7/\y=Iz ((8*j:Nat):Int)/\SpAt wr lo hi s n cap (z1y S2 (mtC n a S2.W bs j))/\Out lo hi X6 wr) (fun y _=>bs.length+8-(intOf y).toNat)
 case atStart=>exact⟨0,by omega,rfl,HS6.out,Out.refl _ _ _⟩
 case round=>
  obtain⟨j,j1,rfl,hS,hO⟩:=hrel;have dR:=Q3 (And.intro hS hO);clear hS hO;by_cases hj:8*j<bs.length
  ·have b1':((8*j:Nat):Int)<(bs.length:Int):=by omega
   have b0:(0:Int)<=((8*j:Nat):Int):=by omega
   have hHq:=HQ1.out.trans (HQ6.out.trans dR.out.2);obtain⟨y0,_,_,_,_,_⟩:=W7 ((HQ6.out.trans dR.out.2).heap nI.out (.inr cU.out));have y6:=hHq.cell HH1.out fK.out;rcases HBy.out.1.2 with e | ⟨g,cX,rfl,hc⟩
   ·rw[e] at hj;simp at hj
   have oQ:=HBy.out.2 g cX rfl;have hci:(bs.length:Int)<=(cb:Int):=by omega
   obtain⟨i,hi8⟩:∃ i,8*j=i:=⟨_,rfl⟩
   rw[hi8] at b1' b0 ⊢;have bi:(i:Int)<=4096:=by omega
   have Hi8:=Q3 hi8;have hwr2:IntKind.i64.wrap (a+2)=a+2:=by have h2:=Ha.out;rw[IntKind.wrap_i64];omega
   have hwr3:IntKind.i64.wrap (a+2+(j:Int))=a+2+(j:Int):=by have h2:=Ha.out;rw[IntKind.wrap_i64];omega
   have hq8:Int.tdiv (i:Int) 8=(j:Int):=by rw[Int.tdiv_eq_ediv_of_nonneg (by omega)];omega
   have hwj:IntKind.i64.wrap (j:Int)=(j:Int):=by rw[IntKind.wrap_i64];omega
   have HC:Hid (∀ X,Out 0 0 wr X->z1u X (some ⟨g,cX+i,none⟩) ((bs.drop i).take 8)):=fun X o=>by
    refine⟨fun b hb=>HBy.out.1.1 b (List.mem_of_mem_drop (List.mem_of_mem_take hb)),.inr ⟨g,cX+i,rfl,fun k b hk=>?_⟩⟩;have hk':bs[i+k]? = some b:=by
     rw[List.getElem?_take] at hk;split at hk
     ·rwa [List.getElem?_drop] at hk
     ·cases hk
    have h1:=hc (i+k) b hk';rw[<-Nat.add_assoc] at h1;exact o.cell (hHq.cell (HO.out.cell h1 z0) oQ) z0
   have cJ:((bs.drop i).take 8).length=min 8 (bs.length-i):=by simp
   obtain⟨L,hL⟩:∃ L,((bs.drop i).take 8).length=L:=⟨_,rfl⟩
   have HPk:Hid (∀ X,Out 0 0 wr X->Kz 121 #[.slice (some ⟨g,cX+i,none⟩) L (cb-i)] X fun e w'=>e=.returned (Iz (wrap64 (pkU ((bs.drop i).take 8))))/\w'=X):=fun X o=>by
    have h:=x0y (cap:=cb-i) (HC.out X o) (by rw[cJ];omega);rw[hL] at h;exact h
   rw[hL] at cJ;clear HC hc hHq hL hi8;by_cases hm:(i:Int)+8<=(bs.length:Int)
   ·have hLa:i+8-i=L:=by omega
    clear cJ;go_wp2_with fail;(try rw[hLa]);clear hLa;refine wp_region_held_drew (S:=fun w'=>cq w' hb 0=some (Pq (s 14))/\cq w' gb 0=some (Iz a)) (by kernel_rfl) ?hS72 (fun aB=>?rest72)
    case hS72=>exact⟨y6,y0⟩
    obtain⟨Z0,hZ⟩:∃ Z,wr.drew=Z:=⟨_,rfl⟩
    have O:Out 0 0 wr Z0:=by rw[<-hZ];exact(Out.refl 0 0 _).drew
    rw[hZ] at aB ⊢;clear hZ;refine wpAnyH_take (i:=0) (v:=?v73) rfl (by kernel_rfl) (by kernel_rfl) (by kernel_rfl) (fun _ _ _ h=>Q6 (Q7 Tryz.results64 (by decide) (by decide) _ _) _ _ _ h) (Or.inl ⟨by rfl,?hy73⟩) (by assumption) ?rest73
    case hy73=>(intro w aW;(try dsimp only at aW);simp only[xa,xb,xc];go_simp;(try with_reducible rfl))
    (try simp only[Act.put,xa,xb,xc,xd,xe,xf]);refine wpAnyH_take (i:=1) (v:=?v74) rfl (by kernel_rfl) (by kernel_rfl) (by kernel_rfl) (fun _ _ _ h=>Q6 (Q7 Tryz.results64 (by decide) (by decide) _ _) _ _ _ h) (Or.inl ⟨by rfl,?hy74⟩) (by assumption) ?rest74
    case hy74=>(intro w aW;(try dsimp only at aW);simp only[xa,xb,xc];go_simp;(try with_reducible rfl))
    (try simp only[Act.put,xa,xb,xc,xd,xe,xf]);refine wpAnyH_take (i:=2) (v:=?v75) rfl (by kernel_rfl) (by kernel_rfl) (by kernel_rfl) (fun _ _ _ h=>Q6 (Q7 Tryz.results64 (by decide) (by decide) _ _) _ _ _ h) (Or.inl ⟨by rfl,?hy75⟩) (by assumption) ?rest75
    case hy75=>(intro w aW;(try dsimp only at aW);simp only[xa,xb,xc];go_simp;(try with_reducible rfl))
    (try simp only[Act.put,xa,xb,xc,xd,xe,xf]);refine wpAnyH_take (i:=3) (v:=?v76) rfl (by kernel_rfl) (by kernel_rfl) (by kernel_rfl) (fun _ _ _ h=>Q6 (Q7 Tryz.results64 (by decide) (by decide) _ _) _ _ _ h) (Or.inl ⟨by rfl,?hy76⟩) (by assumption) ?rest76
    case hy76=>(intro w aW;(try dsimp only at aW);simp only[xa,xb,xc];go_simp;(try with_reducible rfl))
    (try simp only[Act.put,xa,xb,xc,xd,xe,xf]);refine wpAnyH_take (i:=4) (v:=?v77) rfl (by kernel_rfl) (by kernel_rfl) (by kernel_rfl) (fun _ _ _ h=>Q6 (Q7 Tryz.results64 (by decide) (by decide) _ _) _ _ _ h) (Or.inl ⟨by rfl,?hy77⟩) (by assumption) ?rest77
    case hy77=>(intro w aW;(try dsimp only at aW);simp only[xa,xb,xc];go_simp;(try with_reducible rfl))
    (try simp only[Act.put,xa,xb,xc,xd,xe,xf]);refine wpAnyH_take (i:=5) (v:=?v78) rfl (by kernel_rfl) (by kernel_rfl) (by kernel_rfl) (fun _ _ _ h=>Q6 (Q7 Tryz.results64 (by decide) (by decide) _ _) _ _ _ h) (Or.inl ⟨by rfl,?hy78⟩) (by assumption) ?rest78
    case hy78=>(intro w aW;(try dsimp only at aW);simp only[xa,xb,xc];go_simp;(try with_reducible rfl))
    (try simp only[Act.put,xa,xb,xc,xd,xe,xf]);refine wpAnyH_take (i:=6) (v:=?v79) rfl (by kernel_rfl) (by kernel_rfl) (by kernel_rfl) (fun _ _ _ h=>Q6 (Q7 Tryz.results64 (by decide) (by decide) _ _) _ _ _ h) (Or.inl ⟨by rfl,?hy79⟩) (by assumption) ?rest79
    case hy79=>(intro w aW;(try dsimp only at aW);simp only[xa,xb,xc];go_simp;(try with_reducible rfl))
    (try simp only[Act.put,xa,xb,xc,xd,xe,xf]);refine wpAnyH_take (i:=7) (v:=?v80) rfl (by kernel_rfl) (by kernel_rfl) (by kernel_rfl) (fun _ _ _ h=>Q6 (Q7 Tryz.results64 (by decide) (by decide) _ _) _ _ _ h) (Or.inl ⟨by rfl,?hy80⟩) (by assumption) ?rest80
    case hy80=>(intro w aW;(try dsimp only at aW);simp only[xa,xb,xc];go_simp;(try with_reducible rfl))
    (try simp only[Act.put,xa,xb,xc,xd,xe,xf]);refine wpAnyH_take (i:=8) (v:=?v81) rfl (by kernel_rfl) (by kernel_rfl) (by kernel_rfl) (fun _ _ _ h=>Q6 (Q7 Tryz.results64 (by decide) (by decide) _ _) _ _ _ h) (Or.inl ⟨by rfl,?hy81⟩) (by assumption) ?rest81
    case hy81=>(intro w aW;(try dsimp only at aW);simp only[xa,xb,xc];go_simp;(try with_reducible rfl))
    (try simp only[Act.put,xa,xb,xc,xd,xe,xf]);refine wpAnyH_take (i:=9) (v:=?v82) rfl (by kernel_rfl) (by kernel_rfl) (by kernel_rfl) (fun _ _ _ h=>Q6 (Q7 Tryz.results64 (by decide) (by decide) _ _) _ _ _ h) (Or.inl ⟨by rfl,?hy82⟩) (by assumption) ?rest82
    case hy82=>(intro w aW;(try dsimp only at aW);simp only[xa,xb,xc];go_simp;(try with_reducible rfl))
    (try simp only[Act.put,xa,xb,xc,xd,xe,xf]);refine wpAnyH_take (i:=10) (v:=?v83) rfl (by kernel_rfl) (by kernel_rfl) (by kernel_rfl) (fun _ _ _ h=>Q6 (Q7 Tryz.results64 (by decide) (by decide) _ _) _ _ _ h) (Or.inl ⟨by rfl,?hy83⟩) (by assumption) ?rest83
    case hy83=>(intro w aW;(try dsimp only at aW);simp only[xa,xb,xc];go_simp;(try with_reducible rfl))
    refine rd1 11 fun KK hK=>?_
    simp only[xa,xb,xc];go_simp;refine(HPk.out _ O).mono ?_;rintro e X7 ⟨rfl,he⟩;rw[he];clear he X7;refine hK.out _ _ (aB) fun aB=>?_
    clear hK KK;refine rd1 12 fun KK hK=>?_
    simp only[xa,xb,xc];go_simp;refine(z5t (dR.out.1.quiet O) _ _).mono ?_;rintro e X9 ⟨rfl,P9,q9⟩;refine hK.out _ _ ⟨q9.cell aB.1 fK.out,q9.cell aB.2 (.inr cU.out)⟩ fun aB=>?_
    clear hK KK;refine dn ?_;have HP9:Hid (SpAt X9 lo hi s n cap (z1y S2 (mtC n a S2.W bs (j+1)))):=by
     have hi8:=Hi8.out;have e:mtC n a S2.W bs (j+1)=F8 n (mtC n a S2.W bs j) (a+2+j) (wrap64 (pkU ((bs.drop i).take 8))):=by rw[<-hi8];rfl
     rw[e];exact P9
    have HQ9:=Q3 ((dR.out.2.trans (O.any lo hi)).trans q9);clear aB P9 q9 O y0 y6;go_wp2_with fail;go_roundw
    case rel=>exact⟨j+1,by have:=Hi8.out;omega,by have:=Hi8.out;rw[show ((8*(j+1):Nat):Int)=(i:Int)+8 from by omega],HP9.out,HQ9.out⟩
    case measure=>have:=Hi8.out;simp[intOf];omega
   ·have hm':(bs.length:Int)<(i:Int)+8:=by omega
    have hLa:bs.length-i=L:=by omega
    clear cJ;go_wp2_with fail;(try rw[hLa]);clear hLa;refine wp_region_held_drew (S:=fun w'=>cq w' hb 0=some (Pq (s 14))/\cq w' gb 0=some (Iz a)) (by kernel_rfl) ?hS86 (fun aB=>?rest86)
    case hS86=>exact⟨y6,y0⟩
    obtain⟨Z0,hZ⟩:∃ Z,wr.drew=Z:=⟨_,rfl⟩
    have O:Out 0 0 wr Z0:=by rw[<-hZ];exact(Out.refl 0 0 _).drew
    rw[hZ] at aB ⊢;clear hZ;refine wpAnyH_take (i:=0) (v:=?v87) rfl (by kernel_rfl) (by kernel_rfl) (by kernel_rfl) (fun _ _ _ h=>Q6 (Q7 Tryz.results64 (by decide) (by decide) _ _) _ _ _ h) (Or.inl ⟨by rfl,?hy87⟩) (by assumption) ?rest87
    case hy87=>(intro w aW;(try dsimp only at aW);simp only[xa,xb,xc];go_simp;(try with_reducible rfl))
    (try simp only[Act.put,xa,xb,xc,xd,xe,xf]);refine wpAnyH_take (i:=1) (v:=?v88) rfl (by kernel_rfl) (by kernel_rfl) (by kernel_rfl) (fun _ _ _ h=>Q6 (Q7 Tryz.results64 (by decide) (by decide) _ _) _ _ _ h) (Or.inl ⟨by rfl,?hy88⟩) (by assumption) ?rest88
    case hy88=>(intro w aW;(try dsimp only at aW);simp only[xa,xb,xc];go_simp;(try with_reducible rfl))
    (try simp only[Act.put,xa,xb,xc,xd,xe,xf]);refine wpAnyH_take (i:=2) (v:=?v89) rfl (by kernel_rfl) (by kernel_rfl) (by kernel_rfl) (fun _ _ _ h=>Q6 (Q7 Tryz.results64 (by decide) (by decide) _ _) _ _ _ h) (Or.inl ⟨by rfl,?hy89⟩) (by assumption) ?rest89
    case hy89=>(intro w aW;(try dsimp only at aW);simp only[xa,xb,xc];go_simp;(try with_reducible rfl))
    (try simp only[Act.put,xa,xb,xc,xd,xe,xf]);refine wpAnyH_take (i:=3) (v:=?v90) rfl (by kernel_rfl) (by kernel_rfl) (by kernel_rfl) (fun _ _ _ h=>Q6 (Q7 Tryz.results64 (by decide) (by decide) _ _) _ _ _ h) (Or.inl ⟨by rfl,?hy90⟩) (by assumption) ?rest90
    case hy90=>(intro w aW;(try dsimp only at aW);simp only[xa,xb,xc];go_simp;(try with_reducible rfl))
    (try simp only[Act.put,xa,xb,xc,xd,xe,xf]);refine wpAnyH_take (i:=4) (v:=?v91) rfl (by kernel_rfl) (by kernel_rfl) (by kernel_rfl) (fun _ _ _ h=>Q6 (Q7 Tryz.results64 (by decide) (by decide) _ _) _ _ _ h) (Or.inl ⟨by rfl,?hy91⟩) (by assumption) ?rest91
    case hy91=>(intro w aW;(try dsimp only at aW);simp only[xa,xb,xc];go_simp;(try with_reducible rfl))
    (try simp only[Act.put,xa,xb,xc,xd,xe,xf]);refine wpAnyH_take (i:=5) (v:=?v92) rfl (by kernel_rfl) (by kernel_rfl) (by kernel_rfl) (fun _ _ _ h=>Q6 (Q7 Tryz.results64 (by decide) (by decide) _ _) _ _ _ h) (Or.inl ⟨by rfl,?hy92⟩) (by assumption) ?rest92
    case hy92=>(intro w aW;(try dsimp only at aW);simp only[xa,xb,xc];go_simp;(try with_reducible rfl))
    (try simp only[Act.put,xa,xb,xc,xd,xe,xf]);refine wpAnyH_take (i:=6) (v:=?v93) rfl (by kernel_rfl) (by kernel_rfl) (by kernel_rfl) (fun _ _ _ h=>Q6 (Q7 Tryz.results64 (by decide) (by decide) _ _) _ _ _ h) (Or.inl ⟨by rfl,?hy93⟩) (by assumption) ?rest93
    case hy93=>(intro w aW;(try dsimp only at aW);simp only[xa,xb,xc];go_simp;(try with_reducible rfl))
    (try simp only[Act.put,xa,xb,xc,xd,xe,xf]);refine wpAnyH_take (i:=7) (v:=?v94) rfl (by kernel_rfl) (by kernel_rfl) (by kernel_rfl) (fun _ _ _ h=>Q6 (Q7 Tryz.results64 (by decide) (by decide) _ _) _ _ _ h) (Or.inl ⟨by rfl,?hy94⟩) (by assumption) ?rest94
    case hy94=>(intro w aW;(try dsimp only at aW);simp only[xa,xb,xc];go_simp;(try with_reducible rfl))
    (try simp only[Act.put,xa,xb,xc,xd,xe,xf]);refine wpAnyH_take (i:=8) (v:=?v95) rfl (by kernel_rfl) (by kernel_rfl) (by kernel_rfl) (fun _ _ _ h=>Q6 (Q7 Tryz.results64 (by decide) (by decide) _ _) _ _ _ h) (Or.inl ⟨by rfl,?hy95⟩) (by assumption) ?rest95
    case hy95=>(intro w aW;(try dsimp only at aW);simp only[xa,xb,xc];go_simp;(try with_reducible rfl))
    (try simp only[Act.put,xa,xb,xc,xd,xe,xf]);refine wpAnyH_take (i:=9) (v:=?v96) rfl (by kernel_rfl) (by kernel_rfl) (by kernel_rfl) (fun _ _ _ h=>Q6 (Q7 Tryz.results64 (by decide) (by decide) _ _) _ _ _ h) (Or.inl ⟨by rfl,?hy96⟩) (by assumption) ?rest96
    case hy96=>(intro w aW;(try dsimp only at aW);simp only[xa,xb,xc];go_simp;(try with_reducible rfl))
    (try simp only[Act.put,xa,xb,xc,xd,xe,xf]);refine wpAnyH_take (i:=10) (v:=?v97) rfl (by kernel_rfl) (by kernel_rfl) (by kernel_rfl) (fun _ _ _ h=>Q6 (Q7 Tryz.results64 (by decide) (by decide) _ _) _ _ _ h) (Or.inl ⟨by rfl,?hy97⟩) (by assumption) ?rest97
    case hy97=>(intro w aW;(try dsimp only at aW);simp only[xa,xb,xc];go_simp;(try with_reducible rfl))
    refine rd1 11 fun KK hK=>?_
    simp only[xa,xb,xc];go_simp;refine(HPk.out _ O).mono ?_;rintro e X7 ⟨rfl,he⟩;rw[he];clear he X7;refine hK.out _ _ (aB) fun aB=>?_
    clear hK KK;refine rd1 12 fun KK hK=>?_
    simp only[xa,xb,xc];go_simp;refine(z5t (dR.out.1.quiet O) _ _).mono ?_;rintro e X9 ⟨rfl,P9,q9⟩;refine hK.out _ _ ⟨q9.cell aB.1 fK.out,q9.cell aB.2 (.inr cU.out)⟩ fun aB=>?_
    clear hK KK;refine dn ?_;have HP9:Hid (SpAt X9 lo hi s n cap (z1y S2 (mtC n a S2.W bs (j+1)))):=by
     have hi8:=Hi8.out;have e:mtC n a S2.W bs (j+1)=F8 n (mtC n a S2.W bs j) (a+2+j) (wrap64 (pkU ((bs.drop i).take 8))):=by rw[<-hi8];rfl
     rw[e];exact P9
    have HQ9:=Q3 ((dR.out.2.trans (O.any lo hi)).trans q9);clear aB P9 q9 O y0 y6;go_wp2_with fail;go_roundw
    case rel=>exact⟨j+1,by have:=Hi8.out;omega,by have:=Hi8.out;rw[show ((8*(j+1):Nat):Int)=(i:Int)+8 from by omega],HP9.out,HQ9.out⟩
    case measure=>have:=Hi8.out;simp[intOf];omega
  ·have b1':(bs.length:Int)<=((8*j:Nat):Int):=by omega
   have ej:(bs.length+7) / 8=j:=by omega
   have HE:Hid (SpAt wr lo hi s n cap (z1y S2 (mtW n a S2.W bs))):=by
    unfold mtW;rw[ej];exact dR.out.1
   obtain⟨y0,y1,y2,y3,y4,y5⟩:=W7 ((HQ6.out.trans dR.out.2).heap nI.out (.inr cU.out));have HVa:Hid (J2 2 a=true):=by
    have h1:=Ha.out;unfold J2;rw[decide_eq_true_eq];exact .inr (.inl ⟨rfl,by omega,by omega⟩)
   go_wp2_with fail;refine(j7e HVa.out _).mono ?_;rintro e X8 ⟨rfl,q8⟩;have HQ8:=Q3 ((HQ1.out.trans (HQ6.out.trans dR.out.2)).trans (q8.any lo hi));have jB:=Q3 (HQ8.out.heap fR.out (.inr (by have h1:=Hh.out.1.top;have h2:=bD.out;omega)));have eI:=Q3 (HQ8.out.heap fF.out (.inr (by have h1:=Hh.out.1.top;have h2:=bD.out;omega)));have HS8:=Q3 (HE.out.quiet q8);obtain⟨a0,a1,a2,a3⟩:=Q5 jB.out;obtain⟨c0,c1,c2,c3⟩:=flt_facts eI.out;have e1:=G9 (x1:=2) (x2:=a) jB.out;have o1:=(Out.refl gv (gv+1) X8).set2 (b:=gv) (o:=0) (o':=1) Lz (Iz 2) (Iz a);have f1:=o1.heap eI.out (.inr (Nat.le_refl _));have f2:=J5 (x':=0) (y':=0) f1;have o2:=(Out.refl (gv+1) (gv+2) ((X8.setCell ⟨gv,0,none⟩ (Iz 2)).setCell ⟨gv,1,none⟩ (Iz a))).set2 (b:=gv+1) (o:=0) (o':=1) Lz (Iz 0) (Iz 0);have e2:=o2.heap e1 (.inl (Nat.lt_succ_self _));have hd:hi<=gv:=by have h1:=Hh.out.1.top;have h2:=bD.out;omega
   have hn:4<=gv:=by have h3:=Hh.out.1.glob;have h4:=Hh.out.1.inn 0 (by omega);omega
   have P9:=(HS8.out.kept o1 (.inl hd) (.inl hn)).kept o2 (.inl (by omega)) (.inl (by omega));have Q9:=(((HO.out.any lo hi).trans HQ8.out).then o1 (by have:=bD.out;omega)).then o2 (by have:=bD.out;omega);have kN:=Q3 (And.intro e2 (And.intro f2 (And.intro P9 Q9)));clear q8 e1 o1 f1 f2 o2 e2 P9 Q9;go_wp2;refine leaves_cons (f:=120) (args:=#[.pointer (some ⟨gv+1,0,none⟩)]) (by simp) (by simp[go_sem]) ?_;refine(z5x kN.out.2.1).mono ?_;rintro e u' w9 ⟨rfl,rfl,f9,q9⟩;exact U0 (J4 Tryz.results64 rfl rfl (U5 (q9.heap kN.out.1 (.inl (Nat.lt_succ_self _)))) (J8 f9)) ⟨rfl,kN.out.2.2.1.kept q9 (.inl (by omega)) (.inl (by omega)),kN.out.2.2.2.then q9 (by have:=bD.out;omega)⟩
end
theorem x2t {n a:Nat} {W:Nat->Int} {bs:List Int}:∀ J:Nat,a+2+J<=64*n->(mtC n a W bs J) (a+1)=bs.length/\(∀ j,j<J->(mtC n a W bs J) (a+2+j)=wrap64 (pkU ((bs.drop (8*j)).take 8)))/\∀ i,i<=a\/a+2+J<=i->(mtC n a W bs J) i=W i
 | 0,h=>by
  refine⟨?_,fun j hj=>by omega,fun i hi=>?_⟩
  ·show F8 n W ((a:Int)+1) bs.length (a+1)=_
   rw[show (a:Int)+1=((a+1:Nat):Int) from by omega];exact q3j (by omega)
  ·exact z5g (by omega)
 | J+1,h=>by
  obtain⟨h1,h2,h3⟩:=x2t (n:=n) (a:=a) (W:=W) (bs:=bs) J (by omega);refine⟨?_,fun j hj=>?_,fun i hi=>?_⟩
  ·rw[<-h1];exact z5g (by omega)
  ·by_cases e:j=J
   ·subst e
    show F8 n _ ((a:Int)+2+(j:Int)) _ (a+2+j)=_
    rw[show (a:Int)+2+(j:Int)=((a+2+j:Nat):Int) from by omega];exact q3j (by omega)
   ·rw[<-h2 j (by omega)];exact z5g (by omega)
  ·rw[<-h3 i (by omega)];exact z5g (by omega)
def dtW (a:Nat) (W:Nat->Int) (bs:List Int) (k:Nat):Nat->Int:=fun i=>
 if i=a+1 then bs.length else if a+2<=i/\i<a+2+(bs.length+7) / 8 then wrap64 (pkU (((bs.drop (8*(i-(a+2)))).take 8).drop (k-8*(i-(a+2))))) else W i
theorem j8j (x b:Int):wrap64 (wrap64 x*256+b)=wrap64 (b+256*x):=by unfold wrap64;omega
theorem j9n {a:Nat} {W:Nat->Int} {bs:List Int} (hz:∀ i,a+2<=i->i<a+2+(bs.length+7) / 8->W i=0) (i:Nat):dtW a W bs bs.length i=if i=a+1 then (bs.length:Int) else W i:=by
 unfold dtW;by_cases e:i=a+1
 ·rw[if_pos e,if_pos e]
 ·rw[if_neg e,if_neg e];by_cases c:a+2<=i/\i<a+2+(bs.length+7) / 8
  ·rw[if_pos c,hz i c.1 c.2,List.drop_eq_nil_of_le (by rw[List.length_take,List.length_drop];omega)]
   show wrap64 0=0
   unfold wrap64;omega
  ·rw[if_neg c]
theorem x3r {a k:Nat} {W:Nat->Int} {bs:List Int} {b:Int} (hb:bs[k]? = some b) (i:Nat):dtW a W bs k i=if i=a+2+k / 8 then wrap64 (dtW a W bs (k+1) (a+2+k / 8)*256+b) else dtW a W bs (k+1) i:=by
 have hk:=(List.getElem?_eq_some_iff.1 hb).1;by_cases e:i=a+2+k / 8
 ·subst e;rw[if_pos rfl];unfold dtW;have h0:¬ a+2+k / 8=a+1:=by omega
  have h9:a+2<=a+2+k / 8/\a+2+k / 8<a+2+(bs.length+7) / 8:=by omega
  simp only[if_neg h0,if_pos h9];rw[j8j];rw[show a+2+k / 8-(a+2)=k / 8 from by omega];have h1:((bs.drop (8*(k / 8))).take 8)[k-8*(k / 8)]? = some b:=by
   rw[List.getElem?_take,if_pos (by omega),List.getElem?_drop,show 8*(k / 8)+(k-8*(k / 8))=k from by omega];exact hb
  generalize ((bs.drop (8*(k / 8))).take 8)=c at *
  rw[show k+1-8*(k / 8)=k-8*(k / 8)+1 from by omega];have hc:=(List.getElem?_eq_some_iff.1 h1)
  rw[List.drop_eq_getElem_cons hc.1,hc.2];rfl
 ·rw[if_neg e];unfold dtW;by_cases e1:i=a+1
  ·rw[if_pos e1,if_pos e1]
  ·rw[if_neg e1,if_neg e1];by_cases c:a+2<=i/\i<a+2+(bs.length+7) / 8
   ·rw[if_pos c,if_pos c];by_cases d:k<8*(i-(a+2))
    ·rw[show k-8*(i-(a+2))=0 from by omega,show k+1-8*(i-(a+2))=0 from by omega]
    ·rw[List.drop_eq_nil_of_le (i:=k-8*(i-(a+2))) (by rw[List.length_take];omega),List.drop_eq_nil_of_le (i:=k+1-8*(i-(a+2))) (by rw[List.length_take];omega)]
   ·rw[if_neg c,if_neg c]
theorem x6g {n a:Nat} {W:Nat->Int} {bs:List Int} (hn:a+2+(bs.length+7) / 8<=64*n):dtW a W bs 0=mtW n a W bs:=by
 obtain⟨h1,h2,h3⟩:=x2t (n:=n) (a:=a) (W:=W) (bs:=bs) ((bs.length+7) / 8) hn;funext i
 unfold dtW mtW;by_cases e:i=a+1
 ·subst e;rw[if_pos rfl,h1]
 ·rw[if_neg e];by_cases c:a+2<=i/\i<a+2+(bs.length+7) / 8
  ·rw[if_pos c];have:=h2 (i-(a+2)) (by omega);rw[show a+2+(i-(a+2))=i from by omega] at this;rw[this];simp
  ·rw[if_neg c,h3 i (by omega)]
theorem z8p {k z:Int} (hf:F4 k z=true) {x:Nat}:x ∈ z0l k z ↔ 1<=x/\(x:Int)<z/\z4d k x ≠ 1:=by
 unfold z0l q1i;rw[if_pos hf,List.mem_filter,List.mem_range];have:=z4m hf;simp;omega
theorem x2q {n a:Nat} {k z:Int} {i:Nat}:∀ {l:List Nat} {W:Nat->Int},(∀ x ∈ l,a+x<64*n)->mkF n a k z W l i=if ∃ x ∈ l,i=a+x then z1z (J9 k z ((i:Int)-a)) else W i
 | [],W,_=>by simp[mkF]
 | x :: l,W,h=>by
  show mkF n a k z (F8 n W ((a:Int)+x) (z1z (J9 k z x))) l i=_
  rw[x2q fun y hy=>h y (by simp[hy])];by_cases c:∃ y ∈ l,i=a+y
  ·rw[if_pos c,if_pos (by obtain⟨y,h1,h2⟩:=c;exact⟨y,by simp[h1],h2⟩)]
  ·rw[if_neg c];by_cases e:i=a+x
   ·rw[if_pos ⟨x,by simp,e⟩];subst e;rw[show ((a:Int)+(x:Int))=((a+x:Nat):Int) from by omega,q3j (h x (by simp)),show ((a+x:Nat):Int)-(a:Int)=(x:Int) from by omega]
   ·rw[if_neg (by
     rintro⟨y,h1,h2⟩;rcases List.mem_cons.1 h1 with h1 | h1;· subst h1;exact e h2
     ·exact c ⟨y,h1,h2⟩)]
    exact z5g (by omega)
def dmW (a:Nat) (k z:Int) (W:Nat->Int) (j:Nat):Nat->Int:=fun i=>if a<i/\i<a+j/\J9 k z ((i:Int)-a) ≠ 1 then z1z (J9 k z ((i:Int)-a)) else W i
theorem x6f {n a:Nat} {k z:Int} {W:Nat->Int} (hf:F4 k z=true) (hn:(a:Int)+z<=64*n):dmW a k z W z.toNat=mkF n a k z W (z0l k z):=by
 funext i
 have hz:=z4m hf;rw[x2q fun x hx=>by have:=(z8p hf).1 hx;omega];unfold dmW;by_cases c:a<i/\i<a+z.toNat
 ·have hr:J9 k z ((i:Int)-a)=z4d k ((i:Int)-a):=by
   unfold J9;rw[if_pos ⟨hf,by omega,by omega⟩]
  have hi:(i:Int)-a=((i-a:Nat):Int):=by omega
  by_cases e:J9 k z ((i:Int)-a) ≠ 1
  ·rw[if_pos ⟨c.1,c.2,e⟩,if_pos];refine⟨i-a,(z8p hf).2 ⟨by omega,by omega,?_⟩,by omega⟩;rw[<-hi,<-hr];exact e
  ·rw[if_neg (fun h=>e h.2.2),if_neg];rintro⟨x,h1,h2⟩;obtain⟨_,_,h3⟩:=(z8p hf).1 h1;apply e;rw[hr,show (i:Int)-a=(x:Int) from by omega];exact h3
 ·rw[if_neg (fun h=>c ⟨h.1,h.2.1⟩),if_neg];rintro⟨x,h1,h2⟩;have:=(z8p hf).1 h1;omega
theorem j9l {a:Nat} {k z:Int} {W:Nat->Int}:dmW a k z W 1=W:=by
 funext i
 unfold dmW;rw[if_neg (by omega)]
theorem j4v {a j:Nat} {k z:Int} {W:Nat->Int} (h1:1<=j) (i:Nat):dmW a k z W (j+1) i=if i=a+j/\J9 k z j ≠ 1 then z1z (J9 k z j) else dmW a k z W j i:=by
 unfold dmW;by_cases e:i=a+j
 ·subst e;rw[show ((a+j:Nat):Int)-(a:Int)=(j:Int) from by omega];by_cases c:J9 k z j ≠ 1
  ·rw[if_pos ⟨by omega,by omega,c⟩,if_pos ⟨rfl,c⟩]
  ·rw[if_neg (fun h=>c h.2.2),if_neg (fun h=>c h.2),if_neg (by omega)]
 ·rw[if_neg (c:=i=a+j/\_) (fun h=>e h.1)];by_cases c:a<i/\i<a+j/\J9 k z ((i:Int)-a) ≠ 1
  ·rw[if_pos c,if_pos ⟨c.1,by omega,c.2.2⟩]
  ·rw[if_neg c,if_neg (fun h=>c ⟨h.1,by omega,h.2.2⟩)]
end Go.Proofs.YtjgnogflgoihfaaGreatDoor
namespace Go.Proofs.YtjgnogflgoihfaaGreatDoor
open Go.ChangeShapes Go.WideShapes Go.ChangeAt Go.RowKit
set_option linter.unusedVariables false
set_option maxRecDepth 100000
set_option maxHeartbeats 16000000
set_option linter.unusedSimpArgs false
theorem q9o (j:Nat) (h:j<7):(j<3/\Y5 (j+1:Nat)=Y5 j+2)\/(3<=j/\j<6/\Y5 (j+1:Nat)=Y5 j+4)\/(6<=j/\Y5 (j+1:Nat)=Y5 j+12):=by
 have hi:j=0\/j=1\/j=2\/j=3\/j=4\/j=5\/j=6:=by omega
 rcases hi with rfl | rfl | rfl | rfl | rfl | rfl | rfl <;> decide
theorem z5b (c:Int):0<=Y5 c/\Y5 c<=32:=by rcases z1j c with ⟨x,y,hx,hy,c0,c7,h⟩ | ⟨hx,hy,hc⟩ <;> omega
theorem z5w (c:Int):0<=B8 c/\B8 c<=32:=by rcases z1j c with ⟨x,y,hx,hy,c0,c7,h⟩ | ⟨hx,hy,hc⟩ <;> omega
theorem z8b (c:Int) (w:World):Kz 166 #[Iz c] w fun e w'=>e=.returned (Iz (Y5 c))/\w'=w:=by
 by_cases hc:0<=c/\c<8
 ·obtain⟨h1,h2⟩:=hc;obtain⟨k,rfl⟩:∃ k:Nat,c=k:=⟨c.toNat,by omega⟩
  have hk:k<8:=by omega
  go_enter Tryz.func166,Tryz.ntmps166
  go_wp2;go_loopw [3,4] (fun n i wr=>∃ j:Nat,j<=k/\i=Iz j/\n=Iz (Y5 j)/\wr=w) (fun _ i _=>k-(intOf i).toNat)
  case atStart=>exact⟨0,by omega,by simp,by rfl,rfl⟩
  case round=>
   obtain⟨j,hj,rfl,rfl,rfl⟩:=hrel;by_cases hjk:j<k
   ·have hjk':(j:Int)<k:=by omega
    have hr:=z5b j;have hs:=q9o j (by omega);generalize hx:Y5 (j+1:Nat)=x' at hs
    generalize Y5 j=x at *
    obtain⟨r1,r2⟩:=hr;rcases hs with ⟨s1,s2⟩ | ⟨s1,s2,s3⟩ | ⟨s1,s2⟩
    all_goals
     go_wp2;go_roundw
     case rel=>exact⟨j+1,by omega,by simp,by rw[hx];simp;omega,trivial⟩
     case measure=>simp[intOf];omega
   ·have:j=k:=by omega
    subst this;go_wp2;go_ret;exact⟨rfl,rfl⟩
 ·have hc:c<0\/8<=c:=by omega
  rw[z7q hc];rcases hc with h | h
  all_goals
   go_enter Tryz.func166,Tryz.ntmps166
   go_wp2;go_ret;exact⟨rfl,rfl⟩
theorem z5s (c v:Int) (h:Y5 c=v) (w:World):Calls Tryz.prog 166 #[.int .i64 c] w fun e w'=>e=.returned (.int .i64 v)/\w'=w:=by
 rw[<-h];exact z8b c w
theorem fit (c:Int) (x y:Int) (hx:Y5 c=x) (hy:B8 c=y) (n:Nat):0<x->(((n+1:Int)*x<=64) ↔ (n:Int)<y):=by
 intro h0;rcases z1j c with ⟨x',y',hx',hy',c0,c7,h⟩ | ⟨hx',hy',hc⟩
 ·rw[hx] at hx';rw[hy] at hy';subst hx' hy';rcases h with ⟨_,rfl,rfl⟩ | ⟨_,rfl,rfl⟩ | ⟨_,rfl,rfl⟩ | ⟨_,rfl,rfl⟩ | ⟨_,rfl,rfl⟩ | ⟨_,rfl,rfl⟩ | ⟨_,rfl,rfl⟩ | ⟨_,rfl,rfl⟩ <;> omega
 ·omega
theorem j3i {c:Int} (h:Y5 c=0):B8 c=0:=by rcases z1j c with ⟨x,y,hx,hy,c0,c7,h⟩ | ⟨hx,hy,hc⟩ <;> omega
theorem z3s (c:Int) (w:World):Kz 151 #[Iz c] w fun e w'=>e=.returned (Iz (B8 c))/\w'=w:=by
 have H:=Q3 (z5s c _ rfl);have HF:=Q3 (fit c _ _ rfl rfl);have HN:=Q3 (j3i (c:=c));obtain⟨x1,x2⟩:=z5b c;obtain⟨y1,y2⟩:=z5w c;generalize B8 c=y at *
 generalize Y5 c=x at *
 go_enter Tryz.func151,Tryz.ntmps151
 go_wp2_with (go_at_call 166;refine Q4 (H.out _) ?_);go_loopw [4] (fun n wr=>∃ k:Nat,(k:Int)<=y/\n=Iz k/\wr=w) (fun n _=>32-(intOf n).toNat)
 case atStart=>exact⟨0,by omega,by simp,rfl⟩
 case round=>
  obtain⟨k,hk,rfl,rfl⟩:=hrel;by_cases hx:x=0
  ·have hy:=HN.out hx;subst hx;have:k=0:=by omega
   subst this hy;go_wp2;go_ret;exact⟨rfl,rfl⟩
  ·have hx0:0<x:=by omega
   have hf:=HF.out k hx0;have hp1:0<=((k:Int)+1)*x:=Int.mul_nonneg (by omega) x1;have hp2:((k:Int)+1)*x<=33*32:=Int.mul_le_mul (by omega) x2 x1 (by omega);have mD:wrap64 (((k:Int)+1)*x)=((k:Int)+1)*x:=by unfold wrap64;omega
   by_cases hky:(k:Int)<y
   ·have hz:=hf.2 hky;go_wp2;go_roundw
    case rel=>exact⟨k+1,by omega,by simp,trivial⟩
    case measure=>simp[intOf];omega
   ·have:y=k:=by omega
    have hz:64<((k:Int)+1)*x:=by have:=fun h=>hky (hf.1 h);omega
    subst this;go_wp2;go_ret;exact⟨rfl,rfl⟩
theorem z7y (c v:Int) (h:B8 c=v) (w:World):Calls Tryz.prog 151 #[.int .i64 c] w fun e w'=>e=.returned (.int .i64 v)/\w'=w:=by
 rw[<-h];exact z3s c w
theorem z4u (s:Int) (w:World):Kz 117 #[Iz s] w fun e w'=>e=.returned (Iz (ofV s))/\w'=w:=by
 by_cases hs:1<=s/\s<=1024
 ·obtain⟨s1,s2⟩:=hs;have HF:=Q3 (j0r s1 s2);obtain⟨q1,q2⟩:=x2v s1 s2;generalize ofV s=q at *
  go_enter Tryz.func117,Tryz.ntmps117
  go_wp2;go_loopw [3] (fun i wr=>∃ k:Nat,(k:Int)<=q/\i=Iz k/\wr=w) (fun i _=>8-(intOf i).toNat)
  case atStart=>exact⟨0,by omega,by simp,rfl⟩
  case round=>
   obtain⟨k,hk,rfl,rfl⟩:=hrel;by_cases hk8:k<8
   ·have hf:=HF.out k hk8;have hk8':(k:Int)<8:=by omega
    have HW:=Q3 (z5s k _ rfl);generalize Y5 k=x at hf HW
    by_cases hx:x<s
    ·have hkq:=hf.1 hx;go_wp2_with (go_at_call 166;refine Q4 (HW.out _) ?_);go_roundw
     case rel=>exact⟨k+1,by omega,by simp,trivial⟩
     case measure=>simp[intOf];omega
    ·have hx':s<=x:=by omega
     have hkq:q=k:=by have:=fun h=>hx (hf.2 h);omega
     subst hkq;go_wp2_with (go_at_call 166;refine Q4 (HW.out _) ?_);go_ret;exact⟨rfl,rfl⟩
   ·have hkq:k=8:=by omega
    have:q=8:=by omega
    subst hkq this;go_wp2;go_ret;exact⟨rfl,rfl⟩
 ·have hs:s<1\/1024<s:=by omega
  rw[j6m hs];rcases hs with h | h
  all_goals
   go_enter Tryz.func117,Tryz.ntmps117
   go_wp2;go_ret;exact⟨rfl,rfl⟩
theorem j0x (s v:Int) (h:ofV s=v) (w:World):Calls Tryz.prog 117 #[.int .i64 s] w fun e w'=>e=.returned (.int .i64 v)/\w'=w:=by
 rw[<-h];exact z4u s w
theorem z4v (s:Int) (w:World):Kz 164 #[Iz s] w fun e w'=>e=.returned (Iz (B9 s))/\w'=w:=by
 by_cases hs:32<s/\s<=1024
 ·have HO:=Q3 (j0x s 8 (ofV_eight.2 hs));have hp:B9 s=(s+63) / 64:=by unfold B9;rw[if_pos hs]
  rw[hp];obtain⟨s1,s2⟩:=hs;have HF:∀ n:Nat,((n:Int)*64<s ↔ (n:Int)<(s+63) / 64):=by intro n;omega
  have hq:0<=(s+63) / 64/\(s+63) / 64<=16:=by omega
  obtain⟨q1,q2⟩:=hq;have HF:=Q3 HF;clear hp;generalize (s+63) / 64=q at *
  go_enter Tryz.func164,Tryz.ntmps164
  go_wp2_with (go_at_call 117;refine Q4 (HO.out _) ?_);go_loopw [3] (fun i wr=>∃ k:Nat,(k:Int)<=q/\i=Iz k/\wr=w) (fun i _=>16-(intOf i).toNat)
  case atStart=>exact⟨0,by omega,by simp,rfl⟩
  case round=>
   obtain⟨k,hk,rfl,rfl⟩:=hrel;have hf:=HF.out k;by_cases hx:(k:Int)<q
   ·have hkq:=hf.2 hx;go_wp2;go_roundw
    case rel=>exact⟨k+1,by omega,by simp,trivial⟩
    case measure=>simp[intOf];omega
   ·have hkq:q=k:=by omega
    have hx':s<=k*64:=by have:=fun h=>hx (hf.1 h);omega
    subst hkq;go_wp2;go_ret;exact⟨rfl,rfl⟩
 ·have hq:(ofV s != 8)=true:=by simpa using fun h=>hs (ofV_eight.1 h)
  have hp:B9 s=0:=by unfold B9;rw[if_neg hs]
  have HO:=Q3 (j0x s _ rfl);rw[hp];generalize ofV s=q at *
  clear hp;go_enter Tryz.func164,Tryz.ntmps164
  go_wp2_with (go_at_call 117;refine Q4 (HO.out _) ?_);go_ret;exact⟨rfl,rfl⟩
theorem z8a (c i:Int) (w:World):Kz 152 #[Iz c,Iz i] w fun e w'=>e=.returned (Iz (z2a c i))/\w'=w:=by
 obtain⟨b2,b1⟩:=z5w c;have hw:=z5b c;by_cases hi:0<=i/\i<B8 c
 ·obtain⟨i1,i2⟩:=hi;have hp1:0<=i*Y5 c:=Int.mul_nonneg i1 hw.1;have hp2:i*Y5 c<=32*32:=Int.mul_le_mul (by omega) hw.2 hw.1 (by omega);have hs:z2a c i=i*Y5 c:=by unfold z2a;rw[if_pos ⟨i1,i2⟩]
  rw[hs];have HB:=Q3 (z7y c _ rfl);have HW:=Q3 (z5s c _ rfl);clear hs hw;generalize B8 c=y at *
  generalize Y5 c=x at *
  have mD:wrap64 (i*x)=i*x:=by unfold wrap64;omega
  clear hp1 hp2;go_enter Tryz.func152,Tryz.ntmps152
  go_wp2_with (first
   | (go_at_call 151;refine Q4 (HB.out _) ?_)
   | (go_at_call 166;refine Q4 (HW.out _) ?_))
  go_ret;refine⟨G8 ?_,rfl⟩;first | rfl | exact mD
 ·have hs:z2a c i = -1:=by unfold z2a;rw[if_neg hi]
  rw[hs];have HB:=Q3 (z7y c _ rfl);clear hs hw b1 b2;generalize B8 c=y at *
  have hi:i<0\/(0<=i/\y<=i):=by omega
  rcases hi with h | ⟨h1,h2⟩
  all_goals
   go_enter Tryz.func152,Tryz.ntmps152
   go_wp2_with (go_at_call 151;refine Q4 (HB.out _) ?_);go_ret;exact⟨rfl,rfl⟩
theorem q8p (a k n:Int) (w:World):Kz 196 #[Iz a,Iz k,Iz n] w fun e w'=>e=.returned (.bool (q0w a k n))/\w'=w:=by
 go_enter Tryz.func196,Tryz.ntmps196
 go_wp2
 all_goals go_ret
 all_goals refine⟨B7 ?_,rfl⟩
 all_goals (unfold q0w;rw[Bool.eq_iff_iff];simp;try omega)
theorem j8b (x f:Int):(0+x*f) % 17592186044416=x*f % 17592186044416:=by rw[Int.zero_add]
theorem q5e (v:Int):0<=v % 17592186044416/\v % 17592186044416<17592186044416:=⟨Int.emod_nonneg _ (by decide),Int.emod_lt_of_pos _ (by decide)⟩
theorem half (z:Int) (h:0<=z) (h2:z<17179869184):wrap64 (z.tdiv 2)=z / 2:=by
 rw[Int.tdiv_eq_ediv_of_nonneg h];exact z0a _ (by omega) (by omega)
theorem done (s d:Int) (x:Int) (h:(s+0*d) % 17592186044416=x*10872568911861 % 17592186044416) (s0:0<=s) (s1:s<17592186044416):s=z2p x:=by
 unfold z2p;rw[<-h,Int.zero_mul,Int.add_zero,Int.emod_eq_of_lt s0 s1]
theorem q8s (x:Int) (w:World) (h1:0<=x) (h2:x<17179869184):Kz 197 #[Iz x] w fun e w'=>e=.returned (Iz (z2p x))/\w'=w:=by
 have X1:=Q3 h1;have X2:=Q3 h2;clear h1 h2;have D:=Q3 (fun s d=>done s d x);generalize z2p x=r at *
 go_enter Tryz.func197,Tryz.ntmps197
 go_wp2;go_loopw [0,3,4] (fun z s d wr=>∃ z' s' d':Int,z=Iz z'/\s=Iz s'/\d=Iz d'/\0<=z'/\Hid (z'<17179869184)/\0<=s'/\s'<17592186044416/\0<=d'/\d'<17592186044416/\Hid ((s'+z'*d') % 17592186044416=x*10872568911861 % 17592186044416)/\wr=w) (fun z _ _ _=>(intOf z).toNat)
 case atStart=>exact⟨x,0,10872568911861,rfl,rfl,rfl,X1.out,X2,by decide,by decide,by decide,by decide,Q3 (j8b x _),rfl⟩
 case round=>
  clear X1 X2;obtain⟨z,s,d,rfl,rfl,rfl,z0,Z1,s0,s1,d0,d1,HJ,rfl⟩:=hrel;by_cases hz:0<z
  ·have kD:0<=z % 2:=by omega
   have mR:z % 2<2:=by omega
   have hh:=half z z0 Z1.out;have Z2:Hid (0<=z / 2/\z / 2<17179869184/\z / 2<z):=Q3 (by have:=Z1.out;omega);have R1:=Q3 (q5e (d+d));by_cases ho:z % 2=1
   ·have HK:=Q3 (j3f HJ.out ho);have R2:=Q3 (q5e (s+d));clear HJ;go_wp2;go_roundw
    case rel=>
     rw[hh];exact⟨_,_,_,rfl,rfl,rfl,Z2.out.1,Q3 Z2.out.2.1,R2.out.1,R2.out.2,R1.out.1,R1.out.2,HK,trivial⟩
    case measure=>have:=Z2.out.2.2;rw[hh];simp[intOf];omega
   ·have HK:=Q3 (q9d HJ.out ho);clear HJ;have eK:(z % 2 == 1)=false:=by simpa using ho
    go_wp2;go_roundw
    case rel=>
     rw[hh];exact⟨_,_,_,rfl,rfl,rfl,Z2.out.1,Q3 Z2.out.2.1,s0,s1,R1.out.1,R1.out.2,HK,trivial⟩
    case measure=>have:=Z2.out.2.2;rw[hh];simp[intOf];omega
  ·have jX:z=0:=by omega
   subst jX;have he:=D.out s d HJ.out s0 s1;go_wp2;go_ret;exact⟨rfl,rfl⟩
theorem q0e (a k n:Int) (w:World):Kz 170 #[Iz a,Iz k,Iz n] w fun e w'=>e=.returned (Iz (F0 a k n))/\w'=w:=by
 have G:=Q3 (q8p a k n);by_cases h:z1v a k n
 ·obtain⟨x1,x2⟩:=q9u h;obtain⟨p1,p2⟩:=j2o a k n;obtain⟨q1,q2⟩:=z7n (xV a k n);have hx:=rfl (a:=xV a k n);conv at hx=>lhs;unfold xV
  have S:=Q3 (fun w=>q8s (xV a k n) w x1 x2);rw[z9s h] at G;have hm:=z9y h;generalize z2p (xV a k n)=s at *
  generalize xV a k n=x at *
  generalize F0 a k n=r at *
  unfold z1v at h;have e1:wrap64 (a*65536)=a*65536:=z0a _ (by omega) (by omega);have e2:wrap64 (k*2048)=k*2048:=z0a _ (by omega) (by omega);have e3:wrap64 (a*65536+k*2048)=a*65536+k*2048:=z0a _ (by omega) (by omega);have e4:wrap64 (a*65536+k*2048+n)=x:=by rw[hx];exact z0a _ (by omega) (by omega)
  have e5:wrap64 (n*32)=n*32:=z0a _ (by omega) (by omega);have e6:wrap64 (s*65536)=s*65536:=z0a _ (by omega) (by omega);have e7:wrap64 (k+n*32)=k+n*32:=z0a _ (by omega) (by omega);have e8:wrap64 (k+n*32+s*65536)=k+n*32+s*65536:=z0a _ (by omega) (by omega);have e9:wrap64 ((k+n*32+s*65536)*8)=(k+n*32+s*65536)*8:=z0a _ (by omega) (by omega);have e10:wrap64 ((k+n*32+s*65536)*8+5)=r:=by rw[hm];exact z0a _ (by omega) (by omega)
  clear h x1 x2 p1 p2 q1 q2 hx hm;go_enter Tryz.func170,Tryz.ntmps170
  go_wp2_with (first
   | (go_at_call 196;refine Q4 (G.out _) ?_)
   | (go_at_call 197;refine Q4 (S.out _) ?_))
  go_ret;exact⟨G8 (by first | rfl | assumption),rfl⟩
 ·rw[z8o h];rw[z7b h] at G;clear h;go_enter Tryz.func170,Tryz.ntmps170
  go_wp2_with (go_at_call 196;refine Q4 (G.out _) ?_);go_ret;exact⟨rfl,rfl⟩
end Go.Proofs.YtjgnogflgoihfaaGreatDoor
namespace Go.Proofs.YtjgnogflgoihfaaGreatDoor
open Go.RowKit
set_option linter.unusedVariables false
set_option maxRecDepth 100000
set_option maxHeartbeats 16000000
set_option linter.unusedSimpArgs false
def rowI (o:Option Nat):Int:=match o with | some p=>p | none=>-1
theorem q1t {w:World} {b bw n:Nat} {S:Nat->Int × Int × Int} (h:TblAt 144 w b bw n S) (k:Nat) (hk:1<=k) (kP:k<=16) :
  Kz 195 #[Pq b,Iz k] w fun e w'=>e=.returned (Iz (rowI (z0e S n k)))/\w'=w:=by
 obtain⟨cap,c0,_⟩:=h.cell;have HR:=Q3 h.row;have HN:=Q3 h.nums;have HK:Hid (1<=k/\k<=16):=⟨hk,kP⟩
 obtain⟨a,ha⟩:∃ a,z0e S n k=a:=⟨_,rfl⟩
 have HA:=Q3 ha;rw[ha];clear h hk kP ha;go_enter Tryz.func195,Tryz.ntmps195
 go_wp2_with fail;go_loopw [5,6] (fun x y wr=>∃ i f:Nat,i<=n/\x=Iz f/\y=Iz i/\RowInv S k i f/\wr=w) (fun _ y _=>n-(intOf y).toNat)
 case atStart=>exact⟨0,0,Nat.zero_le _,rfl,rfl,RowInv.start S HK.out.1,rfl⟩
 case round=>
  obtain⟨i,f,i1,rfl,rfl,hv,rfl⟩:=hrel;have b0:(0:Int)<=(i:Int):=by omega
  have b5:(i:Int)<=4096:=by have:=HN.out;omega
  have b6:(0:Int)<=(f:Int)/\(f:Int)<16:=by have:=hv.2.1;have:=HK.out;omega
  obtain⟨b7,b8⟩:=b6;by_cases hi:i<n
  ·have b1:(i:Int)<(n:Int):=by omega
   obtain⟨x,y,z,hp⟩:=z2j (S i);obtain⟨q0,q1,q2⟩:=HR.out.page hi hp;cases hf:z3n (S i)
   ·have oK:=Q3 (hv.taken hf);have hx:(x != 0)=true:=by
      have h2:(x == 0)=false:=by rw[hp] at hf;exact hf
      simp at h2 ⊢;exact h2
    clear hv hp hf;go_wp2;go_roundw
    case rel=>exact⟨i+1,0,by omega,by go_num,by go_num,oK.out,trivial⟩
    case measure=>simp[intOf];omega
   ·have hx:(x != 0)=false:=by
     have h2:(x == 0)=true:=by rw[hp] at hf;exact hf
     simp at h2 ⊢;exact h2
    by_cases hk:f+1=k
    ·have iA:=hv.found hf hk hi;rw[HA.out] at iA;subst iA;have HE:Hid (f<=i):=hv.1;subst hk;clear hv hp hf;go_wp2;go_ret;refine⟨G8 ?_,rfl⟩
     show ((i:Int)-((f:Int)+1)+1)=((i-f:Nat):Int)
     have:=HE.out;omega
    ·have oK:=Q3 (hv.more hf hk);have ek:((f:Int)+1 == (k:Int))=false:=by simp;omega
     clear hv hp hf hk;go_wp2;go_roundw
     case rel=>exact⟨i+1,f+1,by omega,by go_num,by go_num,oK.out,trivial⟩
     case measure=>simp[intOf];omega
  ·have:i=n:=by omega
   subst this;have iA:=hv.none;rw[HA.out] at iA;subst iA;clear hv hi;go_wp2;go_ret;exact⟨rfl,rfl⟩
theorem j3a {S:Nat->Int × Int × Int} {n p:Nat} (hp:p<n) (hf:z3n (S p)=true) (hl:∀ j,j<p->z3n (S j)=false):z0e S n 1=some p:=
 j7o (by omega) (by omega) (allF_iff.2 fun j j1 j2=>by rw[show j=p from by omega];exact hf) (fun q hq=>q3a (j:=q) (Nat.le_refl _) (by omega) (hl q hq))
theorem q5v {S:Nat->Int × Int × Int} {n:Nat} (hl:∀ j,j<n->z3n (S j)=false):z0e S n 1=none:=
 j7n (fun q hq=>q3a (j:=q) (Nat.le_refl _) (by omega) (hl q (by omega)))
theorem z4b {w:World} {b bw n:Nat} {S:Nat->Int × Int × Int} (h:TblAt 144 w b bw n S) (c:Int) :
  Kz 165 #[Pq b,Iz c] w fun e w'=>e=.returned (.tuple #[Iz (tcP S n c:Nat),Iz (tcE S n c)])/\TblAt 144 w' b bw n (tcS S n c)/\Out bw (bw+1) w w':=by
 obtain⟨cap,c0,_⟩:=h.cell;have HH:=Q3 h;have HN:=Q3 h.nums;unfold tcP tcE tcS;by_cases hc:z0d c=true
 ·rw[if_pos hc,if_pos hc,if_pos hc];obtain⟨a,ha⟩:∃ a,z0e S n 1=a:=⟨_,rfl⟩
  have HA:=Q3 ha;rw[ha];unfold z0d at hc;simp at hc;obtain⟨k0,k7⟩:=hc;clear h ha;go_enter Tryz.func165,Tryz.ntmps165
  go_wp2_with fail;go_loopw [6] (fun y wr=>∃ i:Nat,i<=n/\y=Iz i/\(∀ j,j<i->z3n (S j)=false)/\wr=w) (fun y _=>n-(intOf y).toNat)
  case atStart=>exact⟨0,Nat.zero_le _,rfl,fun j hj=>by omega,rfl⟩
  case round=>
   obtain⟨i,i1,rfl,hv,rfl⟩:=hrel;have HV:=Q3 hv;clear hv;have b0:(0:Int)<=(i:Int):=by omega
   have b5:(i:Int)<=4096:=by have:=HN.out;omega
   by_cases hi:i<n
   ·have b1:(i:Int)<(n:Int):=by omega
    obtain⟨x,y,z,hp⟩:=z2j (S i);obtain⟨q0,q1,q2⟩:=HH.out.row.page hi hp;have fz0:=Row.frozen HH.out.row (i*3);have fz1:=Row.frozen HH.out.row (i*3+1);have fz2:=Row.frozen HH.out.row (i*3+2);cases hf:z3n (S i)
    ·have hx:(x == 0)=false:=by rw[hp] at hf;exact hf
     have oK:Hid (∀ j,j<i+1->z3n (S j)=false):=fun j hj=>by
      by_cases e:j=i
      ·rw[e];exact hf
      ·exact HV.out j (by omega)
     clear hp hf;go_wp2;go_roundw
     case rel=>exact⟨i+1,by omega,by go_num,oK.out,trivial⟩
     case measure=>simp[intOf];omega
    ·have hx:(x == 0)=true:=by rw[hp] at hf;exact hf
     have iA:=j3a hi hf HV.out;rw[HA.out] at iA;subst iA;have HG:=Q3 (z9q HH.out.good (HH.out.good.free hi hf) k0 k7);clear hp hf;go_wp2;go_ret2;have hr:=HH.out.row.set i 1 c 0;have fJ:Out bw (bw+1) wr (((wr.setCell ⟨bw,i*3,none⟩ (Iz 1)).setCell ⟨bw,i*3+1,none⟩ (Iz c)).setCell ⟨bw,i*3+2,none⟩ (Iz 0)):=(Out.refl _ _ _).set3 z1 _ _ _;exact⟨rfl,HH.out.turn fJ hr HG.out,fJ⟩
   ·have:i=n:=by omega
    subst this;have iA:=q5v HV.out;rw[HA.out] at iA;subst iA;clear hi;go_wp2;go_ret2;exact⟨rfl,HH.out,Out.refl _ _ _⟩
 ·rw[if_neg hc,if_neg hc,if_neg hc];unfold z0d at hc;simp at hc;by_cases h1:0<=c
  ·have h2:7<c:=by omega
   clear h hc;go_enter Tryz.func165,Tryz.ntmps165
   go_wp2;go_ret2;exact⟨rfl,HH.out,Out.refl _ _ _⟩
  ·have h2:c<0:=by omega
   clear h hc h1;go_enter Tryz.func165,Tryz.ntmps165
   go_wp2;go_ret2;exact⟨rfl,HH.out,Out.refl _ _ _⟩
theorem z4w {w:World} {b bw n:Nat} {S:Nat->Int × Int × Int} (h:TblAt 144 w b bw n S) (k:Nat) (h1:1<=k) (h2:k<=16) (p:Nat) (hf:z0e S n k=some p) :
  Kz 163 #[Pq b,Iz k] w fun e w'=>e=.returned (.tuple #[Iz p,Iz 0])/\TblAt 144 w' b bw n (setR S p k)/\Out bw (bw+1) w w':=by
 obtain⟨cap,c0,_⟩:=h.cell;have HH:=Q3 h;have HN:=Q3 h.nums;have HR:Hid (Kz 195 #[Pq b,Iz k] w fun e w'=>e=.returned (Iz (p:Int))/\w'=w):=by
  have:=q1t h k h1 h2;rw[hf] at this;exact this
 obtain⟨p1,p2,p3⟩:=z2e h.good hf;have p4:=p3 p (Nat.le_refl _) (by omega);have HG:=Q3 (z9r h.good p3 h1 h2 p2);obtain⟨q0,q1,q2⟩:=h.row.page p1 p4;have fz0:=Row.frozen h.row (p*3);have fz1:=Row.frozen h.row (p*3+1);have fz2:=Row.frozen h.row (p*3+2);have kD:=h.row.set p 2 0 k;have jD:Out bw (bw+1) w (((w.setCell ⟨bw,p*3,none⟩ (Iz 2)).setCell ⟨bw,p*3+1,none⟩ (Iz 0)).setCell ⟨bw,p*3+2,none⟩ (Iz k)):=(Out.refl _ _ _).set3 z1 _ _ _;obtain⟨W1,cZ⟩:∃ W1,((w.setCell ⟨bw,p*3,none⟩ (Iz 2)).setCell ⟨bw,p*3+1,none⟩ (Iz 0)).setCell ⟨bw,p*3+2,none⟩ (Iz k)=W1:=⟨_,rfl⟩
 rw[cZ] at kD jD;have dD:Hid (PRow W1 bw n (q0q (setP S p (2,0,(k:Int))) (p+1) (1-1) (3,0,0))):=by rw[Nat.sub_self,z4s];exact kD
 have bK:=Q3 jD;have b0:(0:Int)<=(p:Int):=by omega
 have b1:(p:Int)<(n:Int):=by omega
 have b2:(n:Int)<=4096:=by have:=HN.out;omega
 have b3:(1:Int)<=(k:Int):=by omega
 have b4:(k:Int)<=16:=by omega
 have b5:(p:Int)+(k:Int)<=(n:Int):=by omega
 have HC:Hid (∀ wr,Out bw (bw+1) w wr->cq wr b 0=some (Sz bw n cap)):=fun wr o=>o.cell c0 (by have:=HN.out;omega)
 clear h hf p1 p2 p3 p4 kD jD;go_enter Tryz.func163,Tryz.ntmps163
 go_wp2_with (go_at_call 195;refine Q4 HR.out ?_);clear q0 q1 q2 fz0 fz1 fz2 c0 cZ;go_loopw [7] (fun y wr=>∃ i:Nat,1<=i/\i<=k/\y=Iz i/\PRow wr bw n (q0q (setP S p (2,0,(k:Int))) (p+1) (i-1) (3,0,0))/\Out bw (bw+1) w wr) (fun y _=>k-(intOf y).toNat)
 case atStart=>exact⟨1,Nat.le_refl _,h1,rfl,dD.out,bK.out⟩
 case round=>
  clear dD bK;obtain⟨i,i0,i1,rfl,hr,ho⟩:=hrel;have HO:=Q3 ho;have c0:=HC.out _ ho;have a0:(1:Int)<=(i:Int):=by omega
  by_cases hi:i<k
  ·have a1:(i:Int)<(k:Int):=by omega
   obtain⟨x,y,z,hp⟩:=z2j (q0q (setP S p (2,0,(k:Int))) (p+1) (i-1) (3,0,0) (p+i));obtain⟨q0,q1,q2⟩:=hr.page (by omega) hp;have fz0:=Row.frozen hr ((p+i)*3);have fz1:=Row.frozen hr ((p+i)*3+1);have fz2:=Row.frozen hr ((p+i)*3+2);have mR:=hr.set (p+i) 3 0 0;have e:=z6k (setP S p (2,0,(k:Int))) (p+1) (i-1) (3,0,0);rw[show p+1+(i-1)=p+i from by omega,show i-1+1=i+1-1 from by omega] at e;rw[e] at mR;have eH:=Q3 mR;have aI:=Q3 (ho.set3 (b:=bw) (o:=(p+i)*3) z1 (Iz 3) (Iz 0) (Iz 0));have b6:((p+i:Nat):Int)<(n:Int):=by omega
   clear hr ho hp mR e HO;go_wp2;go_roundw
   case rel=>exact⟨i+1,by omega,by omega,by go_num,eH.out,aI.out⟩
   case measure=>simp[intOf];omega
  ·have:i=k:=by omega
   subst this;have eH:Hid (PRow wr bw n (setR S p i)):=by rw[j7t S p i h1];exact hr
   clear hr ho hi;go_wp2;go_ret2;exact⟨rfl,HH.out.turn HO.out eH.out HG.out,HO.out⟩
theorem q0y {w:World} {b bw n:Nat} {S:Nat->Int × Int × Int} (h:TblAt 144 w b bw n S) (c:Int) :
  Kz 163 #[Pq b,Iz c] w fun e w'=>e=.returned (.tuple #[Iz (trP S n c:Nat),Iz (trE S n c)])/\TblAt 144 w' b bw n (trS S n c)/\Out bw (bw+1) w w':=by
 unfold trP trE trS;have H:=Q3 h;by_cases hc:j3c c=true
 ·rw[if_pos hc,if_pos hc,if_pos hc];unfold j3c at hc;simp at hc;obtain⟨k,rfl⟩:∃ k:Nat,c=k:=⟨c.toNat,by omega⟩
  rw[show ((k:Nat):Int).toNat=k from by omega];cases hf:z0e S n k with
  | none=>
   have HR:Hid (Kz 195 #[Pq b,Iz k] w fun e w'=>e=.returned (Iz (-1))/\w'=w):=by
    have:=q1t h k (by omega) (by omega);rw[hf] at this;exact this
   have b3:(1:Int)<=(k:Int):=by omega
   have b4:(k:Int)<=16:=by omega
   clear h hf hc;go_enter Tryz.func163,Tryz.ntmps163
   go_wp2_with (go_at_call 195;refine Q4 HR.out ?_);go_ret2;exact⟨rfl,H.out,Out.refl _ _ _⟩
  | some p=>exact z4w h k (by omega) (by omega) p hf
 ·rw[if_neg hc,if_neg hc,if_neg hc];unfold j3c at hc;simp at hc;by_cases h1:1<=c
  ·have h2:16<c:=by omega
   clear h hc;go_enter Tryz.func163,Tryz.ntmps163
   go_wp2;go_ret2;exact⟨rfl,H.out,Out.refl _ _ _⟩
  ·have h2:c<1:=by omega
   clear h hc h1;go_enter Tryz.func163,Tryz.ntmps163
   go_wp2;go_ret2;exact⟨rfl,H.out,Out.refl _ _ _⟩
end Go.Proofs.YtjgnogflgoihfaaGreatDoor
