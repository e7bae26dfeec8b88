import Derived.Test.YtjbbkeoolodeaabGreatDoorB47
import Derived.Test.YtjbbkeoolodeaabGreatDoorB38
import Derived.Test.YtjbbkeoolodeaabGreatDoorRows
import Derived.Test.YtjbbkeoolodeaabGreatDoorTie
import Derived.Test.YtjbbkeoolodeaabGreatDoorB00
import Derived.ProofKit
import Derived.LaidMore
import Derived.OpenShut
import Derived.Stop.Joined
import Derived.SevenTiedAt
import Derived.ChangeArms
import Derived.Deep.Slices
import Derived.Lib.SmallJoins
import Derived.Test.YtjbbkeoolodeaabGreatDoorB23
namespace Go.Proofs.YtjbbkeoolodeaabGreatDoor
open Go.RowKit
set_option linter.unusedVariables false
set_option maxRecDepth 100000
set_option maxHeartbeats 16000000
set_option linter.unusedSimpArgs false
section
variable {B:Nat} {w w':World} {b lo hi m n cap cw co c:Nat} {s sr:Nat->Nat} {st st':Sp} {col:Nat->Nat} {z:Bool}
theorem q1z (h:PS B w b lo m m b s sr n cap cw co st col z c) (o0 o2 o3 o4:Int) (hb2:-9223372036854775808<=o2/\o2<=9223372036854775807) (lp:Option Addr) (ll lc:Nat):Calls Tryz.prog 10 #[.pointer (some ⟨b,0,none⟩),.agg #[.int .i64 o0,.int .i64 12,.int .i64 o2,.int .i64 o3,.int .i64 o4,.slice lp ll lc]] w fun e w'=>e=.returned (.bool true)/\Out 0 0 w w':=by
 have HP:=Z0 h;obtain⟨bo,hbo⟩:∃ bo,w.heap.size=bo:=⟨_,rfl⟩
 have HBo:Hid (b<bo):=by rw[<-hbo];exact h.b_lt
 clear h;go_enter Tryz.func10,Tryz.ntmps10
 go_wp2_with fail;obtain⟨W,hW⟩:∃ W,w.alloc (.cells #[.int .i64 o0,.int .i64 12,.int .i64 o2,.int .i64 o3,.int .i64 o4,.slice lp ll lc] 32)=W:=⟨_,rfl⟩
 have oW:Out 0 0 w W:=by rw[<-hW];exact(Out.refl 0 0 _).alloc _
 have fO:W.heap[bo]? = some (.cells #[.int .i64 o0,.int .i64 12,.int .i64 o2,.int .i64 o3,.int .i64 o4,.slice lp ll lc] 32 (0,0)):=by rw[<-hW,<-hbo];exact heap_alloc_new _ _
 (try rw[hW]);clear hW hbo;obtain⟨a0,ha0⟩:∃ a,q7w n st o2=a:=⟨_,rfl⟩
 have HNt:Hid (∀ V,Out 0 0 w V->Calls Tryz.prog 21 #[.pointer (some ⟨b,0,none⟩),.int .i64 o2] V fun e w'=>e=.returned (.int .i64 a0)/\Out 0 0 V w'):=fun V o=>by
  have q:=q0j (HP.out.quiet o).two HP.out.le.2.2 o2 hb2.1 hb2.2;rw[ha0] at q;exact q
 clear ha0;have HSe:Hid (∀ V,Out 0 0 w V->Calls Tryz.prog 27 #[.pointer (some ⟨b,0,none⟩),.int .i64 a0,.int .i64 o3] V fun e w'=>e=.returned (.bool true)/\Out 0 0 V w'):=fun V o=>z9u (HP.out.quiet o).two a0 o3
 obtain⟨p0,p1⟩:=(HP.out.quiet oW).ks.cells;obtain⟨_,x1,x2,x3,x4,x5⟩:=Y8 fO;go_wp2_with fail;refine wp_region_held_drew (S:=fun w'=>w'.cell? ⟨b,0,none⟩=some (.pointer (some ⟨s 14,0,none⟩))/\w'.cell? ⟨b,1,none⟩=some (.pointer (some ⟨sr 0,0,none⟩))/\w'.cell? ⟨bo,2,none⟩=some (.int .i64 o2)/\w'.cell? ⟨bo,3,none⟩=some (.int .i64 o3)/\w'.cell? ⟨bo,4,none⟩=some (.int .i64 o4)) (by kernel_rfl) ?hS125 (fun hHeld=>?rest125)
 case hS125=>exact⟨p0,p1,x2,x3,x4⟩
 obtain⟨Z,hZ⟩:∃ Z,W.drew=Z:=⟨_,rfl⟩
 have oZ:Out 0 0 W Z:=by rw[<-hZ];exact(Out.refl 0 0 _).drew
 rw[hZ] at hHeld ⊢;clear hZ p0 p1 x1 x2 x3 x4 x5;refine tk 0 ?_;refine tk 1 ?_;refine tk 2 ?_;refine tk 3 ?_;refine tk 5 ?_;refine tk 6 ?_;refine rd1 4 fun KK hK=>?_
 simp only[xa,xb,xc];go_simp;refine(HNt.out _ (oW.trans oZ)).mono ?_;rintro e V1 ⟨rfl,q1⟩;refine hK.out _ _ ?hS132 (fun hHeld2=>?rest132)
 case hS132=>exact⟨q1.cell hHeld.1 z0,q1.cell hHeld.2.1 z0,q1.cell hHeld.2.2.1 z0,q1.cell hHeld.2.2.2.1 z0,q1.cell hHeld.2.2.2.2 z0⟩
 clear hK KK;replace hHeld:=hHeld2;clear hHeld2;refine rd1 7 fun KK hK=>?_
 simp only[xa,xb,xc];go_simp;refine(HSe.out _ ((oW.trans oZ).trans q1)).mono ?_;rintro e V2 ⟨rfl,q2⟩;refine hK.out _ _ ?hS133 (fun hHeld2=>?rest133)
 case hS133=>exact⟨q2.cell hHeld.1 z0,q2.cell hHeld.2.1 z0,q2.cell hHeld.2.2.1 z0,q2.cell hHeld.2.2.2.1 z0,q2.cell hHeld.2.2.2.2 z0⟩
 clear hK KK;replace hHeld:=hHeld2;clear hHeld2;refine tk 8 ?_;refine dn ?_;have o5:=oW.trans (oZ.trans (q1.trans q2));clear hHeld oZ q1 q2;go_wp2;go_ret;exact⟨rfl,o5⟩
theorem x2r (h:PS B w b lo m m b s sr n cap cw co st col z c) (o0 o2 o3 o4:Int) (lp:Option Addr) (ll lc:Nat):Calls Tryz.prog 10 #[.pointer (some ⟨b,0,none⟩),.agg #[.int .i64 o0,.int .i64 15,.int .i64 o2,.int .i64 o3,.int .i64 o4,.slice lp ll lc]] w fun e w'=>e=.returned (.bool true)/\Out 0 0 w w':=by
 have HP:=Z0 h;obtain⟨bo,hbo⟩:∃ bo,w.heap.size=bo:=⟨_,rfl⟩
 have HBo:Hid (b<bo):=by rw[<-hbo];exact h.b_lt
 clear h;go_enter Tryz.func10,Tryz.ntmps10
 go_wp2_with fail;obtain⟨W,hW⟩:∃ W,w.alloc (.cells #[.int .i64 o0,.int .i64 15,.int .i64 o2,.int .i64 o3,.int .i64 o4,.slice lp ll lc] 32)=W:=⟨_,rfl⟩
 have oW:Out 0 0 w W:=by rw[<-hW];exact(Out.refl 0 0 _).alloc _
 have fO:W.heap[bo]? = some (.cells #[.int .i64 o0,.int .i64 15,.int .i64 o2,.int .i64 o3,.int .i64 o4,.slice lp ll lc] 32 (0,0)):=by rw[<-hW,<-hbo];exact heap_alloc_new _ _
 (try rw[hW]);clear hW hbo;obtain⟨v,hv⟩:∃ v,(q2m n st o2).getD 0=v:=⟨_,rfl⟩
 obtain⟨ok,hok⟩:∃ v,(q2m n st o2).isSome=v:=⟨_,rfl⟩
 have HCp:Hid (∀ V,Out 0 0 w V->Calls Tryz.prog 32 #[.pointer (some ⟨s 14,0,none⟩),.int .i64 o2] V fun e w'=>e=.returned (.tuple #[.int .i64 v,.bool ok])/\Out 0 0 V w'):=fun V o=>by
  have q:=x3c (HP.out.sp.quiet o).1 o2;rw[show (Z6 n st).R=q2m n st from rfl,hv,hok] at q;exact q.mono fun e w' ⟨h1,h2⟩=>⟨h1,h2 ▸ Out.refl 0 0 _⟩
 have HCr:Hid (∀ V,Out 0 0 w V->Calls Tryz.prog 33 #[.pointer (some ⟨sr 0,0,none⟩),.int .i64 o2] V fun e w'=>e=.returned (.tuple #[.int .i64 v,.bool ok])/\Out 0 0 V w'):=fun V o=>by
  have q:=x2y (HP.out.rf.quiet o) o2;rw[hv,hok] at q;exact q.mono fun e w' ⟨h1,h2⟩=>⟨h1,h2 ▸ Out.refl 0 0 _⟩
 clear hv hok;obtain⟨p0,p1⟩:=(HP.out.quiet oW).ks.cells;obtain⟨_,x1,x2,x3,x4,x5⟩:=Y8 fO;go_wp2_with fail;refine wp_region_held_drew (S:=fun w'=>w'.cell? ⟨b,0,none⟩=some (.pointer (some ⟨s 14,0,none⟩))/\w'.cell? ⟨b,1,none⟩=some (.pointer (some ⟨sr 0,0,none⟩))/\w'.cell? ⟨bo,2,none⟩=some (.int .i64 o2)/\w'.cell? ⟨bo,3,none⟩=some (.int .i64 o3)/\w'.cell? ⟨bo,4,none⟩=some (.int .i64 o4)) (by kernel_rfl) ?hS148 (fun hHeld=>?rest148)
 case hS148=>exact⟨p0,p1,x2,x3,x4⟩
 obtain⟨Z,hZ⟩:∃ Z,W.drew=Z:=⟨_,rfl⟩
 have oZ:Out 0 0 W Z:=by rw[<-hZ];exact(Out.refl 0 0 _).drew
 rw[hZ] at hHeld ⊢;clear hZ p0 p1 x1 x2 x3 x4 x5;refine tk 0 ?_;refine tk 1 ?_;refine tk 2 ?_;refine tk 3 ?_;refine tk 4 ?_;refine tk 5 ?_;refine rd1 6 fun KK hK=>?_
 simp only[xa,xb,xc];go_simp;refine(HCp.out _ (oW.trans oZ)).mono ?_;rintro e V1 ⟨rfl,q1⟩;refine hK.out _ _ ?hS155 (fun hHeld2=>?rest155)
 case hS155=>exact⟨q1.cell hHeld.1 z0,q1.cell hHeld.2.1 z0,q1.cell hHeld.2.2.1 z0,q1.cell hHeld.2.2.2.1 z0,q1.cell hHeld.2.2.2.2 z0⟩
 clear hK KK;replace hHeld:=hHeld2;clear hHeld2;refine tk 7 ?_;refine tk 8 ?_;refine tk 9 ?_;refine tk 10 ?_;refine tk 11 ?_;refine dn ?_;have oF4:=oW.trans (oZ.trans q1);obtain⟨p0,p1,x2,x3,x4⟩:=hHeld;have x1:=p0;have x5:=p0;clear oZ q1;go_wp2_with fail;refine wp_region_held_drew (S:=fun w'=>w'.cell? ⟨b,0,none⟩=some (.pointer (some ⟨s 14,0,none⟩))/\w'.cell? ⟨b,1,none⟩=some (.pointer (some ⟨sr 0,0,none⟩))/\w'.cell? ⟨bo,2,none⟩=some (.int .i64 o2)/\w'.cell? ⟨bo,3,none⟩=some (.int .i64 o3)/\w'.cell? ⟨bo,4,none⟩=some (.int .i64 o4)) (by kernel_rfl) ?hS135 (fun hHeld=>?rest135)
 case hS135=>exact⟨p0,p1,x2,x3,x4⟩
 obtain⟨Z,hZ⟩:∃ Z,V1.drew=Z:=⟨_,rfl⟩
 have oZ:Out 0 0 V1 Z:=by rw[<-hZ];exact(Out.refl 0 0 _).drew
 rw[hZ] at hHeld ⊢;clear hZ p0 p1 x1 x2 x3 x4 x5;refine tk 0 ?_;refine tk 1 ?_;refine tk 2 ?_;refine tk 3 ?_;refine tk 4 ?_;refine tk 5 ?_;refine rd1 6 fun KK hK=>?_
 simp only[xa,xb,xc];go_simp;refine(HCr.out _ (oF4.trans oZ)).mono ?_;rintro e V2 ⟨rfl,q1⟩;refine hK.out _ _ ?hS142 (fun hHeld2=>?rest142)
 case hS142=>exact⟨q1.cell hHeld.1 z0,q1.cell hHeld.2.1 z0,q1.cell hHeld.2.2.1 z0,q1.cell hHeld.2.2.2.1 z0,q1.cell hHeld.2.2.2.2 z0⟩
 clear hK KK;replace hHeld:=hHeld2;clear hHeld2;refine tk 7 ?_;refine tk 8 ?_;refine tk 9 ?_;refine tk 10 ?_;refine tk 11 ?_;refine dn ?_;have o5:=oF4.trans (oZ.trans q1);clear hHeld oZ q1;go_wp2;go_ret;exact⟨rfl,o5⟩
theorem q1k (h:PS B w b lo m m b s sr n cap cw co st col z c) (o0 o2 o3 o4:Int) (lp:Option Addr) (ll lc:Nat) (l:List Int) (hl:z2x w lp l) (hll:l.length=ll) (hn:ll<=4000) (hlast:st.last<4611686018427387904):Calls Tryz.prog 10 #[.pointer (some ⟨b,0,none⟩),.agg #[.int .i64 o0,.int .i64 14,.int .i64 o2,.int .i64 o3,.int .i64 o4,.slice lp ll lc]] w fun e w'=>e=.returned (.bool true)/\Out 0 0 w w':=by
 have HP:=Z0 h;obtain⟨bo,hbo⟩:∃ bo,w.heap.size=bo:=⟨_,rfl⟩
 have HBo:Hid (b<bo):=by rw[<-hbo];exact h.b_lt
 clear h;go_enter Tryz.func10,Tryz.ntmps10
 go_wp2_with fail;obtain⟨W,hW⟩:∃ W,w.alloc (.cells #[.int .i64 o0,.int .i64 14,.int .i64 o2,.int .i64 o3,.int .i64 o4,.slice lp ll lc] 32)=W:=⟨_,rfl⟩
 have oW:Out 0 0 w W:=by rw[<-hW];exact(Out.refl 0 0 _).alloc _
 have fO:W.heap[bo]? = some (.cells #[.int .i64 o0,.int .i64 14,.int .i64 o2,.int .i64 o3,.int .i64 o4,.slice lp ll lc] 32 (0,0)):=by rw[<-hW,<-hbo];exact heap_alloc_new _ _
 (try rw[hW]);clear hW hbo;have HLi:=Z0 hl;have HLl:=Z0 hll;have ll0:(0:Int)<=(ll:Int):=by omega
 have ll1:(ll:Int)<=4000:=by omega
 obtain⟨T,hT⟩:∃ T,ll+20=T:=⟨_,rfl⟩
 have HT:=Z0 hT;have T1:(ll:Int)<=(T:Int):=by omega
 obtain⟨vf,hvf⟩:∃ v,z1w n st l=v:=⟨_,rfl⟩
 have HLe:=q5p (cp:=lc) (z1q hl oW (fun _ _ _ _=>.inr (Nat.zero_le _))) (by omega);rw[hll,hT] at HLe;have HLe:=Z0 HLe;have HFr:Hid (∀ V,Out 0 0 w V->Calls Tryz.prog 31 #[.pointer (some ⟨sr 0,0,none⟩),.slice lp ll lc] V fun e w'=>e=.returned (.bool vf)/\Out 0 0 V w'):=fun V o=>by
  have q:=q1q (HP.out.rf.quiet o) HP.out.sp.2 (cp:=lc) (z1q hl o (fun _ _ _ _=>.inr (Nat.zero_le _))) (by omega);rw[hvf,hll] at q;exact q
 have HFp:Hid (∀ V G cc,Out 0 0 w V->Row V G 3 T (lnV l)->Calls Tryz.prog 29 #[.pointer (some ⟨s 14,0,none⟩),.slice (some ⟨G,0,none⟩) ll cc] V fun e w'=>e=.returned (.bool vf)/\Out 0 0 V w'):=fun V G cc o hr=>by
  have hi:z5u V (some ⟨G,0,none⟩) l:=by
   refine .inr ⟨G,rfl,hr.lt,fun j hj=>?_⟩;have q:=hr.cell (i:=j) (by omega);rw[q];unfold lnV;simp[hj]
  have q:=q8g (HP.out.sp.quiet o).1 (cp:=cc) hi (by omega);rw[show (Z6 n st).S=st.S from rfl,j4o HP.out.sp.2,hvf,hll] at q;exact q
 have HK:Hid (∀ V G cc,Out 0 0 w V->Row V G 3 T (lnV l)->Calls Tryz.prog 30 #[.slice (some ⟨G,0,none⟩) T cc,.slice lp ll lc] V fun e w'=>e=.returned (.bool true)/\Out G (G+1) V w'):=fun V G cc o hr=>by
  have q:=q5x (cc:=cc) (cp:=lc) (l:=l) (p:=lp) (w:=V) (G:=G) (by rw[hll,hT];exact hr) (z1q hl o (fun _ _ _ _=>.inr (Nat.zero_le _))) (by omega);rw[hll,hT] at q;exact q
 have HfO:=Z0 fO;have HO:=Z0 oW;have x5:=(Y8 fO).2.2.2.2.2;have Hl0:=Z0 (Q4 fO);clear hl hll hvf hT hn hlast oW fO;go_wp2_with fail;refine HLe.out.mono ?_;rintro e W1 ⟨G,cc,rfl,hr,hG,q0,hcc⟩;have cc1:(T:Int)<=(cc:Int):=by omega
 have hcI:(ll:Int)<=(cc:Int):=by omega
 have hcN:ll<=cc:=by omega
 have HcG:=Z0 (show T<=cc from hcc);have o1:=HO.out.trans q0;have HG:Hid (w.heap.size<=G/\b<G/\bo<G):=⟨Nat.le_trans HO.out.size hG,Nat.lt_of_lt_of_le HP.out.b_lt (Nat.le_trans HO.out.size hG),Nat.lt_of_lt_of_le Hl0.out hG⟩
 obtain⟨p0,p1⟩:=(HP.out.quiet o1).ks.cells;replace x5:=q0.cell x5 z0;have HR:=Z0 hr;have HO1:=Z0 o1;clear hr hG q0 o1;go_wp2_with fail;refine wp_region_held_drew (S:=fun w'=>w'.cell? ⟨b,0,none⟩=some (.pointer (some ⟨s 14,0,none⟩))/\w'.cell? ⟨b,1,none⟩=some (.pointer (some ⟨sr 0,0,none⟩))/\w'.cell? ⟨bo,5,none⟩=some (.slice lp ll lc)) (by kernel_rfl) ?hS178 (fun hHeld=>?rest178)
 case hS178=>exact⟨p0,p1,x5⟩
 obtain⟨Z,hZ⟩:∃ Z,W1.drew=Z:=⟨_,rfl⟩
 have oZ:Out 0 0 W1 Z:=by rw[<-hZ];exact(Out.refl 0 0 _).drew
 rw[hZ] at hHeld ⊢;clear hZ p0 p1 x5;refine tk 0 ?_;refine tk 1 ?_;refine tk 2 ?_;refine tk 3 ?_;refine tk 4 ?_;refine tk 5 ?_;refine tk 6 ?_;refine tk 7 ?_;refine tk 8 ?_;refine rd1 9 fun KK hK=>?_
 simp only[xa,xb,xc];go_simp;refine(HFp.out _ _ _ (HO1.out.trans oZ) (HR.out.kept oZ z0)).mono ?_;rintro e V1 ⟨rfl,q1⟩;refine hK.out _ _ ?hS188 (fun hHeld2=>?rest188)
 case hS188=>exact⟨q1.cell hHeld.1 z0,q1.cell hHeld.2.1 z0,q1.cell hHeld.2.2 z0⟩
 clear hK KK;replace hHeld:=hHeld2;clear hHeld2;refine tk 10 ?_;refine dn ?_;have HO5:=Z0 (HO1.out.trans (oZ.trans q1));have HR5:=Z0 (HR.out.kept (oZ.trans q1) z0);obtain⟨p0,p1,x5⟩:=hHeld;clear oZ q1;go_wp2_with fail;refine wp_region_held_drew (S:=fun w'=>w'.cell? ⟨b,0,none⟩=some (.pointer (some ⟨s 14,0,none⟩))/\w'.cell? ⟨b,1,none⟩=some (.pointer (some ⟨sr 0,0,none⟩))/\w'.cell? ⟨bo,5,none⟩=some (.slice lp ll lc)) (by kernel_rfl) ?hS161 (fun hHeld=>?rest161)
 case hS161=>exact⟨p0,p1,x5⟩
 obtain⟨Y,hZ⟩:∃ Z,V1.drew=Z:=⟨_,rfl⟩
 have oY:Out 0 0 V1 Y:=by rw[<-hZ];exact(Out.refl 0 0 _).drew
 rw[hZ] at hHeld ⊢;clear hZ p0 p1 x5;refine tk 0 ?_;refine tk 1 ?_;refine tk 2 ?_;refine rd1 3 fun KK hK=>?_
 simp only[xa,xb,xc];go_simp;refine(HK.out _ _ _ (HO5.out.trans oY) (HR5.out.kept oY z0)).mono ?_;rintro e V5 ⟨rfl,q5⟩;have w5:=(HO5.out.trans oY).past q5 HG.out.1;refine hK.out _ _ ?hS165 (fun hHeld2=>?rest165)
 case hS165=>exact⟨q5.cell hHeld.1 (.inl (by have:=HG.out;omega)),q5.cell hHeld.2.1 (.inl (by have:=HG.out;omega)),q5.cell hHeld.2.2 (.inl (by have:=HG.out;omega))⟩
 clear hK KK;replace hHeld:=hHeld2;clear hHeld2;refine tk 4 ?_;refine tk 5 ?_;refine tk 6 ?_;refine tk 7 ?_;refine tk 8 ?_;refine tk 9 ?_;refine tk 10 ?_;refine tk 11 ?_;refine rd1 12 fun KK hK=>?_
 simp only[xa,xb,xc];go_simp;refine(HFr.out _ w5).mono ?_;rintro e V6 ⟨rfl,q6⟩;refine hK.out _ _ ?hS174 (fun hHeld2=>?rest174)
 case hS174=>exact⟨q6.cell hHeld.1 z0,q6.cell hHeld.2.1 z0,q6.cell hHeld.2.2 z0⟩
 clear hK KK;replace hHeld:=hHeld2;clear hHeld2;refine tk 13 ?_;refine tk 14 ?_;refine tk 15 ?_;refine dn ?_;have hE:Hid (Out 0 0 w V6):=w5.trans q6;clear hHeld q5 q6 oY w5;go_wp2;go_ret;exact⟨rfl,hE.out⟩
end
section
variable {B:Nat} {w w':World} {q:Pr} {st:Sp} {col:Nat->Nat} {c:Nat}
theorem z2e (h:PQ B w q st col true c) {e:Ending} (g:e=.returned (.bool true)/\Out 0 0 w w'):e=.returned (.bool true)/\∃ st' col',PQ B w' q st' col' true (c+3)/\GX q col col' w w':=
 ⟨g.1,st,col,PQ.mono ⟨h.1.quiet g.2,h.2⟩ (by omega),GX.of_fix ((Fix.refl _ _).out g.2)⟩
end
theorem look_words:z7g 10 13:=fun B w q st col c o0 k a b' d lp lc l h hc k1 k2 ha hb hl hg hn hx=>by
 have hk:k=10\/k=11\/k=12\/k=13:=by omega
 rcases hk with rfl | rfl | rfl | rfl
 ·exact(z5s h.1 o0 a b' d lp l.length lc).mono fun e w' g=>z2e h g
 ·exact(q3a h.1 o0 a b' d lp l.length lc).mono fun e w' g=>z2e h g
 ·exact(q1z h.1 o0 a b' d ha lp l.length lc).mono fun e w' g=>z2e h g
 ·exact(q2d h.1 o0 a b' d lp l.length lc).mono fun e w' g=>z2e h g
theorem look_fits:z7g 14 14:=fun B w q st col c o0 k a b' d lp lc l h hc k1 k2 ha hb hl hg hn hx=>by
 obtain rfl:k=14:=by omega
 exact(q1k h.1 o0 a b' d lp l.length lc l hl rfl (by omega) (by have:=h.2;omega)).mono fun e w' g=>z2e h g
theorem look_wrongs:z7g 18 18:=fun B w q st col c o0 k a b' d lp lc l h hc k1 k2 ha hb hl hg hn hx=>by
 obtain rfl:k=18:=by omega
 exact(z5w h.1 o0 a b' d lp l.length lc).mono fun e w' g=>z2e h g
end Go.Proofs.YtjbbkeoolodeaabGreatDoor
namespace Go.Proofs.YtjbbkeoolodeaabGreatDoor
open Go.ChangeShapes Go.WideShapes Go.ChangeAt Go.RowKit
set_option linter.unusedVariables false
set_option maxRecDepth 100000
set_option maxHeartbeats 16000000
set_option linter.unusedSimpArgs false
theorem own:ownKnob Tryz.prog.godebug=none:=by kernel_rfl
theorem laid_out:laidOutB Tryz.prog=true:=by kernel_rfl
theorem gD : Tryz.prog.globalNamed "math/bits.deBruijn64tab" = some 3 := by kernel_rfl
theorem tD:(Tryz.prog.globals[3]?).map (·.type)=some 175:=by kernel_rfl
theorem gS : Tryz.prog.globalNamed "hearth/layout.shapes" = some 0 := by kernel_rfl
theorem tS:(Tryz.prog.globals[0]?).map (·.type)=some 137:=by kernel_rfl
theorem gF : Tryz.prog.globalNamed "hearth/pages.free" = some 2 := by kernel_rfl
theorem tF:(Tryz.prog.globals[2]?).map (·.type)=some 147:=by kernel_rfl
theorem gR : Tryz.prog.globalNamed "hearth/pages.rest" = some 1 := by kernel_rfl
theorem tR:(Tryz.prog.globals[1]?).map (·.type)=some 147:=by kernel_rfl
theorem q5f:Tryz.prog.cellsOf 136=2:=by kernel_rfl
theorem z4m:Tryz.prog.cellsOf 3=1:=by kernel_rfl
theorem j5f:Tryz.prog.cellsOf 5=1:=by kernel_rfl
def laidL : List (String × DataW Unit) := [("math/bits.deBruijn64tab", Rows.laid_math_bits_deBruijn64tab), ("hearth/layout.shapes", Rows.laid_hearth_layout_shapes), ("hearth/pages.free", Rows.laid_hearth_pages_free), ("hearth/pages.rest", Rows.laid_hearth_pages_rest)]
theorem j6e:(Rows.laid_hearth_layout_shapes:DataW Unit)=.agg ((List.range 14).map fun(j:Nat)=>.agg [.lit (.int .i64 (wd j)),.lit (.int .i64 (mo j))]):=by kernel_rfl
theorem j3v:(Rows.laid_math_bits_deBruijn64tab:DataW Unit)=.agg (Lib.deBruijn64tab.map fun(n:Nat)=>.lit (.int .u8 (n:Int))):=by kernel_rfl
theorem door_met (os:Os) (args:Array Value):laidMetH Tryz.prog laidL ((World.doorLaid Tryz.prog 400 os).forCall (fun _ _=>0) ⟨#[],args,[]⟩).memory:=
 laidMetH_of_parts3 (fuel:=8) (laidMet_of_run' 8 (by kernel_rfl) (by kernel_rfl)) (by kernel_rfl) (by kernel_rfl)
theorem x1r {W:World} {f:Nat} {q:List MemPlace} {z0 z1 z2:Int} {cs:Array Value} (hd:DataW.trod (fun x=>()) Tryz.prog W 0 (fun x=>true) false f 147 cs.toList=some (.agg [.lit (.int .i64 z0),.lit (.int .i64 z1),.lit (.int .i64 z2)],q)) :
  cs[0]? = some (.int .i64 z0)/\cs[1]? = some (.int .i64 z1)/\cs[2]? = some (.int .i64 z2):=by
 obtain⟨ys,m2,rfl,hy,hylen,hyn,hyel⟩:=DataW.trod_struct Tryz.underlying147 hd;have hy3:ys.length=3:=hyn;have k0:DataW.trod (fun x=>()) Tryz.prog W 0 (fun x=>true) false m2 3 (List.take (Tryz.prog.cellsOf 3) (List.drop 0 cs.toList))=ys[0]? :=hyel 0 _ rfl;have k1:DataW.trod (fun x=>()) Tryz.prog W 0 (fun x=>true) false m2 3 (List.take (Tryz.prog.cellsOf 3) (List.drop 1 cs.toList))=ys[1]? :=hyel 1 _ rfl;have k2:DataW.trod (fun x=>()) Tryz.prog W 0 (fun x=>true) false m2 3 (List.take (Tryz.prog.cellsOf 3) (List.drop 2 cs.toList))=ys[2]? :=hyel 2 _ rfl;match ys,hy3 with
 | [y0,y1,y2],_=>
  rw[z4m] at k0 k1 k2;simp only[List.getElem?_cons_zero,List.getElem?_cons_succ] at k0 k1 k2;obtain⟨x0,e0,f0,_⟩:=DataW.trod_int Tryz.underlying3 k0;obtain⟨x1,e1,f1,_⟩:=DataW.trod_int Tryz.underlying3 k1;obtain⟨x2,e2,f2,_⟩:=DataW.trod_int Tryz.underlying3 k2;simp[f0,f1,f2] at hy;obtain⟨⟨rfl,rfl,rfl⟩,_⟩:=hy;have q0:cs.toList[0]? = some (.int .i64 z0):=by
   have:=congrArg (fun l=>l[0]?) e0;simpa [List.getElem?_take,List.getElem?_drop] using this
  have q1:cs.toList[1]? = some (.int .i64 z1):=by
   have:=congrArg (fun l=>l[0]?) e1;simpa [List.getElem?_take,List.getElem?_drop] using this
  have q2:cs.toList[2]? = some (.int .i64 z2):=by
   have:=congrArg (fun l=>l[0]?) e2;simpa [List.getElem?_take,List.getElem?_drop] using this
  rw[Array.getElem?_toList] at q0 q1 q2;exact⟨q0,q1,q2⟩
theorem tab_S {W : World} {cs : Array Value} {f : Nat} {q : List MemPlace} (hv : W.var? Tryz.prog "hearth/layout.shapes" = some cs) (hd : DataW.trod (fun x => ()) Tryz.prog W 0 (fun x => true) false f 137 cs.toList = some (Rows.laid_hearth_layout_shapes, q)) :
  ∀ j:Nat,j<14->W.cell? ⟨0,j*2,none⟩=some (.int .i64 (wd j))/\W.cell? ⟨0,j*2+1,none⟩=some (.int .i64 (mo j)):=by
 obtain⟨xs,m,rfl,hx,hlen,hn,hel⟩:=DataW.trod_array Tryz.underlying137 hd;rw[j6e] at hx;simp only[Prod.mk.injEq,DataW.agg.injEq] at hx;intro j hj;have hj':=hel j hj;have hxj:xs[j]? = some (xs[j]'(by omega)):=List.getElem?_eq_getElem (by omega);rw[hxj,q5f] at hj';obtain⟨ys,m2,rfl,hy,hylen,hyn,hyel⟩:=DataW.trod_struct Tryz.underlying136 hj';have hy2:ys.length=2:=hyn;have k0:DataW.trod (fun x=>()) Tryz.prog W 0 (fun x=>true) false m2 3 (List.take (Tryz.prog.cellsOf 3) (List.drop 0 (List.take 2 (List.drop (j*2) cs.toList))))=ys[0]? :=hyel 0 _ rfl;have k1:DataW.trod (fun x=>()) Tryz.prog W 0 (fun x=>true) false m2 3 (List.take (Tryz.prog.cellsOf 3) (List.drop 1 (List.take 2 (List.drop (j*2) cs.toList))))=ys[1]? :=hyel 1 _ rfl;match ys,hy2 with
 | [y0,y1],_=>
  rw[z4m] at k0 k1;simp only[List.getElem?_cons_zero,List.getElem?_cons_succ] at k0 k1;obtain⟨z0,e0,f0,_⟩:=DataW.trod_int Tryz.underlying3 k0;obtain⟨z1,e1,f1,_⟩:=DataW.trod_int Tryz.underlying3 k1;have hk:(xs.map (·.1))[j]? = some (.agg [.lit (.int .i64 z0),.lit (.int .i64 z1)]):=by
   rw[List.getElem?_map,hxj,Option.map_some,hy];simp[f0,f1]
  rw[<-hx.1,List.getElem?_map,List.getElem?_range hj] at hk;simp at hk;have q0:cs.toList[j*2]? = some (.int .i64 z0):=by
   have:=congrArg (fun l=>l[0]?) e0;simpa [List.getElem?_take,List.getElem?_drop] using this
  have q1:cs.toList[j*2+1]? = some (.int .i64 z1):=by
   have:=congrArg (fun l=>l[0]?) e1;simpa [List.getElem?_take,List.getElem?_drop] using this
  refine⟨?_,?_⟩
  ·rw[World.var?_cell gS hv (j*2),<-Array.getElem?_toList,q0,<-hk.1]
  ·rw[World.var?_cell gS hv (j*2+1),<-Array.getElem?_toList,q1,<-hk.2]
theorem tab_D {W : World} {cs : Array Value} {f : Nat} {q : List MemPlace} (hv : W.var? Tryz.prog "math/bits.deBruijn64tab" = some cs) (hd : DataW.trod (fun x => ()) Tryz.prog W 0 (fun x => true) false f 175 cs.toList = some (Rows.laid_math_bits_deBruijn64tab, q)) :
  ∀ j,j<64->W.cell? ⟨3,j,none⟩=some (.int .u8 (Lib.deBruijn64tab.getD j 0)):=by
 obtain⟨xs,m,rfl,hx,hlen,hn,hel⟩:=DataW.trod_array Tryz.underlying175 hd;rw[j3v] at hx;simp only[Prod.mk.injEq,DataW.agg.injEq] at hx;intro j hj;have hj':=hel j hj;have hxj:xs[j]? = some (xs[j]'(by omega)):=List.getElem?_eq_getElem (by omega);rw[hxj,j5f] at hj';obtain⟨k,e1,e2,_⟩:=DataW.trod_int Tryz.underlying5 hj';have hk:(xs.map (·.1))[j]? = some (.lit (.int .u8 k)):=by rw[List.getElem?_map,hxj,Option.map_some,e2]
 rw[<-hx.1,List.getElem?_map] at hk;have hlt:j<Lib.deBruijn64tab.length:=by rw[show Lib.deBruijn64tab.length=64 from by decide +kernel];exact hj
 rw[List.getElem?_eq_getElem hlt,Option.map_some] at hk;simp at hk;rw[World.var?_cell gD hv j];have e3:cs.toList[j]? = some (.int .u8 k):=by
  have:=congrArg (fun l=>l[0]?) e1;simp at this;simpa using this
 rw[<-Array.getElem?_toList,e3,<-hk];simp[List.getD_eq_getElem?_getD,List.getElem?_eq_getElem hlt]
theorem tab_of_laid {W:World} (h:laidMetH Tryz.prog laidL W):Tab W:=by
 rw[MakeChecks.laidMetH_plain _ _ _ (by kernel_rfl)] at h;obtain⟨ps,⟨g1,t1,cs1,f1,p1,q1,hg1,ht1,hv1,hd1,hr1,_⟩,_,_⟩:=h;obtain⟨g2,t2,cs2,f2,p2,q2,hg2,ht2,hv2,hd2,hr2,_⟩:=hr1;obtain⟨g3,t3,cs3,f3,p3,q3,hg3,ht3,hv3,hd3,hr3,_⟩:=hr2;obtain⟨g4,t4,cs4,f4,p4,q4,hg4,ht4,hv4,hd4,_,_⟩:=hr3;obtain rfl:=Option.some.inj (gD.symm.trans hg1);obtain rfl:=Option.some.inj (tD.symm.trans ht1);obtain rfl:=Option.some.inj (gS.symm.trans hg2);obtain rfl:=Option.some.inj (tS.symm.trans ht2);obtain rfl:=Option.some.inj (gF.symm.trans hg3);obtain rfl:=Option.some.inj (tF.symm.trans ht3);obtain rfl:=Option.some.inj (gR.symm.trans hg4);obtain rfl:=Option.some.inj (tR.symm.trans ht4);obtain⟨a0,a1,a2⟩:=x1r hd3;obtain⟨b0,b1,b2⟩:=x1r hd4;refine⟨fun j hj=>?_,tab_S hv2 hd2,tab_D hv1 hd1⟩;rw[World.var?_cell hg3 hv3 j,World.var?_cell hg4 hv4 j];have hj':j=0\/j=1\/j=2:=by omega
 rcases hj' with rfl | rfl | rfl
 ·exact⟨a0,b0⟩
 ·exact⟨a1,b1⟩
 ·exact⟨a2,b2⟩
end Go.Proofs.YtjbbkeoolodeaabGreatDoor
namespace Go.Proofs.YtjbbkeoolodeaabGreatDoor
open Go.ChangeShapes Go.WideShapes Go.ChangeAt Go.RowKit Go.Deep
set_option linter.unusedVariables false
set_option maxRecDepth 100000
set_option maxHeartbeats 16000000
set_option linter.unusedSimpArgs false
theorem j2q:Tryz.prog.cellsOf 32=6:=by kernel_rfl
theorem j4q:Tryz.prog.cellsOf 30=1:=by kernel_rfl
theorem q2n {H:Type} {enc:TypeId × Value->H} {P:Program} {w:World} {base:Nat} {spare:Nat->Bool} {held:Bool} {t:TypeId} {f0 f1 f2 f3 f4 f5:Field} {fuel:Nat} {cs:List Value} {x:DataW H × List MemPlace} (ht:P.underlying t=some (.struct #[f0,f1,f2,f3,f4,f5])) (h:DataW.trod enc P w base spare held fuel t cs=some x) :
  ∃ (y0 y1 y2 y3 y4 y5:DataW H × List MemPlace) (n:Nat),DataW.trod enc P w base spare held n f0.type ((cs.drop f0.offset).take (P.cellsOf f0.type))=some y0/\DataW.trod enc P w base spare held n f1.type ((cs.drop f1.offset).take (P.cellsOf f1.type))=some y1 ∧
   DataW.trod enc P w base spare held n f2.type ((cs.drop f2.offset).take (P.cellsOf f2.type))=some y2/\DataW.trod enc P w base spare held n f3.type ((cs.drop f3.offset).take (P.cellsOf f3.type))=some y3/\DataW.trod enc P w base spare held n f4.type ((cs.drop f4.offset).take (P.cellsOf f4.type))=some y4/\DataW.trod enc P w base spare held n f5.type ((cs.drop f5.offset).take (P.cellsOf f5.type))=some y5:=by
 obtain⟨xs,n,_,rfl,hl,hlen,hf⟩:=DataW.trod_struct ht h;match xs,hlen with
 | [y0,y1,y2,y3,y4,y5],_=>exact⟨y0,y1,y2,y3,y4,y5,n,by simpa using hf 0 f0 rfl,by simpa using hf 1 f1 rfl,by simpa using hf 2 f2 rfl,by simpa using hf 3 f3 rfl,by simpa using hf 4 f4 rfl,by simpa using hf 5 f5 rfl⟩
theorem j2e {w:World} {a:Addr} {v:Value} (h:w.cell? a=some v):a.block<w.heap.size:=by
 by_cases hb:a.block<w.heap.size
 ·exact hb
 ·have:w.heap[a.block]? = none:=by simp;omega
  simp[World.cell?,this] at h
theorem j0w {H:Type} {enc:TypeId × Value->H} {W:World} {fuel:Nat} {cs:List Value} {x:DataW H × List MemPlace} (h:DataW.trod enc Tryz.prog W 0 (fun _=>true) true fuel 30 cs=some x) :
  ∃ (p:Option Addr) (L:List Int) (cap:Nat),cs=[.slice p L.length cap]/\SlI W W.heap.size p L:=by
 rcases open_slice1 Tryz.underlying30 z4m h with h0 | ⟨a,len,cap,m,n,V,D,Pl,rfl,hb,hl,hm,hmm,rfl,hx⟩
 ·exact⟨none,[],0,h0.1,⟨(fun x hx=>by cases hx),.inl rfl⟩⟩
 simp only[if_true] at hmm;subst hmm;have each:∀ i,i<len->∃ z:Int,W.cell? (a.add i)=some (.int .i64 z)/\-9223372036854775808<=z/\z<=9223372036854775807:=by
  intro i hi;obtain⟨h1,h2⟩:=hx i (by omega);obtain⟨z,e,_,hw⟩:=DataW.trod_int Tryz.underlying3 h2;simp only[List.cons.injEq,and_true] at e;exact⟨z,by rw[h1,e],z5i hw⟩
 obtain⟨q,hq⟩:=choose_lt each;have hlen:((List.range len).map q).length=len:=by simp
 refine⟨some a,(List.range len).map q,_,by rw[hlen],⟨fun x hx=>?_,?_⟩⟩
 ·obtain⟨i,hi,rfl⟩:=List.mem_map.1 hx;exact(hq i (by simpa using hi)).2
 ·by_cases h0:len=0
  ·left;subst h0;rfl
  ·right
   obtain⟨b,off,spot⟩:=a;have hspot:spot=none:=by
    have:=(hq 0 (by omega)).1;simpa [Addr.add] using World.cell?_spot this
   subst hspot;refine⟨b,off,rfl,?_,fun j x hj=>?_⟩
   ·have:=j2e (hq 0 (by omega)).1;simpa [Addr.add] using this
   ·have hj':j<len:=by have:=(List.getElem?_eq_some_iff.1 hj).1;simpa using this
    have e:x=q j:=by rw[List.getElem?_map,List.getElem?_range hj'] at hj;simpa using hj.symm
    rw[e];have:=(hq j hj').1;rw[add_plain] at this;exact this
def mkO (t:Int × Int × Int × Int × List Int):OpQ:=⟨t.1,t.2.1,t.2.2.1,t.2.2.2.1,t.2.2.2.2⟩
theorem open_script {H:Type} {enc:TypeId × Value->H} {W:World} {fuel:Nat} {cs:List Value} {x:DataW H × List MemPlace} (h:DataW.trod enc Tryz.prog W 0 (fun _=>true) true fuel 22 cs=some x) :
  ∃ (p:Option Addr) (os:List OpQ) (cap:Nat),cs=[.slice p os.length cap]/\ScrAt W W.heap.size p os:=by
 rcases open_slice Tryz.underlying22 h with h0 | ⟨a,len,cap,m,n,D,Pl,rfl,hb,hl,hm,hmm,rfl,hx⟩
 ·exact⟨none,[],0,h0.1,⟨(fun x hx=>by cases hx),.inl rfl⟩⟩
 simp only[if_true] at hmm;subst hmm;have each:∀ i,i<len->∃ q:(Int × Int × Int × Int × List Int) × Int × Option Addr × Nat,W.cell? (a.add (i*6))=some (.int .i64 q.2.1)/\W.cell? (a.add (i*6+1))=some (.int .i64 (mkO q.1).k)/\W.cell? (a.add (i*6+2))=some (.int .i64 (mkO q.1).a)/\W.cell? (a.add (i*6+3))=some (.int .i64 (mkO q.1).b) ∧
   W.cell? (a.add (i*6+4))=some (.int .i64 (mkO q.1).c)/\W.cell? (a.add (i*6+5))=some (.slice q.2.2.1 (mkO q.1).L.length q.2.2.2)/\SlI W W.heap.size q.2.2.1 (mkO q.1).L/\-9223372036854775808<=(mkO q.1).a/\(mkO q.1).a<=9223372036854775807/\-9223372036854775808<=(mkO q.1).b/\(mkO q.1).b<=9223372036854775807:=by
  intro i hi;obtain⟨cs',h1,h2⟩:=hx i (by omega);rw[j2q] at h1;obtain⟨_,hlen,hcell⟩:=World.cells?_some h1;obtain⟨y0,y1,y2,y3,y4,y5,n',g0,g1,g2,g3,g4,g5⟩:=q2n Tryz.underlying32 h2;match cs',hlen with
  | [v0,v1,v2,v3,v4,v5],_=>
   simp[z4m,j4q] at g0 g1 g2 g3 g4 g5;obtain⟨z0,e0,_,w0⟩:=DataW.trod_int Tryz.underlying3 g0;obtain⟨z1,e1,_,w1⟩:=DataW.trod_int Tryz.underlying3 g1;obtain⟨z2,e2,_,w2⟩:=DataW.trod_int Tryz.underlying3 g2;obtain⟨z3,e3,_,w3⟩:=DataW.trod_int Tryz.underlying3 g3;obtain⟨z4,e4,_,w4⟩:=DataW.trod_int Tryz.underlying3 g4;obtain⟨lp,L,lc,e5,hSl⟩:=j0w g5;simp only[List.cons.injEq,and_true] at e0 e1 e2 e3 e4 e5;have f0:=hcell 0 (by omega);have f1:=hcell 1 (by omega);have f2:=hcell 2 (by omega);have f3:=hcell 3 (by omega);have f4:=hcell 4 (by omega);have f5:=hcell 5 (by omega);rw[add_add] at f0 f1 f2 f3 f4 f5;obtain⟨r1,r2⟩:=z5i w2;obtain⟨r3,r4⟩:=z5i w3;exact⟨((z1,z2,z3,z4,L),z0,lp,lc),by simpa [e0] using f0,by simpa [e1,mkO] using f1,by simpa [e2,mkO] using f2,by simpa [e3,mkO] using f3,by simpa [e4,mkO] using f4,by simpa [e5,mkO] using f5,hSl,r1,r2,r3,r4⟩
 obtain⟨q,hq⟩:=choose_lt each;have hlen:((List.range len).map fun i=>mkO (q i).1).length=len:=by simp
 have getq:∀ j o,((List.range len).map fun i=>mkO (q i).1)[j]? = some o->j<len/\o=mkO (q j).1:=by
  intro j o hj;have hj':j<len:=by have:=(List.getElem?_eq_some_iff.1 hj).1;simpa using this
  rw[List.getElem?_map,List.getElem?_range hj'] at hj;exact⟨hj',by simpa using hj.symm⟩
 refine⟨some a,(List.range len).map (fun i=>mkO (q i).1),_,by rw[hlen],⟨fun o ho=>?_,?_⟩⟩
 ·obtain⟨i,hi,rfl⟩:=List.mem_map.1 ho;exact(hq i (by simpa using hi)).2.2.2.2.2.2.2
 ·by_cases h0:len=0
  ·left;subst h0;rfl
  ·right
   obtain⟨b,off,spot⟩:=a;have hspot:spot=none:=by
    have:=(hq 0 (by omega)).1;simpa [Addr.add] using World.cell?_spot this
   subst hspot;refine⟨b,off,rfl,?_,fun j o hj=>?_⟩
   ·have:=j2e (hq 0 (by omega)).1;simpa [Addr.add] using this
   ·obtain⟨hj',rfl⟩:=getq j o hj;obtain⟨c0,c1,c2,c3,c4,c5,c6,_⟩:=hq j hj';rw[add_plain] at c0 c1 c2 c3 c4 c5;exact⟨_,_,_,c0,by rw[Nat.add_assoc];exact c1,by rw[Nat.add_assoc];exact c2,by rw[Nat.add_assoc];exact c3,by rw[Nat.add_assoc];exact c4,by rw[Nat.add_assoc];exact c5,c6⟩
end Go.Proofs.YtjbbkeoolodeaabGreatDoor
