import Derived.Test.YtjbbkeoolodeaabGreatDoorB44
import Derived.Test.YtjbbkeoolodeaabGreatDoorB43
namespace Go.Proofs.YtjbbkeoolodeaabGreatDoor
open Go.RowKit
set_option linter.unusedVariables false
set_option maxRecDepth 100000
set_option maxHeartbeats 16000000
set_option linter.unusedSimpArgs false
def wSp (st:Sp) (W:Nat->Int):Sp:={ st with W:=W }
theorem x1l {n:Nat} {st:Sp} (h:Inv n st) (W:Nat->Int):Inv n (wSp st W):=⟨h.n1,h.n2,h.good,h.objs,h.none,h.heads,h.last0,h.ser,h.one⟩
section
variable {B:Nat} {w w':World} {b lo hi m n cap cw co c:Nat} {s sr:Nat->Nat} {st st':Sp} {col:Nat->Nat} {z:Bool}
theorem q6p (h:SpAt w lo hi s n cap st) (a i v:Int):Calls Tryz.prog 19 #[.pointer (some ⟨s 14,0,none⟩),.int .i64 a,.int .i64 i,.int .i64 v] w fun e w'=>e=.returned (z3l (z4v (Z6 n st) a i) (z3w (Z6 n st) a))/\SpAt w' lo hi s n cap (wSp st (wrW (Z6 n st) a i v))/\Out lo hi w w':=
 (j0j h.1 (z7e h.2) a i v).mono fun e w' ⟨h1,h2,h3⟩=>⟨h1,⟨h2,x1l h.2 _⟩,h3⟩
theorem q8s (h:SpAt w lo hi s n cap st) (a v:Int):Calls Tryz.prog 22 #[.pointer (some ⟨s 14,0,none⟩),.int .i64 a,.int .i64 v] w fun e w'=>e=.returned (.bool (inB (64*n) a))/\SpAt w' lo hi s n cap (wSp st (z6c n st.W a v))/\Out lo hi w w':=
 (j4x h.1 a v).mono fun e w' ⟨h1,h2,h3⟩=>⟨h1,⟨h2,x1l h.2 _⟩,h3⟩
def z8j (B b lo m n cap cw co c:Nat) (s sr:Nat->Nat) (st:Sp) (col:Nat->Nat) (z:Bool) (w w':World):Prop:=
 ∃ st',PS B w' b lo m m b s sr n cap cw co st' col z c/\Out lo b w w'/\st'.last<=st.last+1
theorem PS.b_lt (h:PS B w b lo m m b s sr n cap cw co st col z c):b<w.heap.size:=z0a h.ks.cells.1
theorem Y8 {w:World} {g:Nat} {x0 x1 x2 x3 x4 x5:Value} {T:TypeId} (h:w.heap[g]? = some (.cells #[x0,x1,x2,x3,x4,x5] T (0,0))):w.cell? ⟨g,0,none⟩=some x0/\w.cell? ⟨g,1,none⟩=some x1/\w.cell? ⟨g,2,none⟩=some x2/\w.cell? ⟨g,3,none⟩=some x3/\w.cell? ⟨g,4,none⟩=some x4/\w.cell? ⟨g,5,none⟩=some x5:=by
 simp[World.cell?,h]
theorem q3s (h:PS B w b lo m m b s sr n cap cw co st col z c) (o0 o2 o3 o4:Int) (lp:Option Addr) (ll lc:Nat):Calls Tryz.prog 9 #[.pointer (some ⟨b,0,none⟩),.agg #[.int .i64 o0,.int .i64 2,.int .i64 o2,.int .i64 o3,.int .i64 o4,.slice lp ll lc]] w fun e w'=>e=.returned (.bool true)/\z8j B b lo m n cap cw co c s sr st col z w w':=by
 have HP:=Z0 h;obtain⟨bo,hbo⟩:∃ bo,w.heap.size=bo:=⟨_,rfl⟩
 have HBo:Hid (b<bo):=by rw[<-hbo];exact h.b_lt
 clear h;go_enter Tryz.func9,Tryz.ntmps9
 go_wp2_with fail;obtain⟨W,hW⟩:∃ W,w.alloc (.cells #[.int .i64 o0,.int .i64 2,.int .i64 o2,.int .i64 o3,.int .i64 o4,.slice lp ll lc] 32)=W:=⟨_,rfl⟩
 have oW:Out 0 0 w W:=by rw[<-hW];exact(Out.refl 0 0 _).alloc _
 have fO:W.heap[bo]? = some (.cells #[.int .i64 o0,.int .i64 2,.int .i64 o2,.int .i64 o3,.int .i64 o4,.slice lp ll lc] 32 (0,0)):=by rw[<-hW,<-hbo];exact heap_alloc_new _ _
 (try rw[hW]);clear hW hbo;obtain⟨ve,hve⟩:∃ v,z4v (Z6 n st) (o2) o3=v:=⟨_,rfl⟩
 obtain⟨va,hva⟩:∃ v,z3w (Z6 n st) (o2)=v:=⟨_,rfl⟩
 have HCp:Hid (∀ V,Out 0 0 w V->Calls Tryz.prog 19 #[.pointer (some ⟨s 14,0,none⟩),.int .i64 (o2),.int .i64 o3,.int .i64 o4] V fun e w'=>e=.returned (.agg #[.int .i64 ve,.int .i64 va])/\SpAt w' lo m s n cap (wSp st (wrW (Z6 n st) (o2) o3 o4))/\Out lo m V w'):=fun V o=>by
  have q:=q6p (HP.out.sp.quiet o) (o2) o3 o4;unfold z3l at q;rw[hve,hva] at q;exact q
 have HCr:Hid (∀ V,RfAt V m b sr n cw co st->Calls Tryz.prog 20 #[.pointer (some ⟨sr 0,0,none⟩),.int .i64 (o2),.int .i64 o3,.int .i64 o4] V fun e w'=>e=.returned (.agg #[.int .i64 ve,.int .i64 va])/\RfAt w' m b sr n cw co (wSp st (wrW (Z6 n st) (o2) o3 o4))/\Out m b V w'):=fun V o=>by
  have q:=z5r o HP.out.sp.2 (o2) o3 o4;unfold z3l at q;rw[hve,hva] at q;exact q
 clear hve hva;obtain⟨p0,p1⟩:=(HP.out.quiet oW).ks.cells;obtain⟨_,x1,x2,x3,x4,x5⟩:=Y8 fO;clear fO;go_wp2_with fail;refine wp_region_held_drew (S:=fun w'=>w'.cell? ⟨b,0,none⟩=some (.pointer (some ⟨s 14,0,none⟩))/\w'.cell? ⟨b,1,none⟩=some (.pointer (some ⟨sr 0,0,none⟩))/\w'.cell? ⟨bo,2,none⟩=some (.int .i64 o2)/\w'.cell? ⟨bo,3,none⟩=some (.int .i64 o3)/\w'.cell? ⟨bo,4,none⟩=some (.int .i64 o4)) (by kernel_rfl) ?hS1 (fun hHeld=>?rest1)
 case hS1=>exact⟨p0,p1,x2,x3,x4⟩
 obtain⟨Z,hZ⟩:∃ Z,W.drew=Z:=⟨_,rfl⟩
 have oZ:Out 0 0 W Z:=by rw[<-hZ];exact(Out.refl 0 0 _).drew
 rw[hZ] at hHeld ⊢;clear hZ p0 p1 x1 x2 x3 x4 x5;refine tk 0 ?_;refine tk 1 ?_;refine tk 2 ?_;refine tk 3 ?_;refine tk 4 ?_;refine tk 5 ?_;refine tk 6 ?_;refine tk 7 ?_;refine tk 8 ?_;refine tk 9 ?_;refine tk 11 ?_;refine tk 12 ?_;refine tk 13 ?_;refine tk 14 ?_;refine tk 15 ?_;refine tk 16 ?_;refine tk 17 ?_;refine tk 18 ?_;refine tk 19 ?_;refine tk 20 ?_;refine rd1 10 fun KK hK=>?_
 simp only[xa,xb,xc];go_simp;refine(HCp.out _ (oW.trans oZ)).mono ?_;rintro e V1 ⟨rfl,s1,q1⟩;refine hK.out _ _ ?hS22 (fun hHeld2=>?rest22)
 case hS22=>exact⟨q1.cell hHeld.1 (.inr (by have h1:=HBo.out;have h2:=HP.out.le;omega)),q1.cell hHeld.2.1 (.inr (by have h1:=HBo.out;have h2:=HP.out.le;omega)),q1.cell hHeld.2.2.1 (.inr (by have h1:=HBo.out;have h2:=HP.out.le;omega)),q1.cell hHeld.2.2.2.1 (.inr (by have h1:=HBo.out;have h2:=HP.out.le;omega)),q1.cell hHeld.2.2.2.2 (.inr (by have h1:=HBo.out;have h2:=HP.out.le;omega))⟩
 clear hK KK;replace hHeld:=hHeld2;clear hHeld2;refine rd1 21 fun KK hK=>?_
 simp only[xa,xb,xc];go_simp;refine(HCr.out _ ((HP.out.rf.quiet (oW.trans oZ)).kept q1 (.inr (Nat.le_refl _)))).mono ?_;rintro e V2 ⟨rfl,r2,q2⟩;have hle:=HP.out.le;have s2:=s1.kept q2 (.inl (Nat.le_refl _)) (.inl (by have:=HP.out.rf.glob;omega));have oE:Out lo b w V2:=(((oW.trans oZ).any lo b).trans (q1.wide (Nat.le_refl _) (by omega))).trans (q2.wide (by omega) (Nat.le_refl _));clear s1 hle;refine hK.out _ _ ?hS23 (fun hHeld2=>?rest23)
 case hS23=>exact⟨q2.cell hHeld.1 (.inr (by have h1:=HBo.out;have h2:=HP.out.le;omega)),q2.cell hHeld.2.1 (.inr (by have h1:=HBo.out;have h2:=HP.out.le;omega)),q2.cell hHeld.2.2.1 (.inr (by have h1:=HBo.out;have h2:=HP.out.le;omega)),q2.cell hHeld.2.2.2.1 (.inr (by have h1:=HBo.out;have h2:=HP.out.le;omega)),q2.cell hHeld.2.2.2.2 (.inr (by have h1:=HBo.out;have h2:=HP.out.le;omega))⟩
 clear q1 q2;clear hK KK;replace hHeld:=hHeld2;clear hHeld2;refine rd1 22 fun KK hK=>?_
 simp only[xa,xb,xc];go_simp;refine(z0l _ _ _).mono ?_;rintro e V3 ⟨rfl,q3⟩;have hE:z8j B b lo m n cap cw co c s sr st col z w V3:=⟨_,(HP.out.turn oE s2 r2).quiet q3,oE.trans (q3.any _ _),by show st.last<=st.last+1;omega⟩
 clear s2 r2 oE;refine hK.out _ _ ?hS24 (fun hHeld2=>?rest24)
 case hS24=>exact⟨q3.cell hHeld.1 z0,q3.cell hHeld.2.1 z0,q3.cell hHeld.2.2.1 z0,q3.cell hHeld.2.2.2.1 z0,q3.cell hHeld.2.2.2.2 z0⟩
 clear q3;clear hK KK;replace hHeld:=hHeld2;clear hHeld2;refine tk 23 ?_;refine dn ?_;have HE:=Z0 hE;clear hHeld hE;go_wp2;go_ret;exact⟨rfl,HE.out⟩
theorem q5e (h:PS B w b lo m m b s sr n cap cw co st col z c) (o0 o2 o3 o4:Int) (hb2:-9223372036854775808<=o2/\o2<=9223372036854775807) (lp:Option Addr) (ll lc:Nat):Calls Tryz.prog 9 #[.pointer (some ⟨b,0,none⟩),.agg #[.int .i64 o0,.int .i64 3,.int .i64 o2,.int .i64 o3,.int .i64 o4,.slice lp ll lc]] w fun e w'=>e=.returned (.bool true)/\z8j B b lo m n cap cw co c s sr st col z w w':=by
 have HP:=Z0 h;obtain⟨bo,hbo⟩:∃ bo,w.heap.size=bo:=⟨_,rfl⟩
 have HBo:Hid (b<bo):=by rw[<-hbo];exact h.b_lt
 clear h;go_enter Tryz.func9,Tryz.ntmps9
 go_wp2_with fail;obtain⟨W,hW⟩:∃ W,w.alloc (.cells #[.int .i64 o0,.int .i64 3,.int .i64 o2,.int .i64 o3,.int .i64 o4,.slice lp ll lc] 32)=W:=⟨_,rfl⟩
 have oW:Out 0 0 w W:=by rw[<-hW];exact(Out.refl 0 0 _).alloc _
 have fO:W.heap[bo]? = some (.cells #[.int .i64 o0,.int .i64 3,.int .i64 o2,.int .i64 o3,.int .i64 o4,.slice lp ll lc] 32 (0,0)):=by rw[<-hW,<-hbo];exact heap_alloc_new _ _
 (try rw[hW]);clear hW hbo;obtain⟨a0,ha0⟩:∃ a,q7w n st o2=a:=⟨_,rfl⟩
 have HNt:Hid (∀ V,Out 0 0 w V->Calls Tryz.prog 21 #[.pointer (some ⟨b,0,none⟩),.int .i64 o2] V fun e w'=>e=.returned (.int .i64 a0)/\Out 0 0 V w'):=fun V o=>by
  have q:=q0j (HP.out.quiet o).two HP.out.le.2.2 o2 hb2.1 hb2.2;rw[ha0] at q;exact q
 clear ha0;obtain⟨_,_,x2,_⟩:=Y8 fO;go_wp2_with fail;refine(HNt.out _ oW).mono ?_;rintro e W1 ⟨rfl,oN⟩;have oW1:=oW.trans oN;have fO1:=oN.heap fO z0;clear oN x2 HNt;obtain⟨ve,hve⟩:∃ v,z4v (Z6 n st) (a0) o3=v:=⟨_,rfl⟩
 obtain⟨va,hva⟩:∃ v,z3w (Z6 n st) (a0)=v:=⟨_,rfl⟩
 have HCp:Hid (∀ V,Out 0 0 w V->Calls Tryz.prog 19 #[.pointer (some ⟨s 14,0,none⟩),.int .i64 (a0),.int .i64 o3,.int .i64 o4] V fun e w'=>e=.returned (.agg #[.int .i64 ve,.int .i64 va])/\SpAt w' lo m s n cap (wSp st (wrW (Z6 n st) (a0) o3 o4))/\Out lo m V w'):=fun V o=>by
  have q:=q6p (HP.out.sp.quiet o) (a0) o3 o4;unfold z3l at q;rw[hve,hva] at q;exact q
 have HCr:Hid (∀ V,RfAt V m b sr n cw co st->Calls Tryz.prog 20 #[.pointer (some ⟨sr 0,0,none⟩),.int .i64 (a0),.int .i64 o3,.int .i64 o4] V fun e w'=>e=.returned (.agg #[.int .i64 ve,.int .i64 va])/\RfAt w' m b sr n cw co (wSp st (wrW (Z6 n st) (a0) o3 o4))/\Out m b V w'):=fun V o=>by
  have q:=z5r o HP.out.sp.2 (a0) o3 o4;unfold z3l at q;rw[hve,hva] at q;exact q
 clear hve hva;obtain⟨p0,p1⟩:=(HP.out.quiet oW1).ks.cells;obtain⟨_,x1,x2,x3,x4,x5⟩:=Y8 fO1;clear fO;go_wp2_with fail;refine wp_region_held_drew (S:=fun w'=>w'.cell? ⟨b,0,none⟩=some (.pointer (some ⟨s 14,0,none⟩))/\w'.cell? ⟨b,1,none⟩=some (.pointer (some ⟨sr 0,0,none⟩))/\w'.cell? ⟨bo,2,none⟩=some (.int .i64 o2)/\w'.cell? ⟨bo,3,none⟩=some (.int .i64 o3)/\w'.cell? ⟨bo,4,none⟩=some (.int .i64 o4)) (by kernel_rfl) ?hS26 (fun hHeld=>?rest26)
 case hS26=>exact⟨p0,p1,x2,x3,x4⟩
 obtain⟨Z,hZ⟩:∃ Z,W1.drew=Z:=⟨_,rfl⟩
 have oZ:Out 0 0 W1 Z:=by rw[<-hZ];exact(Out.refl 0 0 _).drew
 rw[hZ] at hHeld ⊢;clear hZ p0 p1 x1 x2 x3 x4 x5;refine tk 0 ?_;refine tk 1 ?_;refine tk 2 ?_;refine tk 3 ?_;refine tk 4 ?_;refine tk 5 ?_;refine tk 6 ?_;refine tk 7 ?_;refine tk 8 ?_;refine tk 10 ?_;refine tk 11 ?_;refine tk 12 ?_;refine tk 13 ?_;refine tk 14 ?_;refine tk 15 ?_;refine tk 16 ?_;refine tk 17 ?_;refine tk 18 ?_;refine rd1 9 fun KK hK=>?_
 simp only[xa,xb,xc];go_simp;refine(HCp.out _ (oW1.trans oZ)).mono ?_;rintro e V1 ⟨rfl,s1,q1⟩;refine hK.out _ _ ?hS45 (fun hHeld2=>?rest45)
 case hS45=>exact⟨q1.cell hHeld.1 (.inr (by have h1:=HBo.out;have h2:=HP.out.le;omega)),q1.cell hHeld.2.1 (.inr (by have h1:=HBo.out;have h2:=HP.out.le;omega)),q1.cell hHeld.2.2.1 (.inr (by have h1:=HBo.out;have h2:=HP.out.le;omega)),q1.cell hHeld.2.2.2.1 (.inr (by have h1:=HBo.out;have h2:=HP.out.le;omega)),q1.cell hHeld.2.2.2.2 (.inr (by have h1:=HBo.out;have h2:=HP.out.le;omega))⟩
 clear hK KK;replace hHeld:=hHeld2;clear hHeld2;refine rd1 19 fun KK hK=>?_
 simp only[xa,xb,xc];go_simp;refine(HCr.out _ ((HP.out.rf.quiet (oW1.trans oZ)).kept q1 (.inr (Nat.le_refl _)))).mono ?_;rintro e V2 ⟨rfl,r2,q2⟩;have hle:=HP.out.le;have s2:=s1.kept q2 (.inl (Nat.le_refl _)) (.inl (by have:=HP.out.rf.glob;omega));have oE:Out lo b w V2:=(((oW1.trans oZ).any lo b).trans (q1.wide (Nat.le_refl _) (by omega))).trans (q2.wide (by omega) (Nat.le_refl _));clear s1 hle;refine hK.out _ _ ?hS46 (fun hHeld2=>?rest46)
 case hS46=>exact⟨q2.cell hHeld.1 (.inr (by have h1:=HBo.out;have h2:=HP.out.le;omega)),q2.cell hHeld.2.1 (.inr (by have h1:=HBo.out;have h2:=HP.out.le;omega)),q2.cell hHeld.2.2.1 (.inr (by have h1:=HBo.out;have h2:=HP.out.le;omega)),q2.cell hHeld.2.2.2.1 (.inr (by have h1:=HBo.out;have h2:=HP.out.le;omega)),q2.cell hHeld.2.2.2.2 (.inr (by have h1:=HBo.out;have h2:=HP.out.le;omega))⟩
 clear q1 q2;clear hK KK;replace hHeld:=hHeld2;clear hHeld2;refine rd1 20 fun KK hK=>?_
 simp only[xa,xb,xc];go_simp;refine(z0l _ _ _).mono ?_;rintro e V3 ⟨rfl,q3⟩;have hE:z8j B b lo m n cap cw co c s sr st col z w V3:=⟨_,(HP.out.turn oE s2 r2).quiet q3,oE.trans (q3.any _ _),by show st.last<=st.last+1;omega⟩
 clear s2 r2 oE;refine hK.out _ _ ?hS47 (fun hHeld2=>?rest47)
 case hS47=>exact⟨q3.cell hHeld.1 z0,q3.cell hHeld.2.1 z0,q3.cell hHeld.2.2.1 z0,q3.cell hHeld.2.2.2.1 z0,q3.cell hHeld.2.2.2.2 z0⟩
 clear q3;clear hK KK;replace hHeld:=hHeld2;clear hHeld2;refine tk 21 ?_;refine dn ?_;have HE:=Z0 hE;clear hHeld hE;go_wp2;go_ret;exact⟨rfl,HE.out⟩
theorem q3r (h:PS B w b lo m m b s sr n cap cw co st col z c) (o0 o2 o3 o4:Int) (lp:Option Addr) (ll lc:Nat):Calls Tryz.prog 9 #[.pointer (some ⟨b,0,none⟩),.agg #[.int .i64 o0,.int .i64 4,.int .i64 o2,.int .i64 o3,.int .i64 o4,.slice lp ll lc]] w fun e w'=>e=.returned (.bool true)/\z8j B b lo m n cap cw co c s sr st col z w w':=by
 have HP:=Z0 h;obtain⟨bo,hbo⟩:∃ bo,w.heap.size=bo:=⟨_,rfl⟩
 have HBo:Hid (b<bo):=by rw[<-hbo];exact h.b_lt
 clear h;go_enter Tryz.func9,Tryz.ntmps9
 go_wp2_with fail;obtain⟨W,hW⟩:∃ W,w.alloc (.cells #[.int .i64 o0,.int .i64 4,.int .i64 o2,.int .i64 o3,.int .i64 o4,.slice lp ll lc] 32)=W:=⟨_,rfl⟩
 have oW:Out 0 0 w W:=by rw[<-hW];exact(Out.refl 0 0 _).alloc _
 have fO:W.heap[bo]? = some (.cells #[.int .i64 o0,.int .i64 4,.int .i64 o2,.int .i64 o3,.int .i64 o4,.slice lp ll lc] 32 (0,0)):=by rw[<-hW,<-hbo];exact heap_alloc_new _ _
 (try rw[hW]);clear hW hbo;obtain⟨vi,hvi⟩:∃ v,inB (64*n) (o2)=v:=⟨_,rfl⟩
 have HCp:Hid (∀ V,Out 0 0 w V->Calls Tryz.prog 22 #[.pointer (some ⟨s 14,0,none⟩),.int .i64 (o2),.int .i64 o3] V fun e w'=>e=.returned (.bool vi)/\SpAt w' lo m s n cap (wSp st (z6c n st.W (o2) o3))/\Out lo m V w'):=fun V o=>by
  have q:=q8s (HP.out.sp.quiet o) (o2) o3;rw[hvi] at q;exact q
 have HCr:Hid (∀ V,RfAt V m b sr n cw co st->Calls Tryz.prog 23 #[.pointer (some ⟨sr 0,0,none⟩),.int .i64 (o2),.int .i64 o3] V fun e w'=>e=.returned (.bool vi)/\RfAt w' m b sr n cw co (wSp st (z6c n st.W (o2) o3))/\Out m b V w'):=fun V o=>by
  have q:=z7d o (o2) o3;rw[hvi] at q;exact q
 clear hvi;obtain⟨p0,p1⟩:=(HP.out.quiet oW).ks.cells;obtain⟨_,x1,x2,x3,x4,x5⟩:=Y8 fO;clear fO;go_wp2_with fail;refine wp_region_held_drew (S:=fun w'=>w'.cell? ⟨b,0,none⟩=some (.pointer (some ⟨s 14,0,none⟩))/\w'.cell? ⟨b,1,none⟩=some (.pointer (some ⟨sr 0,0,none⟩))/\w'.cell? ⟨bo,2,none⟩=some (.int .i64 o2)/\w'.cell? ⟨bo,3,none⟩=some (.int .i64 o3)/\w'.cell? ⟨bo,4,none⟩=some (.int .i64 o4)) (by kernel_rfl) ?hS49 (fun hHeld=>?rest49)
 case hS49=>exact⟨p0,p1,x2,x3,x4⟩
 obtain⟨Z,hZ⟩:∃ Z,W.drew=Z:=⟨_,rfl⟩
 have oZ:Out 0 0 W Z:=by rw[<-hZ];exact(Out.refl 0 0 _).drew
 rw[hZ] at hHeld ⊢;clear hZ p0 p1 x1 x2 x3 x4 x5;refine tk 0 ?_;refine tk 1 ?_;refine tk 2 ?_;refine tk 3 ?_;refine tk 4 ?_;refine tk 5 ?_;refine tk 6 ?_;refine tk 7 ?_;refine tk 9 ?_;refine tk 10 ?_;refine tk 11 ?_;refine tk 12 ?_;refine tk 13 ?_;refine tk 14 ?_;refine tk 15 ?_;refine tk 16 ?_;refine rd1 8 fun KK hK=>?_
 simp only[xa,xb,xc];go_simp;refine(HCp.out _ (oW.trans oZ)).mono ?_;rintro e V1 ⟨rfl,s1,q1⟩;refine hK.out _ _ ?hS66 (fun hHeld2=>?rest66)
 case hS66=>exact⟨q1.cell hHeld.1 (.inr (by have h1:=HBo.out;have h2:=HP.out.le;omega)),q1.cell hHeld.2.1 (.inr (by have h1:=HBo.out;have h2:=HP.out.le;omega)),q1.cell hHeld.2.2.1 (.inr (by have h1:=HBo.out;have h2:=HP.out.le;omega)),q1.cell hHeld.2.2.2.1 (.inr (by have h1:=HBo.out;have h2:=HP.out.le;omega)),q1.cell hHeld.2.2.2.2 (.inr (by have h1:=HBo.out;have h2:=HP.out.le;omega))⟩
 clear hK KK;replace hHeld:=hHeld2;clear hHeld2;refine rd1 17 fun KK hK=>?_
 simp only[xa,xb,xc];go_simp;refine(HCr.out _ ((HP.out.rf.quiet (oW.trans oZ)).kept q1 (.inr (Nat.le_refl _)))).mono ?_;rintro e V2 ⟨rfl,r2,q2⟩;have hle:=HP.out.le;have s2:=s1.kept q2 (.inl (Nat.le_refl _)) (.inl (by have:=HP.out.rf.glob;omega));have oE:Out lo b w V2:=(((oW.trans oZ).any lo b).trans (q1.wide (Nat.le_refl _) (by omega))).trans (q2.wide (by omega) (Nat.le_refl _));clear s1 hle;refine hK.out _ _ ?hS67 (fun hHeld2=>?rest67)
 case hS67=>exact⟨q2.cell hHeld.1 (.inr (by have h1:=HBo.out;have h2:=HP.out.le;omega)),q2.cell hHeld.2.1 (.inr (by have h1:=HBo.out;have h2:=HP.out.le;omega)),q2.cell hHeld.2.2.1 (.inr (by have h1:=HBo.out;have h2:=HP.out.le;omega)),q2.cell hHeld.2.2.2.1 (.inr (by have h1:=HBo.out;have h2:=HP.out.le;omega)),q2.cell hHeld.2.2.2.2 (.inr (by have h1:=HBo.out;have h2:=HP.out.le;omega))⟩
 clear q1 q2;clear hK KK;replace hHeld:=hHeld2;clear hHeld2;refine tk 18 ?_;refine tk 19 ?_;refine dn ?_;have hE:z8j B b lo m n cap cw co c s sr st col z w V2:=⟨_,HP.out.turn oE s2 r2,oE,by show st.last<=st.last+1;omega⟩
 have HE:=Z0 hE;clear hHeld hE s2 r2 oE;go_wp2;go_ret;exact⟨rfl,HE.out⟩
theorem q5j (h:PS B w b lo m m b s sr n cap cw co st col z c) (o0 o2 o3 o4:Int) (hb2:-9223372036854775808<=o2/\o2<=9223372036854775807) (hb3:-9223372036854775808<=o3/\o3<=9223372036854775807) (lp:Option Addr) (ll lc:Nat):Calls Tryz.prog 9 #[.pointer (some ⟨b,0,none⟩),.agg #[.int .i64 o0,.int .i64 5,.int .i64 o2,.int .i64 o3,.int .i64 o4,.slice lp ll lc]] w fun e w'=>e=.returned (.bool true)/\z8j B b lo m n cap cw co c s sr st col z w w':=by
 have HP:=Z0 h;obtain⟨bo,hbo⟩:∃ bo,w.heap.size=bo:=⟨_,rfl⟩
 have HBo:Hid (b<bo):=by rw[<-hbo];exact h.b_lt
 clear h;go_enter Tryz.func9,Tryz.ntmps9
 go_wp2_with fail;obtain⟨W,hW⟩:∃ W,w.alloc (.cells #[.int .i64 o0,.int .i64 5,.int .i64 o2,.int .i64 o3,.int .i64 o4,.slice lp ll lc] 32)=W:=⟨_,rfl⟩
 have oW:Out 0 0 w W:=by rw[<-hW];exact(Out.refl 0 0 _).alloc _
 have fO:W.heap[bo]? = some (.cells #[.int .i64 o0,.int .i64 5,.int .i64 o2,.int .i64 o3,.int .i64 o4,.slice lp ll lc] 32 (0,0)):=by rw[<-hW,<-hbo];exact heap_alloc_new _ _
 (try rw[hW]);clear hW hbo;obtain⟨a0,ha0⟩:∃ a,q7w n st o2=a:=⟨_,rfl⟩
 have HNt:Hid (∀ V,Out 0 0 w V->Calls Tryz.prog 21 #[.pointer (some ⟨b,0,none⟩),.int .i64 o2] V fun e w'=>e=.returned (.int .i64 a0)/\Out 0 0 V w'):=fun V o=>by
  have q:=q0j (HP.out.quiet o).two HP.out.le.2.2 o2 hb2.1 hb2.2;rw[ha0] at q;exact q
 clear ha0;obtain⟨c0,hc0⟩:∃ a,wth o3 40=a:=⟨_,rfl⟩
 have HWi:Hid (∀ V,Calls Tryz.prog 24 #[.int .i64 o3,.int .i64 40] V fun e w'=>e=.returned (.int .i64 c0)/\Out 0 0 V w'):=fun V=>by
  have q:=z8y o3 40 V hb3.1 hb3.2 (by omega) (by omega);rw[hc0] at q;exact q.mono fun e w' ⟨h1,h2⟩=>⟨h1,h2 ▸ Out.refl 0 0 _⟩
 clear hc0;obtain⟨p0,p1⟩:=(HP.out.quiet oW).ks.cells;obtain⟨_,x1,x2,x3,x4,x5⟩:=Y8 fO;go_wp2_with fail;refine wp_region_held_drew (S:=fun w'=>w'.cell? ⟨b,0,none⟩=some (.pointer (some ⟨s 14,0,none⟩))/\w'.cell? ⟨b,1,none⟩=some (.pointer (some ⟨sr 0,0,none⟩))/\w'.cell? ⟨bo,2,none⟩=some (.int .i64 o2)/\w'.cell? ⟨bo,3,none⟩=some (.int .i64 o3)/\w'.cell? ⟨bo,4,none⟩=some (.int .i64 o4)) (by kernel_rfl) ?hS70 (fun hHeld=>?rest70)
 case hS70=>exact⟨p0,p1,x2,x3,x4⟩
 obtain⟨Z,hZ⟩:∃ Z,W.drew=Z:=⟨_,rfl⟩
 have oZ:Out 0 0 W Z:=by rw[<-hZ];exact(Out.refl 0 0 _).drew
 rw[hZ] at hHeld ⊢;clear hZ p0 p1 x1 x2 x3 x4 x5;refine tk 0 ?_;refine tk 1 ?_;refine tk 2 ?_;refine tk 4 ?_;refine tk 5 ?_;refine rd1 3 fun KK hK=>?_
 simp only[xa,xb,xc];go_simp;refine(HNt.out _ (oW.trans oZ)).mono ?_;rintro e V1 ⟨rfl,q1⟩;refine hK.out _ _ ?hS76 (fun hHeld2=>?rest76)
 case hS76=>exact⟨q1.cell hHeld.1 z0,q1.cell hHeld.2.1 z0,q1.cell hHeld.2.2.1 z0,q1.cell hHeld.2.2.2.1 z0,q1.cell hHeld.2.2.2.2 z0⟩
 clear hK KK;replace hHeld:=hHeld2;clear hHeld2;refine rd1 6 fun KK hK=>?_
 simp only[xa,xb,xc];go_simp;refine(HWi.out _).mono ?_;rintro e V2 ⟨rfl,q2⟩;refine hK.out _ _ ?hS77 (fun hHeld2=>?rest77)
 case hS77=>exact⟨q2.cell hHeld.1 z0,q2.cell hHeld.2.1 z0,q2.cell hHeld.2.2.1 z0,q2.cell hHeld.2.2.2.1 z0,q2.cell hHeld.2.2.2.2 z0⟩
 clear hK KK;replace hHeld:=hHeld2;clear hHeld2;refine tk 7 ?_;refine tk 8 ?_;refine dn ?_;have oW1:=(oW.trans oZ).trans (q1.trans q2);have fO1:=(oZ.trans (q1.trans q2)).heap fO z0;clear hHeld q1 q2 oZ HNt HWi;go_wp2_with fail;obtain⟨at0,hat⟩:∃ a,IntKind.i64.wrap (a0+c0)=a:=⟨_,rfl⟩
 (try rw[hat]);clear hat;obtain⟨vi,hvi⟩:∃ v,inB (64*n) (at0)=v:=⟨_,rfl⟩
 have HCp:Hid (∀ V,Out 0 0 w V->Calls Tryz.prog 22 #[.pointer (some ⟨s 14,0,none⟩),.int .i64 (at0),.int .i64 o4] V fun e w'=>e=.returned (.bool vi)/\SpAt w' lo m s n cap (wSp st (z6c n st.W (at0) o4))/\Out lo m V w'):=fun V o=>by
  have q:=q8s (HP.out.sp.quiet o) (at0) o4;rw[hvi] at q;exact q
 have HCr:Hid (∀ V,RfAt V m b sr n cw co st->Calls Tryz.prog 23 #[.pointer (some ⟨sr 0,0,none⟩),.int .i64 (at0),.int .i64 o4] V fun e w'=>e=.returned (.bool vi)/\RfAt w' m b sr n cw co (wSp st (z6c n st.W (at0) o4))/\Out m b V w'):=fun V o=>by
  have q:=z7d o (at0) o4;rw[hvi] at q;exact q
 clear hvi;obtain⟨p0,p1⟩:=(HP.out.quiet oW1).ks.cells;obtain⟨_,x1,x2,x3,x4,x5⟩:=Y8 fO1;clear fO;go_wp2_with fail;refine wp_region_held_drew (S:=fun w'=>w'.cell? ⟨b,0,none⟩=some (.pointer (some ⟨s 14,0,none⟩))/\w'.cell? ⟨b,1,none⟩=some (.pointer (some ⟨sr 0,0,none⟩))/\w'.cell? ⟨bo,2,none⟩=some (.int .i64 o2)/\w'.cell? ⟨bo,3,none⟩=some (.int .i64 o3)/\w'.cell? ⟨bo,4,none⟩=some (.int .i64 o4)) (by kernel_rfl) ?hS80 (fun hHeld=>?rest80)
 case hS80=>exact⟨p0,p1,x2,x3,x4⟩
 obtain⟨Z,hZ⟩:∃ Z,V2.drew=Z:=⟨_,rfl⟩
 have oZ:Out 0 0 V2 Z:=by rw[<-hZ];exact(Out.refl 0 0 _).drew
 rw[hZ] at hHeld ⊢;clear hZ p0 p1 x1 x2 x3 x4 x5;refine tk 0 ?_;refine tk 1 ?_;refine tk 2 ?_;refine tk 3 ?_;refine tk 4 ?_;refine tk 5 ?_;refine tk 6 ?_;refine tk 8 ?_;refine tk 9 ?_;refine tk 10 ?_;refine tk 11 ?_;refine tk 12 ?_;refine tk 13 ?_;refine tk 14 ?_;refine rd1 7 fun KK hK=>?_
 simp only[xa,xb,xc];go_simp;refine(HCp.out _ (oW1.trans oZ)).mono ?_;rintro e V1 ⟨rfl,s1,q1⟩;refine hK.out _ _ ?hS95 (fun hHeld2=>?rest95)
 case hS95=>exact⟨q1.cell hHeld.1 (.inr (by have h1:=HBo.out;have h2:=HP.out.le;omega)),q1.cell hHeld.2.1 (.inr (by have h1:=HBo.out;have h2:=HP.out.le;omega)),q1.cell hHeld.2.2.1 (.inr (by have h1:=HBo.out;have h2:=HP.out.le;omega)),q1.cell hHeld.2.2.2.1 (.inr (by have h1:=HBo.out;have h2:=HP.out.le;omega)),q1.cell hHeld.2.2.2.2 (.inr (by have h1:=HBo.out;have h2:=HP.out.le;omega))⟩
 clear hK KK;replace hHeld:=hHeld2;clear hHeld2;refine rd1 15 fun KK hK=>?_
 simp only[xa,xb,xc];go_simp;refine(HCr.out _ ((HP.out.rf.quiet (oW1.trans oZ)).kept q1 (.inr (Nat.le_refl _)))).mono ?_;rintro e V2 ⟨rfl,r2,q2⟩;have hle:=HP.out.le;have s2:=s1.kept q2 (.inl (Nat.le_refl _)) (.inl (by have:=HP.out.rf.glob;omega));have oE:Out lo b w V2:=(((oW1.trans oZ).any lo b).trans (q1.wide (Nat.le_refl _) (by omega))).trans (q2.wide (by omega) (Nat.le_refl _));clear s1 hle;refine hK.out _ _ ?hS96 (fun hHeld2=>?rest96)
 case hS96=>exact⟨q2.cell hHeld.1 (.inr (by have h1:=HBo.out;have h2:=HP.out.le;omega)),q2.cell hHeld.2.1 (.inr (by have h1:=HBo.out;have h2:=HP.out.le;omega)),q2.cell hHeld.2.2.1 (.inr (by have h1:=HBo.out;have h2:=HP.out.le;omega)),q2.cell hHeld.2.2.2.1 (.inr (by have h1:=HBo.out;have h2:=HP.out.le;omega)),q2.cell hHeld.2.2.2.2 (.inr (by have h1:=HBo.out;have h2:=HP.out.le;omega))⟩
 clear q1 q2;clear hK KK;replace hHeld:=hHeld2;clear hHeld2;refine tk 16 ?_;refine tk 17 ?_;refine dn ?_;have hE:z8j B b lo m n cap cw co c s sr st col z w V2:=⟨_,HP.out.turn oE s2 r2,oE,by show st.last<=st.last+1;omega⟩
 have HE:=Z0 hE;clear hHeld hE s2 r2 oE;go_wp2;go_ret;exact⟨rfl,HE.out⟩
end
end Go.Proofs.YtjbbkeoolodeaabGreatDoor
