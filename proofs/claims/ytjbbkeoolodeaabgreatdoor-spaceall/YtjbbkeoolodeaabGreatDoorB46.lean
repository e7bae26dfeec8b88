import Derived.Test.YtjbbkeoolodeaabGreatDoorB45
namespace Go.Proofs.YtjbbkeoolodeaabGreatDoor
open Go.RowKit
set_option linter.unusedVariables false
set_option maxRecDepth 100000
set_option maxHeartbeats 16000000
set_option linter.unusedSimpArgs false
theorem j9i (n:Nat) (st:Sp) (c:Nat):(q3o n st c).last=st.last:=(z4b n st c).2.2
theorem q6w (n:Nat) (st:Sp) (l:List Int):(kpE n st l).last=st.last:=by
 unfold kpE;split
 ·unfold G2;rw[j9i];rfl
 ·rfl
theorem q0b (n:Nat) (st:Sp) (k z t:Int):(alF n st k z t).2.2.2.last<=st.last+1:=by
 unfold alF;split
 ·split
  ·show st.last<=st.last+1
   omega
  ·split
   ·show st.last<=st.last+1
    omega
   ·show U8 st k<=st.last+1
    unfold U8;split <;> omega
 ·show st.last<=st.last+1
  omega
theorem q9o {a w w':World} {v:Value} {g:Nat} (o:Out 0 0 a w) (gr:z5o w w' v g) (hb:∀ x,v.ownBlock=some x->a.heap.size<=x):Out 0 0 a w':=by
 rcases gr with ⟨h,_⟩ | ⟨e,h⟩
 ·exact o.trans ⟨h.os,h.tape,h.output,h.size,fun k hk _=>h.block k hk (by simp)⟩
 ·refine⟨h.os.trans o.1,h.tape.trans o.2.1,h.output.trans o.2.2.1,Nat.le_trans o.size h.size,fun k hk _=>(h.block k (Nat.lt_of_lt_of_le hk o.size) (fun e2=>?_)).trans (o.block hk z0)⟩;cases e2;have:=hb _ e;omega
def ntL (n:Nat) (st:Sp) (L:List Int) (i:Nat):List Int:=((L.take i).map (q7w n st)).filter (fun x=>decide (0<=x))
theorem j8g (n:Nat) (st:Sp) (L:List Int) (i:Nat):(ntL n st L i).length<=i:=by
 unfold ntL;refine Nat.le_trans (List.length_filter_le _ _) ?_;rw[List.length_map,List.length_take];omega
theorem j3z {n:Nat} {st:Sp} {L:List Int} {i:Nat} {x:Int} (h:L[i]? = some x):ntL n st L (i+1)=if 0<=q7w n st x then ntL n st L i ++ [q7w n st x] else ntL n st L i:=by
 unfold ntL;rw[List.take_add_one,h];simp only[Option.toList_some,List.map_append,List.map_cons,List.map_nil,List.filter_append];by_cases q:0<=q7w n st x
 ·rw[if_pos q];simp[q]
 ·rw[if_neg q];simp[q]
section
variable {B:Nat} {w w':World} {b lo hi m n cap cw co c:Nat} {s sr:Nat->Nat} {st st':Sp} {col:Nat->Nat} {z:Bool}
def Mid (b lo m n cap cw co:Nat) (s sr:Nat->Nat) (w X:World) (sa sb:Sp):Prop:=SpAt X lo m s n cap sa/\RfAt X m b sr n cw co sb/\Out lo b w X
theorem Mid.quiet {X Y:World} {sa sb:Sp} (h:Mid b lo m n cap cw co s sr w X sa sb) (o:Out 0 0 X Y):Mid b lo m n cap cw co s sr w Y sa sb:=⟨h.1.quiet o,h.2.1.quiet o,h.2.2.trans (o.any _ _)⟩
theorem Mid.far {X Y:World} {sa sb:Sp} {g:Nat} (h:Mid b lo m n cap cw co s sr w X sa sb) (o:Out g (g+1) X Y) (hg:b<g) (hw:w.heap.size<=g):Mid b lo m n cap cw co s sr w Y sa sb:=
 ⟨h.1.kept o (.inl (by have h1:=h.2.1.inn 0 (by omega);omega)) (.inl (by have h1:=h.2.1.inn 0 (by omega);have h2:=h.2.1.glob;omega)),h.2.1.kept o (.inl (by omega)),h.2.2.past o hw⟩
theorem q4s (h:PS B w b lo m m b s sr n cap cw co st col z c) (o0 o2 o3 o4:Int) (hlast:st.last<4611686018427387904) (hb3:-9223372036854775808<=o3/\o3<=9223372036854775807) (lp:Option Addr) (ll lc:Nat):Calls Tryz.prog 9 #[.pointer (some ⟨b,0,none⟩),.agg #[.int .i64 o0,.int .i64 1,.int .i64 o2,.int .i64 o3,.int .i64 o4,.slice lp ll lc]] w fun e w'=>e=.returned (.bool true)/\z8j B b lo m n cap cw co c s sr st col z w w':=by
 have HP:=Z0 h;obtain⟨bo,hbo⟩:∃ bo,w.heap.size=bo:=⟨_,rfl⟩
 have HBo:Hid (b<bo):=by rw[<-hbo];exact h.b_lt
 clear h;go_enter Tryz.func9,Tryz.ntmps9
 go_wp2_with fail;obtain⟨W,hW⟩:∃ W,w.alloc (.cells #[.int .i64 o0,.int .i64 1,.int .i64 o2,.int .i64 o3,.int .i64 o4,.slice lp ll lc] 32)=W:=⟨_,rfl⟩
 have oW:Out 0 0 w W:=by rw[<-hW];exact(Out.refl 0 0 _).alloc _
 have fO:W.heap[bo]? = some (.cells #[.int .i64 o0,.int .i64 1,.int .i64 o2,.int .i64 o3,.int .i64 o4,.slice lp ll lc] 32 (0,0)):=by rw[<-hW,<-hbo];exact heap_alloc_new _ _
 (try rw[hW]);clear hW hbo;obtain⟨va0,hva0⟩:∃ v,(alF n st o2 o3 o4).1=v:=⟨_,rfl⟩
 obtain⟨ve,hve⟩:∃ v,(alF n st o2 o3 o4).2.1=v:=⟨_,rfl⟩
 obtain⟨va,hva⟩:∃ v,(alF n st o2 o3 o4).2.2.1=v:=⟨_,rfl⟩
 have HCp:Hid (∀ V,Mid b lo m n cap cw co s sr w V st st->Calls Tryz.prog 13 #[.pointer (some ⟨s 14,0,none⟩),.int .i64 o2,.int .i64 o3,.int .i64 o4] V fun e w'=>e=.returned (.tuple #[.int .i64 va0,.agg #[.int .i64 ve,.int .i64 va]])/\Mid b lo m n cap cw co s sr w w' (alF n st o2 o3 o4).2.2.2 st/\Out lo b V w'):=fun V hM=>by
  have q:=q2p hM.1 o2 o3 o4 hb3.1 hb3.2 (by omega);rw[hva0,hve,hva] at q;have hle:=HP.out.le;exact q.mono fun e w' ⟨h1,h2,h3⟩=>⟨h1,⟨h2,hM.2.1.kept h3 (.inr (Nat.le_refl _)),hM.2.2.trans (h3.wide (Nat.le_refl _) (by omega))⟩,h3.wide (Nat.le_refl _) (by omega)⟩
 have HCr:Hid (∀ V,Mid b lo m n cap cw co s sr w V (alF n st o2 o3 o4).2.2.2 st->Calls Tryz.prog 17 #[.pointer (some ⟨sr 0,0,none⟩),.int .i64 o2,.int .i64 o3,.int .i64 o4] V fun e w'=>e=.returned (.tuple #[.int .i64 va0,.agg #[.int .i64 ve,.int .i64 va]])/\Mid b lo m n cap cw co s sr w w' (alF n st o2 o3 o4).2.2.2 (alF n st o2 o3 o4).2.2.2/\Out lo b V w'):=fun V hM=>by
  have q:=q3e hM.2.1 HP.out.sp.2 o2 o3 o4 hb3.1 hb3.2 (by omega);unfold z3l at q;rw[hva0,hve,hva] at q;have hle:=HP.out.le;exact q.mono fun e w' ⟨h1,h2,h3⟩=>⟨h1,⟨hM.1.kept h3 (.inl (Nat.le_refl _)) (.inl (by have:=HP.out.rf.glob;omega)),h2,hM.2.2.trans (h3.wide (by omega) (Nat.le_refl _))⟩,h3.wide (by omega) (Nat.le_refl _)⟩
 have mid:Mid b lo m n cap cw co s sr w W st st:=⟨HP.out.sp.quiet oW,HP.out.rf.quiet oW,oW.any _ _⟩
 clear hva0 hve hva;obtain⟨p0,p1⟩:=(HP.out.quiet oW).ks.cells;obtain⟨_,x1,x2,x3,x4,x5⟩:=Y8 fO;have fOx:=fO;go_wp2_with fail;refine wp_region_held_drew (S:=fun w'=>w'.cell? ⟨b,0,none⟩=some (.pointer (some ⟨s 14,0,none⟩))/\w'.cell? ⟨b,1,none⟩=some (.pointer (some ⟨sr 0,0,none⟩))/\w'.cell? ⟨bo,2,none⟩=some (.int .i64 o2)/\w'.cell? ⟨bo,3,none⟩=some (.int .i64 o3)/\w'.cell? ⟨bo,4,none⟩=some (.int .i64 o4)) (by kernel_rfl) ?hS99 (fun hHeld=>?rest99)
 case hS99=>exact⟨p0,p1,x2,x3,x4⟩
 obtain⟨Z3,hZ⟩:∃ Z,W.drew=Z:=⟨_,rfl⟩
 have oZ:Out 0 0 W Z3:=by rw[<-hZ];exact(Out.refl 0 0 _).drew
 rw[hZ] at hHeld ⊢;replace mid:=mid.quiet oZ;clear hZ oZ p0 p1 x1 x2 x3 x4 x5;refine tk 0 ?_;refine tk 1 ?_;refine tk 2 ?_;refine tk 3 ?_;refine tk 4 ?_;refine tk 5 ?_;refine tk 6 ?_;refine tk 7 ?_;refine tk 8 ?_;refine tk 9 ?_;refine rd2 10 14 (fun KK hK=>?_) fun KK hK=>?_
 ·simp only[xa,xb,xc];go_simp;refine(HCp.out _ mid).mono ?_;rintro e Z3C ⟨rfl,mid2,q1⟩;clear mid;have mid:=mid2;clear mid2;refine hK.out _ _ ?hS110 (fun hHeld2=>?rest110)
  case hS110=>exact⟨q1.cell hHeld.1 (.inr (by have h1:=HBo.out;omega)),q1.cell hHeld.2.1 (.inr (by have h1:=HBo.out;omega)),q1.cell hHeld.2.2.1 (.inr (by have h1:=HBo.out;omega)),q1.cell hHeld.2.2.2.1 (.inr (by have h1:=HBo.out;omega)),q1.cell hHeld.2.2.2.2 (.inr (by have h1:=HBo.out;omega))⟩
  clear q1;clear hK KK;replace hHeld:=hHeld2;clear hHeld2;refine tk 11 ?_;refine tk 12 ?_;refine tk 13 ?_;refine rd1 14 fun KK hK=>?_
  simp only[xa,xb,xc];go_simp;obtain⟨gf3,hgf⟩:∃ g,Z3C.heap.size=g:=⟨_,rfl⟩
  obtain⟨Z3CA,hY⟩:∃ V,Z3C.alloc (.cells #[.int .i64 0,.int .i64 0] 39)=V:=⟨_,rfl⟩
  have qA:Out 0 0 Z3C Z3CA:=by rw[<-hY];exact(Out.refl 0 0 _).alloc _
  have fA:Z3CA.heap[gf3]? = some (.cells #[.int .i64 0,.int .i64 0] 39 (0,0)):=by rw[<-hY,<-hgf];exact heap_alloc_new _ _
  have hgb3:bo<gf3/\b<gf3/\w.heap.size<=gf3:=by have h1:=HBo.out;have h2:=mid.2.2.size;have h3:=Q4 fOx;have h4:=hHeld;have h5:=z0a hHeld.2.2.1;omega
  (try rw[hY]);(try rw[hgf]);clear hY hgf;replace mid:=mid.quiet qA;refine hK.out _ _ ?hS114 (fun hHeld2=>?rest114)
  case hS114=>exact⟨qA.cell hHeld.1 z0,qA.cell hHeld.2.1 z0,qA.cell hHeld.2.2.1 z0,qA.cell hHeld.2.2.2.1 z0,qA.cell hHeld.2.2.2.2 z0⟩
  clear qA;clear hK KK;replace hHeld:=hHeld2;clear hHeld2;refine tk 15 ?_;refine rd1 16 fun KK hK=>?_
  simp only[xa,xb,xc];obtain⟨y0,y1,y2,y3⟩:=Z7 fA;go_simp;clear y0 y1 y2 y3;obtain⟨Z3CAS,hY⟩:∃ V,(Z3CA.setCell ⟨gf3,0,none⟩ (.int .i64 ve)).setCell ⟨gf3,1,none⟩ (.int .i64 va)=V:=⟨_,rfl⟩
  have qS:Out gf3 (gf3+1) Z3CA Z3CAS:=by rw[<-hY];exact((Out.refl _ _ _).setCell (p:=⟨gf3,0,none⟩) z1 _).setCell (p:=⟨gf3,1,none⟩) z1 _
  have fB3:Z3CAS.heap[gf3]? = some (.cells #[.int .i64 ve,.int .i64 va] 39 (0,0)):=by rw[<-hY];simp[World.setCell,Array.getElem?_modify,fA]
  (try rw[hY]);clear hY fA;replace mid:=mid.far qS hgb3.2.1 hgb3.2.2;refine hK.out _ _ ?hS116 (fun hHeld2=>?rest116)
  case hS116=>exact⟨qS.cell hHeld.1 (.inl (by omega)),qS.cell hHeld.2.1 (.inl (by omega)),qS.cell hHeld.2.2.1 (.inl (by omega)),qS.cell hHeld.2.2.2.1 (.inl (by omega)),qS.cell hHeld.2.2.2.2 (.inl (by omega))⟩
  clear qS;clear hK KK;replace hHeld:=hHeld2;clear hHeld2;refine dn ?_;have fF:=fB3;clear fB3;obtain⟨p0,p1,x2,x3,x4⟩:=hHeld;have x1:=p0;have x5:=p0;go_wp2_with fail;refine wp_region_held_drew (S:=fun w'=>w'.cell? ⟨b,0,none⟩=some (.pointer (some ⟨s 14,0,none⟩))/\w'.cell? ⟨b,1,none⟩=some (.pointer (some ⟨sr 0,0,none⟩))/\w'.cell? ⟨bo,2,none⟩=some (.int .i64 o2)/\w'.cell? ⟨bo,3,none⟩=some (.int .i64 o3)/\w'.cell? ⟨bo,4,none⟩=some (.int .i64 o4)) (by kernel_rfl) ?hS117 (fun hHeld=>?rest117)
  case hS117=>exact⟨p0,p1,x2,x3,x4⟩
  obtain⟨Z4,hZ⟩:∃ Z,Z3CAS.drew=Z:=⟨_,rfl⟩
  have oZ:Out 0 0 Z3CAS Z4:=by rw[<-hZ];exact(Out.refl 0 0 _).drew
  rw[hZ] at hHeld ⊢;replace mid:=mid.quiet oZ;replace fF:=oZ.heap fF z0;clear hZ oZ p0 p1 x1 x2 x3 x4 x5;refine tk 0 ?_;refine tk 1 ?_;refine tk 2 ?_;refine tk 3 ?_;refine tk 4 ?_;refine tk 5 ?_;refine tk 6 ?_;refine tk 7 ?_;refine tk 8 ?_;refine tk 9 ?_;refine rd2 10 14 (fun KK hK=>?_) fun KK hK=>?_
  ·simp only[xa,xb,xc];go_simp;refine(HCr.out _ mid).mono ?_;rintro e Z4C ⟨rfl,mid2,q1⟩;clear mid;have mid:=mid2;clear mid2;replace fF:=q1.heap fF (.inr (by omega));refine hK.out _ _ ?hS128 (fun hHeld2=>?rest128)
   case hS128=>exact⟨q1.cell hHeld.1 (.inr (by have h1:=HBo.out;omega)),q1.cell hHeld.2.1 (.inr (by have h1:=HBo.out;omega)),q1.cell hHeld.2.2.1 (.inr (by have h1:=HBo.out;omega)),q1.cell hHeld.2.2.2.1 (.inr (by have h1:=HBo.out;omega)),q1.cell hHeld.2.2.2.2 (.inr (by have h1:=HBo.out;omega))⟩
   clear q1;clear hK KK;replace hHeld:=hHeld2;clear hHeld2;refine tk 11 ?_;refine tk 12 ?_;refine tk 13 ?_;refine rd1 14 fun KK hK=>?_
   simp only[xa,xb,xc];go_simp;obtain⟨gf4,hgf⟩:∃ g,Z4C.heap.size=g:=⟨_,rfl⟩
   obtain⟨Z4CA,hY⟩:∃ V,Z4C.alloc (.cells #[.int .i64 0,.int .i64 0] 56)=V:=⟨_,rfl⟩
   have qA:Out 0 0 Z4C Z4CA:=by rw[<-hY];exact(Out.refl 0 0 _).alloc _
   have fA:Z4CA.heap[gf4]? = some (.cells #[.int .i64 0,.int .i64 0] 56 (0,0)):=by rw[<-hY,<-hgf];exact heap_alloc_new _ _
   have hgb4:bo<gf4/\b<gf4/\w.heap.size<=gf4:=by have h1:=HBo.out;have h2:=mid.2.2.size;have h3:=Q4 fOx;have h4:=hHeld;have h5:=z0a hHeld.2.2.1;omega
   have hne4:gf3 ≠ gf4:=by have h1:=Q4 fF;omega
   (try rw[hY]);(try rw[hgf]);clear hY hgf;replace mid:=mid.quiet qA;replace fF:=qA.heap fF z0;refine hK.out _ _ ?hS132 (fun hHeld2=>?rest132)
   case hS132=>exact⟨qA.cell hHeld.1 z0,qA.cell hHeld.2.1 z0,qA.cell hHeld.2.2.1 z0,qA.cell hHeld.2.2.2.1 z0,qA.cell hHeld.2.2.2.2 z0⟩
   clear qA;clear hK KK;replace hHeld:=hHeld2;clear hHeld2;refine tk 15 ?_;refine rd1 16 fun KK hK=>?_
   simp only[xa,xb,xc];obtain⟨y0,y1,y2,y3⟩:=Z7 fA;go_simp;clear y0 y1 y2 y3;obtain⟨Z4CAS,hY⟩:∃ V,(Z4CA.setCell ⟨gf4,0,none⟩ (.int .i64 ve)).setCell ⟨gf4,1,none⟩ (.int .i64 va)=V:=⟨_,rfl⟩
   have qS:Out gf4 (gf4+1) Z4CA Z4CAS:=by rw[<-hY];exact((Out.refl _ _ _).setCell (p:=⟨gf4,0,none⟩) z1 _).setCell (p:=⟨gf4,1,none⟩) z1 _
   have fB4:Z4CAS.heap[gf4]? = some (.cells #[.int .i64 ve,.int .i64 va] 56 (0,0)):=by rw[<-hY];simp[World.setCell,Array.getElem?_modify,fA]
   (try rw[hY]);clear hY fA;replace mid:=mid.far qS hgb4.2.1 hgb4.2.2;replace fF:=qS.heap fF (by omega);refine hK.out _ _ ?hS134 (fun hHeld2=>?rest134)
   case hS134=>exact⟨qS.cell hHeld.1 (.inl (by omega)),qS.cell hHeld.2.1 (.inl (by omega)),qS.cell hHeld.2.2.1 (.inl (by omega)),qS.cell hHeld.2.2.2.1 (.inl (by omega)),qS.cell hHeld.2.2.2.2 (.inl (by omega))⟩
   clear qS;clear hK KK;replace hHeld:=hHeld2;clear hHeld2;refine dn ?_;have hE:z8j B b lo m n cap cw co c s sr st col z w Z4CAS:=⟨_,HP.out.turn mid.2.2 mid.1 mid.2.1,mid.2.2,q0b n st o2 o3 o4⟩
   have HE:=Z0 hE;obtain⟨y0,y1,y2,y3⟩:=Z7 fF;obtain⟨u0,u1,u2,u3⟩:=Z7 fB4;clear hHeld hE mid fF fB4 hgb3 hgb4 hne4;go_wp2_with fail;refine(z0l _ _ _).mono ?_;rintro e V9 ⟨rfl,q9⟩;have HE9:Hid (z8j B b lo m n cap cw co c s sr st col z w V9):=by
    obtain⟨st',h1,h2,h3⟩:=HE.out;exact⟨st',h1.quiet q9,h2.trans (q9.any _ _),h3⟩
   clear q9 HE y0 y1 y2 y3 u0 u1 u2 u3;go_wp2;go_ret;exact⟨rfl,HE9.out⟩
  ·simp only[xa,xb,xc];go_simp;obtain⟨gf4,hgf⟩:∃ g,Z4.heap.size=g:=⟨_,rfl⟩
   obtain⟨Z4A,hY⟩:∃ V,Z4.alloc (.cells #[.int .i64 0,.int .i64 0] 56)=V:=⟨_,rfl⟩
   have qA:Out 0 0 Z4 Z4A:=by rw[<-hY];exact(Out.refl 0 0 _).alloc _
   have fA:Z4A.heap[gf4]? = some (.cells #[.int .i64 0,.int .i64 0] 56 (0,0)):=by rw[<-hY,<-hgf];exact heap_alloc_new _ _
   have hgb4:bo<gf4/\b<gf4/\w.heap.size<=gf4:=by have h1:=HBo.out;have h2:=mid.2.2.size;have h3:=Q4 fOx;have h4:=hHeld;have h5:=z0a hHeld.2.2.1;omega
   have hne4:gf3 ≠ gf4:=by have h1:=Q4 fF;omega
   (try rw[hY]);(try rw[hgf]);clear hY hgf;replace mid:=mid.quiet qA;replace fF:=qA.heap fF z0;refine hK.out _ _ ?hS135 (fun hHeld2=>?rest135)
   case hS135=>exact⟨qA.cell hHeld.1 z0,qA.cell hHeld.2.1 z0,qA.cell hHeld.2.2.1 z0,qA.cell hHeld.2.2.2.1 z0,qA.cell hHeld.2.2.2.2 z0⟩
   clear qA;clear hK KK;replace hHeld:=hHeld2;clear hHeld2;refine rd1 10 fun KK hK=>?_
   simp only[xa,xb,xc];go_simp;refine(HCr.out _ mid).mono ?_;rintro e Z4AC ⟨rfl,mid2,q1⟩;clear mid;have mid:=mid2;clear mid2;replace fA:=q1.heap fA (.inr (by omega));replace fF:=q1.heap fF (.inr (by omega));refine hK.out _ _ ?hS136 (fun hHeld2=>?rest136)
   case hS136=>exact⟨q1.cell hHeld.1 (.inr (by have h1:=HBo.out;omega)),q1.cell hHeld.2.1 (.inr (by have h1:=HBo.out;omega)),q1.cell hHeld.2.2.1 (.inr (by have h1:=HBo.out;omega)),q1.cell hHeld.2.2.2.1 (.inr (by have h1:=HBo.out;omega)),q1.cell hHeld.2.2.2.2 (.inr (by have h1:=HBo.out;omega))⟩
   clear q1;clear hK KK;replace hHeld:=hHeld2;clear hHeld2;refine tk 11 ?_;refine tk 12 ?_;refine tk 13 ?_;refine tk 15 ?_;refine rd1 16 fun KK hK=>?_
   simp only[xa,xb,xc];obtain⟨y0,y1,y2,y3⟩:=Z7 fA;go_simp;clear y0 y1 y2 y3;obtain⟨Z4ACS,hY⟩:∃ V,(Z4AC.setCell ⟨gf4,0,none⟩ (.int .i64 ve)).setCell ⟨gf4,1,none⟩ (.int .i64 va)=V:=⟨_,rfl⟩
   have qS:Out gf4 (gf4+1) Z4AC Z4ACS:=by rw[<-hY];exact((Out.refl _ _ _).setCell (p:=⟨gf4,0,none⟩) z1 _).setCell (p:=⟨gf4,1,none⟩) z1 _
   have fB4:Z4ACS.heap[gf4]? = some (.cells #[.int .i64 ve,.int .i64 va] 56 (0,0)):=by rw[<-hY];simp[World.setCell,Array.getElem?_modify,fA]
   (try rw[hY]);clear hY fA;replace mid:=mid.far qS hgb4.2.1 hgb4.2.2;replace fF:=qS.heap fF (by omega);refine hK.out _ _ ?hS141 (fun hHeld2=>?rest141)
   case hS141=>exact⟨qS.cell hHeld.1 (.inl (by omega)),qS.cell hHeld.2.1 (.inl (by omega)),qS.cell hHeld.2.2.1 (.inl (by omega)),qS.cell hHeld.2.2.2.1 (.inl (by omega)),qS.cell hHeld.2.2.2.2 (.inl (by omega))⟩
   clear qS;clear hK KK;replace hHeld:=hHeld2;clear hHeld2;refine dn ?_;have hE:z8j B b lo m n cap cw co c s sr st col z w Z4ACS:=⟨_,HP.out.turn mid.2.2 mid.1 mid.2.1,mid.2.2,q0b n st o2 o3 o4⟩
   have HE:=Z0 hE;obtain⟨y0,y1,y2,y3⟩:=Z7 fF;obtain⟨u0,u1,u2,u3⟩:=Z7 fB4;clear hHeld hE mid fF fB4 hgb3 hgb4 hne4;go_wp2_with fail;refine(z0l _ _ _).mono ?_;rintro e V9 ⟨rfl,q9⟩;have HE9:Hid (z8j B b lo m n cap cw co c s sr st col z w V9):=by
    obtain⟨st',h1,h2,h3⟩:=HE.out;exact⟨st',h1.quiet q9,h2.trans (q9.any _ _),h3⟩
   clear q9 HE y0 y1 y2 y3 u0 u1 u2 u3;go_wp2;go_ret;exact⟨rfl,HE9.out⟩
 ·simp only[xa,xb,xc];go_simp;obtain⟨gf3,hgf⟩:∃ g,Z3.heap.size=g:=⟨_,rfl⟩
  obtain⟨Z3A,hY⟩:∃ V,Z3.alloc (.cells #[.int .i64 0,.int .i64 0] 39)=V:=⟨_,rfl⟩
  have qA:Out 0 0 Z3 Z3A:=by rw[<-hY];exact(Out.refl 0 0 _).alloc _
  have fA:Z3A.heap[gf3]? = some (.cells #[.int .i64 0,.int .i64 0] 39 (0,0)):=by rw[<-hY,<-hgf];exact heap_alloc_new _ _
  have hgb3:bo<gf3/\b<gf3/\w.heap.size<=gf3:=by have h1:=HBo.out;have h2:=mid.2.2.size;have h3:=Q4 fOx;have h4:=hHeld;have h5:=z0a hHeld.2.2.1;omega
  (try rw[hY]);(try rw[hgf]);clear hY hgf;replace mid:=mid.quiet qA;refine hK.out _ _ ?hS142 (fun hHeld2=>?rest142)
  case hS142=>exact⟨qA.cell hHeld.1 z0,qA.cell hHeld.2.1 z0,qA.cell hHeld.2.2.1 z0,qA.cell hHeld.2.2.2.1 z0,qA.cell hHeld.2.2.2.2 z0⟩
  clear qA;clear hK KK;replace hHeld:=hHeld2;clear hHeld2;refine rd1 10 fun KK hK=>?_
  simp only[xa,xb,xc];go_simp;refine(HCp.out _ mid).mono ?_;rintro e Z3AC ⟨rfl,mid2,q1⟩;clear mid;have mid:=mid2;clear mid2;replace fA:=q1.heap fA (.inr (by omega));refine hK.out _ _ ?hS143 (fun hHeld2=>?rest143)
  case hS143=>exact⟨q1.cell hHeld.1 (.inr (by have h1:=HBo.out;omega)),q1.cell hHeld.2.1 (.inr (by have h1:=HBo.out;omega)),q1.cell hHeld.2.2.1 (.inr (by have h1:=HBo.out;omega)),q1.cell hHeld.2.2.2.1 (.inr (by have h1:=HBo.out;omega)),q1.cell hHeld.2.2.2.2 (.inr (by have h1:=HBo.out;omega))⟩
  clear q1;clear hK KK;replace hHeld:=hHeld2;clear hHeld2;refine tk 11 ?_;refine tk 12 ?_;refine tk 13 ?_;refine tk 15 ?_;refine rd1 16 fun KK hK=>?_
  simp only[xa,xb,xc];obtain⟨y0,y1,y2,y3⟩:=Z7 fA;go_simp;clear y0 y1 y2 y3;obtain⟨Z3ACS,hY⟩:∃ V,(Z3AC.setCell ⟨gf3,0,none⟩ (.int .i64 ve)).setCell ⟨gf3,1,none⟩ (.int .i64 va)=V:=⟨_,rfl⟩
  have qS:Out gf3 (gf3+1) Z3AC Z3ACS:=by rw[<-hY];exact((Out.refl _ _ _).setCell (p:=⟨gf3,0,none⟩) z1 _).setCell (p:=⟨gf3,1,none⟩) z1 _
  have fB3:Z3ACS.heap[gf3]? = some (.cells #[.int .i64 ve,.int .i64 va] 39 (0,0)):=by rw[<-hY];simp[World.setCell,Array.getElem?_modify,fA]
  (try rw[hY]);clear hY fA;replace mid:=mid.far qS hgb3.2.1 hgb3.2.2;refine hK.out _ _ ?hS148 (fun hHeld2=>?rest148)
  case hS148=>exact⟨qS.cell hHeld.1 (.inl (by omega)),qS.cell hHeld.2.1 (.inl (by omega)),qS.cell hHeld.2.2.1 (.inl (by omega)),qS.cell hHeld.2.2.2.1 (.inl (by omega)),qS.cell hHeld.2.2.2.2 (.inl (by omega))⟩
  clear qS;clear hK KK;replace hHeld:=hHeld2;clear hHeld2;refine dn ?_;have fF:=fB3;clear fB3;obtain⟨p0,p1,x2,x3,x4⟩:=hHeld;have x1:=p0;have x5:=p0;go_wp2_with fail;refine wp_region_held_drew (S:=fun w'=>w'.cell? ⟨b,0,none⟩=some (.pointer (some ⟨s 14,0,none⟩))/\w'.cell? ⟨b,1,none⟩=some (.pointer (some ⟨sr 0,0,none⟩))/\w'.cell? ⟨bo,2,none⟩=some (.int .i64 o2)/\w'.cell? ⟨bo,3,none⟩=some (.int .i64 o3)/\w'.cell? ⟨bo,4,none⟩=some (.int .i64 o4)) (by kernel_rfl) ?hS149 (fun hHeld=>?rest149)
  case hS149=>exact⟨p0,p1,x2,x3,x4⟩
  obtain⟨Z4,hZ⟩:∃ Z,Z3ACS.drew=Z:=⟨_,rfl⟩
  have oZ:Out 0 0 Z3ACS Z4:=by rw[<-hZ];exact(Out.refl 0 0 _).drew
  rw[hZ] at hHeld ⊢;replace mid:=mid.quiet oZ;replace fF:=oZ.heap fF z0;clear hZ oZ p0 p1 x1 x2 x3 x4 x5;refine tk 0 ?_;refine tk 1 ?_;refine tk 2 ?_;refine tk 3 ?_;refine tk 4 ?_;refine tk 5 ?_;refine tk 6 ?_;refine tk 7 ?_;refine tk 8 ?_;refine tk 9 ?_;refine rd2 10 14 (fun KK hK=>?_) fun KK hK=>?_
  ·simp only[xa,xb,xc];go_simp;refine(HCr.out _ mid).mono ?_;rintro e Z4C ⟨rfl,mid2,q1⟩;clear mid;have mid:=mid2;clear mid2;replace fF:=q1.heap fF (.inr (by omega));refine hK.out _ _ ?hS160 (fun hHeld2=>?rest160)
   case hS160=>exact⟨q1.cell hHeld.1 (.inr (by have h1:=HBo.out;omega)),q1.cell hHeld.2.1 (.inr (by have h1:=HBo.out;omega)),q1.cell hHeld.2.2.1 (.inr (by have h1:=HBo.out;omega)),q1.cell hHeld.2.2.2.1 (.inr (by have h1:=HBo.out;omega)),q1.cell hHeld.2.2.2.2 (.inr (by have h1:=HBo.out;omega))⟩
   clear q1;clear hK KK;replace hHeld:=hHeld2;clear hHeld2;refine tk 11 ?_;refine tk 12 ?_;refine tk 13 ?_;refine rd1 14 fun KK hK=>?_
   simp only[xa,xb,xc];go_simp;obtain⟨gf4,hgf⟩:∃ g,Z4C.heap.size=g:=⟨_,rfl⟩
   obtain⟨Z4CA,hY⟩:∃ V,Z4C.alloc (.cells #[.int .i64 0,.int .i64 0] 56)=V:=⟨_,rfl⟩
   have qA:Out 0 0 Z4C Z4CA:=by rw[<-hY];exact(Out.refl 0 0 _).alloc _
   have fA:Z4CA.heap[gf4]? = some (.cells #[.int .i64 0,.int .i64 0] 56 (0,0)):=by rw[<-hY,<-hgf];exact heap_alloc_new _ _
   have hgb4:bo<gf4/\b<gf4/\w.heap.size<=gf4:=by have h1:=HBo.out;have h2:=mid.2.2.size;have h3:=Q4 fOx;have h4:=hHeld;have h5:=z0a hHeld.2.2.1;omega
   have hne4:gf3 ≠ gf4:=by have h1:=Q4 fF;omega
   (try rw[hY]);(try rw[hgf]);clear hY hgf;replace mid:=mid.quiet qA;replace fF:=qA.heap fF z0;refine hK.out _ _ ?hS164 (fun hHeld2=>?rest164)
   case hS164=>exact⟨qA.cell hHeld.1 z0,qA.cell hHeld.2.1 z0,qA.cell hHeld.2.2.1 z0,qA.cell hHeld.2.2.2.1 z0,qA.cell hHeld.2.2.2.2 z0⟩
   clear qA;clear hK KK;replace hHeld:=hHeld2;clear hHeld2;refine tk 15 ?_;refine rd1 16 fun KK hK=>?_
   simp only[xa,xb,xc];obtain⟨y0,y1,y2,y3⟩:=Z7 fA;go_simp;clear y0 y1 y2 y3;obtain⟨Z4CAS,hY⟩:∃ V,(Z4CA.setCell ⟨gf4,0,none⟩ (.int .i64 ve)).setCell ⟨gf4,1,none⟩ (.int .i64 va)=V:=⟨_,rfl⟩
   have qS:Out gf4 (gf4+1) Z4CA Z4CAS:=by rw[<-hY];exact((Out.refl _ _ _).setCell (p:=⟨gf4,0,none⟩) z1 _).setCell (p:=⟨gf4,1,none⟩) z1 _
   have fB4:Z4CAS.heap[gf4]? = some (.cells #[.int .i64 ve,.int .i64 va] 56 (0,0)):=by rw[<-hY];simp[World.setCell,Array.getElem?_modify,fA]
   (try rw[hY]);clear hY fA;replace mid:=mid.far qS hgb4.2.1 hgb4.2.2;replace fF:=qS.heap fF (by omega);refine hK.out _ _ ?hS166 (fun hHeld2=>?rest166)
   case hS166=>exact⟨qS.cell hHeld.1 (.inl (by omega)),qS.cell hHeld.2.1 (.inl (by omega)),qS.cell hHeld.2.2.1 (.inl (by omega)),qS.cell hHeld.2.2.2.1 (.inl (by omega)),qS.cell hHeld.2.2.2.2 (.inl (by omega))⟩
   clear qS;clear hK KK;replace hHeld:=hHeld2;clear hHeld2;refine dn ?_;have hE:z8j B b lo m n cap cw co c s sr st col z w Z4CAS:=⟨_,HP.out.turn mid.2.2 mid.1 mid.2.1,mid.2.2,q0b n st o2 o3 o4⟩
   have HE:=Z0 hE;obtain⟨y0,y1,y2,y3⟩:=Z7 fF;obtain⟨u0,u1,u2,u3⟩:=Z7 fB4;clear hHeld hE mid fF fB4 hgb3 hgb4 hne4;go_wp2_with fail;refine(z0l _ _ _).mono ?_;rintro e V9 ⟨rfl,q9⟩;have HE9:Hid (z8j B b lo m n cap cw co c s sr st col z w V9):=by
    obtain⟨st',h1,h2,h3⟩:=HE.out;exact⟨st',h1.quiet q9,h2.trans (q9.any _ _),h3⟩
   clear q9 HE y0 y1 y2 y3 u0 u1 u2 u3;go_wp2;go_ret;exact⟨rfl,HE9.out⟩
  ·simp only[xa,xb,xc];go_simp;obtain⟨gf4,hgf⟩:∃ g,Z4.heap.size=g:=⟨_,rfl⟩
   obtain⟨Z4A,hY⟩:∃ V,Z4.alloc (.cells #[.int .i64 0,.int .i64 0] 56)=V:=⟨_,rfl⟩
   have qA:Out 0 0 Z4 Z4A:=by rw[<-hY];exact(Out.refl 0 0 _).alloc _
   have fA:Z4A.heap[gf4]? = some (.cells #[.int .i64 0,.int .i64 0] 56 (0,0)):=by rw[<-hY,<-hgf];exact heap_alloc_new _ _
   have hgb4:bo<gf4/\b<gf4/\w.heap.size<=gf4:=by have h1:=HBo.out;have h2:=mid.2.2.size;have h3:=Q4 fOx;have h4:=hHeld;have h5:=z0a hHeld.2.2.1;omega
   have hne4:gf3 ≠ gf4:=by have h1:=Q4 fF;omega
   (try rw[hY]);(try rw[hgf]);clear hY hgf;replace mid:=mid.quiet qA;replace fF:=qA.heap fF z0;refine hK.out _ _ ?hS167 (fun hHeld2=>?rest167)
   case hS167=>exact⟨qA.cell hHeld.1 z0,qA.cell hHeld.2.1 z0,qA.cell hHeld.2.2.1 z0,qA.cell hHeld.2.2.2.1 z0,qA.cell hHeld.2.2.2.2 z0⟩
   clear qA;clear hK KK;replace hHeld:=hHeld2;clear hHeld2;refine rd1 10 fun KK hK=>?_
   simp only[xa,xb,xc];go_simp;refine(HCr.out _ mid).mono ?_;rintro e Z4AC ⟨rfl,mid2,q1⟩;clear mid;have mid:=mid2;clear mid2;replace fA:=q1.heap fA (.inr (by omega));replace fF:=q1.heap fF (.inr (by omega));refine hK.out _ _ ?hS168 (fun hHeld2=>?rest168)
   case hS168=>exact⟨q1.cell hHeld.1 (.inr (by have h1:=HBo.out;omega)),q1.cell hHeld.2.1 (.inr (by have h1:=HBo.out;omega)),q1.cell hHeld.2.2.1 (.inr (by have h1:=HBo.out;omega)),q1.cell hHeld.2.2.2.1 (.inr (by have h1:=HBo.out;omega)),q1.cell hHeld.2.2.2.2 (.inr (by have h1:=HBo.out;omega))⟩
   clear q1;clear hK KK;replace hHeld:=hHeld2;clear hHeld2;refine tk 11 ?_;refine tk 12 ?_;refine tk 13 ?_;refine tk 15 ?_;refine rd1 16 fun KK hK=>?_
   simp only[xa,xb,xc];obtain⟨y0,y1,y2,y3⟩:=Z7 fA;go_simp;clear y0 y1 y2 y3;obtain⟨Z4ACS,hY⟩:∃ V,(Z4AC.setCell ⟨gf4,0,none⟩ (.int .i64 ve)).setCell ⟨gf4,1,none⟩ (.int .i64 va)=V:=⟨_,rfl⟩
   have qS:Out gf4 (gf4+1) Z4AC Z4ACS:=by rw[<-hY];exact((Out.refl _ _ _).setCell (p:=⟨gf4,0,none⟩) z1 _).setCell (p:=⟨gf4,1,none⟩) z1 _
   have fB4:Z4ACS.heap[gf4]? = some (.cells #[.int .i64 ve,.int .i64 va] 56 (0,0)):=by rw[<-hY];simp[World.setCell,Array.getElem?_modify,fA]
   (try rw[hY]);clear hY fA;replace mid:=mid.far qS hgb4.2.1 hgb4.2.2;replace fF:=qS.heap fF (by omega);refine hK.out _ _ ?hS173 (fun hHeld2=>?rest173)
   case hS173=>exact⟨qS.cell hHeld.1 (.inl (by omega)),qS.cell hHeld.2.1 (.inl (by omega)),qS.cell hHeld.2.2.1 (.inl (by omega)),qS.cell hHeld.2.2.2.1 (.inl (by omega)),qS.cell hHeld.2.2.2.2 (.inl (by omega))⟩
   clear qS;clear hK KK;replace hHeld:=hHeld2;clear hHeld2;refine dn ?_;have hE:z8j B b lo m n cap cw co c s sr st col z w Z4ACS:=⟨_,HP.out.turn mid.2.2 mid.1 mid.2.1,mid.2.2,q0b n st o2 o3 o4⟩
   have HE:=Z0 hE;obtain⟨y0,y1,y2,y3⟩:=Z7 fF;obtain⟨u0,u1,u2,u3⟩:=Z7 fB4;clear hHeld hE mid fF fB4 hgb3 hgb4 hne4;go_wp2_with fail;refine(z0l _ _ _).mono ?_;rintro e V9 ⟨rfl,q9⟩;have HE9:Hid (z8j B b lo m n cap cw co c s sr st col z w V9):=by
    obtain⟨st',h1,h2,h3⟩:=HE.out;exact⟨st',h1.quiet q9,h2.trans (q9.any _ _),h3⟩
   clear q9 HE y0 y1 y2 y3 u0 u1 u2 u3;go_wp2;go_ret;exact⟨rfl,HE9.out⟩
theorem q4x (h:PS B w b lo m m b s sr n cap cw co st col z c) (o0 o2 o3 o4:Int) (lp:Option Addr) (ll lc:Nat) (l:List Int) (hl:z2x w lp l) (hll:l.length=ll) (hgl:l ≠ []->∀ g off,lp=some ⟨g,off,none⟩->g<lo\/b<=g) (hn:ll<=4000):Calls Tryz.prog 9 #[.pointer (some ⟨b,0,none⟩),.agg #[.int .i64 o0,.int .i64 6,.int .i64 o2,.int .i64 o3,.int .i64 o4,.slice lp ll lc]] w fun e w'=>e=.returned (.bool true)/\z8j B b lo m n cap cw co c s sr st col z w w':=by
 have HP:=Z0 h;obtain⟨bo,hbo⟩:∃ bo,w.heap.size=bo:=⟨_,rfl⟩
 have HBo:Hid (b<bo):=by rw[<-hbo];exact h.b_lt
 clear h;go_enter Tryz.func9,Tryz.ntmps9
 go_wp2_with fail;obtain⟨W,hW⟩:∃ W,w.alloc (.cells #[.int .i64 o0,.int .i64 6,.int .i64 o2,.int .i64 o3,.int .i64 o4,.slice lp ll lc] 32)=W:=⟨_,rfl⟩
 have oW:Out 0 0 w W:=by rw[<-hW];exact(Out.refl 0 0 _).alloc _
 have fO:W.heap[bo]? = some (.cells #[.int .i64 o0,.int .i64 6,.int .i64 o2,.int .i64 o3,.int .i64 o4,.slice lp ll lc] 32 (0,0)):=by rw[<-hW,<-hbo];exact heap_alloc_new _ _
 (try rw[hW]);clear hW hbo;have HLi:=Z0 hl;have HLl:=Z0 hll;have hk:=q1x (HP.out.quiet oW) (cp:=lc) (z1q hl oW (fun _ _ _ _=>.inr (Nat.zero_le _))) hgl (by omega);rw[hll] at hk;have HK:=Z0 hk;have HO:=Z0 oW;obtain⟨_,_,_,_,_,x5⟩:=Y8 fO;clear hk hl hll hgl hn oW fO;go_wp2_with fail;refine HK.out.mono ?_;rintro e V1 ⟨rfl,P1,q1⟩;have hE:Hid (z8j B b lo m n cap cw co c s sr st col z w V1):=⟨_,P1,(HO.out.any lo b).trans q1,by rw[q6w];omega⟩
 clear P1 q1;go_wp2;go_ret;exact⟨rfl,hE.out⟩
theorem q5i (h:PS B w b lo m m b s sr n cap cw co st col z c) (o0 o2 o3 o4:Int) (lp:Option Addr) (ll lc:Nat) (l:List Int) (hl:z2x w lp l) (hll:l.length=ll) (hgl:l ≠ []->∀ g off,lp=some ⟨g,off,none⟩->g<lo\/b<=g) (hn:ll<=4000) (hx:∀ x ∈ l,-9223372036854775808<=x/\x<=9223372036854775807):Calls Tryz.prog 9 #[.pointer (some ⟨b,0,none⟩),.agg #[.int .i64 o0,.int .i64 7,.int .i64 o2,.int .i64 o3,.int .i64 o4,.slice lp ll lc]] w fun e w'=>e=.returned (.bool true)/\z8j B b lo m n cap cw co c s sr st col z w w':=by
 have HP:=Z0 h;obtain⟨bo,hbo⟩:∃ bo,w.heap.size=bo:=⟨_,rfl⟩
 have HBo:Hid (b<bo):=by rw[<-hbo];exact h.b_lt
 clear h;go_enter Tryz.func9,Tryz.ntmps9
 go_wp2_with fail;obtain⟨W,hW⟩:∃ W,w.alloc (.cells #[.int .i64 o0,.int .i64 7,.int .i64 o2,.int .i64 o3,.int .i64 o4,.slice lp ll lc] 32)=W:=⟨_,rfl⟩
 have oW:Out 0 0 w W:=by rw[<-hW];exact(Out.refl 0 0 _).alloc _
 have fO:W.heap[bo]? = some (.cells #[.int .i64 o0,.int .i64 7,.int .i64 o2,.int .i64 o3,.int .i64 o4,.slice lp ll lc] 32 (0,0)):=by rw[<-hW,<-hbo];exact heap_alloc_new _ _
 (try rw[hW]);clear hW hbo;have HLi:=Z0 hl;have HLl:=Z0 hll;have Hn:=Z0 hn;obtain⟨i0,hi0,hz0,hz1,hz2⟩:=Q3 z3f;have HO:=Z0 oW;have HfO:=Z0 fO;have HWs:Hid (b<W.heap.size/\w.heap.size<=W.heap.size):=⟨Nat.lt_of_lt_of_le HP.out.b_lt oW.size,oW.size⟩
 have HNt:Hid (∀ V x,Out 0 0 w V->x ∈ l->Calls Tryz.prog 21 #[.pointer (some ⟨b,0,none⟩),.int .i64 x] V fun e w'=>e=.returned (.int .i64 (q7w n st x))/\Out 0 0 V w'):=fun V x o hm=>q0j (HP.out.quiet o).two HP.out.le.2.2 x (hx x hm).1 (hx x hm).2
 have ll1:(ll:Int)<=4000:=by omega
 have x5:=(Y8 fO).2.2.2.2.2;clear hl hll hx hgl hn oW fO;go_wp2_with fail;clear x5;go_loopw [11,12] (fun x y wr=>∃ i:Nat,i<=ll/\y=.int .i64 (i:Int)/\wr.ownsRow W.heap.size 3 1 x (ntL n st l i).length (ivs (ntL n st l i))/\Out 0 0 W wr) (fun _ y _=>ll-(intOf y).toNat)
 case atStart=>exact⟨0,Nat.zero_le _,rfl,World.ownsRow_nil _ _ _ 1,Out.refl 0 0 _⟩
 case round=>
  obtain⟨i,i1,rfl,hown,hO⟩:=hrel;have b0:(0:Int)<=(i:Int):=by omega
  have x5:=(Y8 (hO.heap HfO.out z0)).2.2.2.2.2;obtain⟨aV,cV,rfl⟩:=Q8 hown;obtain⟨k,hk⟩:∃ k,(ntL n st l i).length=k:=⟨_,rfl⟩
  have Hk:Hid ((ntL n st l i).length=k/\k<=i):=⟨hk,by rw[<-hk];exact j8g n st l i⟩
  rw[hk] at hown ⊢;have HOw:=Z0 hown;have HOo:=Z0 hO;have k1:(k:Int)<=4000:=by have:=Hk.out.2;omega
  clear hown hk;by_cases hi':i<ll
  ·have b1:(i:Int)<(ll:Int):=by omega
   obtain⟨x,hxx⟩:∃ x,l[i]? = some x:=⟨_,List.getElem?_eq_getElem (by have:=HLl.out;omega)⟩
   obtain⟨g,off,rfl,hg1,hg2⟩:∃ g off,lp=some ⟨g,off,none⟩/\g<w.heap.size/\w.cell? ⟨g,off+i,none⟩=some (.int .i64 x):=by
    rcases HLi.out with e | ⟨g,off,e,h1,h2⟩
    ·have:=HLl.out;rw[e] at this;simp at this;omega
    ·have q:=h2 i (by have:=HLl.out;omega);rw[hxx] at q;exact⟨g,off,e,h1,q⟩
   have d0:=(HO.out.trans hO).cell hg2 z0;have Hx:=Z0 (And.intro hxx hg2);have HN1:=Z0 (HNt.out wr x (HO.out.trans hO) (List.mem_of_getElem? hxx));have hsu:=j3z (n:=n) (st:=st) hxx;obtain⟨v,hv⟩:∃ v,q7w n st x=v:=⟨_,rfl⟩
   rw[hv] at HN1 hsu;have Hv:=Z0 hv;have HSu:=Z0 hsu;clear hxx hg1 hg2 hO hv hsu;go_wp2_with fail;clear d0 x5;refine HN1.out.mono ?_;rintro e V1 ⟨rfl,q1⟩;have oV:=HOo.out.trans q1;have HV:=Z0 (And.intro oV q1);by_cases hv0:0<=v
   ·have x5:=(Y8 (oV.heap HfO.out z0)).2.2.2.2.2;have d0:=(HO.out.trans oV).cell Hx.out.2 z0;have HN2:=Z0 (HNt.out V1 x (HO.out.trans oV) (List.mem_of_getElem? Hx.out.1));rw[Hv.out] at HN2;clear oV q1;go_wp2_with fail;clear d0 x5;refine HN2.out.mono ?_;rintro e V2 ⟨rfl,q2⟩;have HV2:=Z0 (And.intro (HV.out.1.trans q2) (X8 HOw.out (HV.out.2.trans q2) (Nat.zero_le _)));clear q2;go_wp2_with (at_builtin;refine B6 _ rfl _ _ 30 rfl W.heap.size 3 i0 (.int .i64 0) 1 8 Tryz.underlying30 hi0 hz0 hz1 hz2 rfl (by decide) _ k (ivs (ntL n st l i)) rfl (X8 HV2.out.2 ((Out.refl 0 0 _).alloc _) (Nat.zero_le _)) ⟨V2.heap.size,0,none⟩ 1 1 [.int .i64 v] rfl rfl (J9 _ _ _) (z1v _ rfl) (by decide) ?c3 ?c4 ?c5 ?_)
    case c3=>unfold maxLen;have:=Hk.out.2;have:=Hn.out;omega
    case c4=>have:=Hk.out.2;have:=Hn.out;omega
    case c5=>have:=HV2.out.1.size;simp;omega
    intro g1 cp1 wA own1 gr1;have oA:Out 0 0 W wA:=q9o (HV2.out.1.alloc _) gr1.grew (fun y hy=>(Z8 HV2.out.2 y hy).1);have HA:Hid (wA.ownsRow W.heap.size 3 1 (.slice (some ⟨g1,0,none⟩) (k+1) cp1) (ntL n st l (i+1)).length (ivs (ntL n st l (i+1)))/\Out 0 0 W wA):=by
     refine⟨?_,oA⟩;rw[HSu.out,if_pos hv0,List.length_append,Hk.out.1];unfold ivs at own1 ⊢;rw[List.map_append];exact own1
    clear own1 gr1 oA;go_wp2_with fail;go_roundw
    case rel=>exact⟨i+1,by omega,by go_num,HA.out.1,HA.out.2⟩
    case measure=>simp[intOf];omega
   ·have v1:v<0:=by omega
    have HA:Hid (V1.ownsRow W.heap.size 3 1 (.slice aV k cV) (ntL n st l (i+1)).length (ivs (ntL n st l (i+1)))/\Out 0 0 W V1):=by
     refine⟨?_,HV.out.1⟩;rw[HSu.out,if_neg hv0,Hk.out.1];exact X8 HOw.out HV.out.2 (Nat.zero_le _)
    clear oV q1;go_wp2_with fail;go_roundw
    case rel=>exact⟨i+1,by omega,by go_num,HA.out.1,HA.out.2⟩
    case measure=>simp[intOf];omega
  ·have e:i=ll:=by omega
   subst e;have hI:z2x wr aV (ntL n st l i):=by
    by_cases h0:k=0
    ·exact .inl (List.eq_nil_of_length_eq_zero (by rw[Hk.out.1];exact h0))
    ·obtain⟨g,cap',e,hg,_⟩:=HOw.out.form (by omega);cases e;refine .inr ⟨g,0,rfl,(Z8 HOw.out g rfl).2,fun j hj=>?_⟩;rw[Nat.zero_add];refine z4s HOw.out ?_;rw[j7w,List.getElem?_eq_getElem hj];rfl
   have hg0:ntL n st l i ≠ []->∀ g off,aV=some ⟨g,off,none⟩->g<lo\/b<=g:=fun _ g off e=>by
    subst e;have h1:=(Z8 HOw.out g rfl).1;have h2:=HWs.out;omega
   have hkp:=q1x (HP.out.quiet (HO.out.trans hO)) (cp:=cV) hI hg0 (by have h1:=Hk.out;have h2:=Hn.out;omega);rw[Hk.out.1] at hkp;have HK:=Z0 hkp;have HOx:=Z0 (HO.out.trans hO);clear hI hg0 hkp hO hi' i1;go_wp2_with fail;clear x5 b0;refine HK.out.mono ?_;rintro e V1 ⟨rfl,P1,q1⟩;have hE:Hid (z8j B b lo m n cap cw co c s sr st col z w V1):=⟨_,P1,(HOx.out.any lo b).trans q1,by rw[q6w];omega⟩
   clear P1 q1;go_wp2;go_ret;exact⟨rfl,hE.out⟩
end
end Go.Proofs.YtjbbkeoolodeaabGreatDoor
