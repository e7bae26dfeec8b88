import Derived.Test.YtjbbkeoolodeaabGreatDoorB46
import Derived.Test.YtjbbkeoolodeaabGreatDoorB45
import Derived.Test.YtjbbkeoolodeaabGreatDoorB23
import Derived.Test.YtjbbkeoolodeaabGreatDoorB19
namespace Go.Proofs.YtjbbkeoolodeaabGreatDoor
open Go.RowKit
set_option linter.unusedVariables false
set_option maxRecDepth 100000
set_option maxHeartbeats 16000000
set_option linter.unusedSimpArgs false
structure Pr where
 b:Nat
 lo:Nat
 m:Nat
 n:Nat
 cap:Nat
 cw:Nat
 co:Nat
 s:Nat->Nat
 sr:Nat->Nat
def PQ (B:Nat) (w:World) (q:Pr) (st:Sp) (col:Nat->Nat) (z:Bool) (c:Nat):Prop:=PS B w q.b q.lo q.m q.m q.b q.s q.sr q.n q.cap q.cw q.co st col z c/\st.last<=(c:Int)
def md (q:Pr) (col:Nat->Nat):Nat->Nat:=fun k=>if q.lo<=k/\k<q.b then 1 else col k
def GX (q:Pr) (col col':Nat->Nat) (w w':World):Prop:=Fix (md q col) col' w w'/\∀ k,k<w.heap.size->col k=7->col' k=7
section
variable {B B0:Nat} {w w' w'':World} {q q1 q2:Pr} {st st' st1 st2:Sp} {col col' col1 col2 col1':Nat->Nat} {z z1 z2 z1':Bool} {c c':Nat}
theorem md_7 {k:Nat} (h:md q col k=7):col k=7:=by
 unfold md at h;split at h
 ·cases h
 ·exact h
theorem GX.of_fix (f:Fix col col' w w'):GX q col col' w w':=
 ⟨⟨f.1.mono (fun _ h=>h) |>.recol (fun k hk hp h7=>hp (fun e=>h7 (md_7 e))),fun k hk h=>f.2 k hk (md_7 h)⟩,f.2⟩
theorem GX.of_out (o:Out q.lo q.b w w'):GX q col col w w':=
 ⟨⟨⟨o.1,o.2.1,o.2.2.1,o.size,fun k hk hp=>o.block hk (by
  have h7:md q col k=7:=Classical.not_not.1 hp;unfold md at h7;split at h7
  ·cases h7
  ·omega)⟩,fun k hk h=>md_7 h⟩,fun _ _ h=>h⟩
structure PP (B B0:Nat) (w:World) (q1 q2:Pr) (st1 st2:Sp) (col1 col2:Nat->Nat) (z1 z2:Bool) (c:Nat):Prop where
 p1:PQ B w q1 st1 col1 z1 c
 p2:PQ B w q2 st2 col2 z2 c
 ap:q1.b<q2.lo\/q2.b<q1.lo
 sep:∀ k,k<w.heap.size->col1 k=7\/col2 k=7
 c1:∀ k,q2.lo<=k->k<q2.b->col1 k=7
 c2:∀ k,q1.lo<=k->k<q1.b->col2 k=7
 bb:B0<=q1.lo/\B0<=q2.lo/\B0<=w.heap.size
 b1:∀ k,k<B0->col1 k=7
 b2:∀ k,k<B0->col2 k=7
theorem PP.swap (h:PP B B0 w q1 q2 st1 st2 col1 col2 z1 z2 c):PP B B0 w q2 q1 st2 st1 col2 col1 z2 z1 c:=
 ⟨h.p2,h.p1,h.ap.symm,fun k hk=>(h.sep k hk).symm,h.c2,h.c1,⟨h.bb.2.1,h.bb.1,h.bb.2.2⟩,h.b2,h.b1⟩
theorem PQ.mono (h:PQ B w q st col z c) (hc:c<=c'):PQ B w q st col z c':=by
 obtain⟨h1,h2⟩:=h;exact⟨⟨h1.sp,h1.rf,h1.ks.mono hc,h1.c7,h1.le⟩,by omega⟩
theorem PP.step (h:PP B B0 w q1 q2 st1 st2 col1 col2 z1 z2 c) (p:PQ B w' q1 st' col1' z1' c') (g:GX q1 col1 col1' w w') (hc:c<=c') :
  ∃ col2',PP B B0 w' q1 q2 st' st2 col1' col2' z1' z2 c':=by
 have hp2:=h.p2.1;have htop:∀ k,(k<4\/(q2.lo<=k/\k<q2.b))->k<w.heap.size:=fun k hk=>by
  have e1:=hp2.rf.top;have e2:=hp2.sp.1.glob;have e3:=hp2.le;omega
 have f7:∀ k,(k<4\/(q2.lo<=k/\k<q2.b))->md q1 col1 k=7:=fun k hk=>by
  have hg1:=h.p1.1.sp.1.glob;have hl1:=h.p1.1.le;have hap:=h.ap;have hl2:=hp2.le;unfold md;rw[if_neg (by omega)];rcases hk with hk | hk
  ·exact h.p1.1.c7 k (.inl hk)
  ·exact h.c1 k hk.1 hk.2
 obtain⟨cN,hcN⟩:∃ cN:Nat->Nat,cN=fun k=>if k<w.heap.size then col2 k else 7:=⟨_,rfl⟩
 have hag:∀ k,k<w.heap.size->cN k=col2 k:=fun k hk=>by rw[hcN];exact if_pos hk
 have hks:KS B w' q2.b (.pointer (some ⟨q2.s 14,0,none⟩)) (.pointer (some ⟨q2.sr 0,0,none⟩)) cN z2 c:=by
  refine(hp2.ks.recol hag).chg (P:=fun c=>c=7) ⟨g.1.1.1,g.1.1.2.1,g.1.1.2.2.1,g.1.1.size,fun k hk hne=>g.1.1.2.2.2.2 k hk (fun e=>e ?_)⟩ (fun _ e=>.inl e);rw[hag k hk] at hne;unfold md;by_cases e:q1.lo<=k/\k<q1.b
  ·exact absurd (h.c2 k e.1 e.2) hne
  ·rw[if_neg e];rcases h.sep k hk with a | a
   ·exact a
   ·exact absurd a hne
 have hl2:=hp2.le;have hpq:PQ B w' q2 st2 cN z2 c':=by
  refine⟨⟨hp2.sp.fix g.1 (fun k hk=>f7 k (by omega)) hl2.1,hp2.rf.fix g.1 (fun k hk=>f7 k (by omega)) hl2.2.1,hks.mono hc,fun k hk=>?_,hp2.le⟩,by have:=h.p2.2;omega⟩;rw[hag k (htop k (by omega))];exact hp2.c7 k hk
 refine⟨cN,p,hpq,h.ap,fun k hk=>?_,fun k k1 k2=>g.2 k (htop k (.inr ⟨k1,k2⟩)) (h.c1 k k1 k2),fun k k1 k2=>?_,⟨h.bb.1,h.bb.2.1,Nat.le_trans h.bb.2.2 g.1.1.size⟩,fun k hk=>g.2 k (by have:=h.bb.2.2;omega) (h.b1 k hk),fun k hk=>?_⟩
 ·by_cases e:k<w.heap.size
  ·rcases h.sep k e with a | a
   ·exact .inl (g.2 k e a)
   ·exact .inr (by rw[hag k e];exact a)
  ·exact .inr (by rw[hcN];exact if_neg e)
 ·have e1:=h.p1.1.rf.top;rw[hag k (by omega)];exact h.c2 k k1 k2
 ·rw[hag k (by have:=h.bb.2.2;omega)];exact h.b2 k hk
theorem PP.below (h:PP B B0 w q1 q2 st1 st2 col1 col2 z1 z2 c) (g:GX q1 col1 col1' w w'):Below B0 w w':=
 ⟨g.1.1.1,g.1.1.2.1,g.1.1.2.2.1,g.1.1.size,fun k hk=>g.1.1.2.2.2.2 k (by have:=h.bb.2.2;omega) (fun e=>e (by
  unfold md;rw[if_neg (by have:=h.bb;omega)];exact h.b1 k hk))⟩
theorem PP.quiet (h:PP B B0 w q1 q2 st1 st2 col1 col2 z1 z2 c) (o:Out 0 0 w w'):∃ col2',PP B B0 w' q1 q2 st1 st2 col1 col2' z1 z2 c:=
 h.step (col1':=col1) ⟨h.p1.1.quiet o,h.p1.2⟩ (GX.of_fix ((Fix.refl _ _).out o)) (Nat.le_refl _)
theorem q9t (h:PQ B w q st col z c) (hc:c<=4000) {o0 k a b' d:Int} {lp:Option Addr} {lc:Nat} {l:List Int} (hk:1<=k/\k<=7) (ha:-9223372036854775808<=a/\a<=9223372036854775807) (hb:-9223372036854775808<=b'/\b'<=9223372036854775807)
  (hl:z2x w lp l) (hgl:l ≠ []->∀ g off,lp=some ⟨g,off,none⟩->g<q.lo\/q.b<=g) (hn:l.length<=4000) (hx:∀ x ∈ l,-9223372036854775808<=x/\x<=9223372036854775807) :
  Calls Tryz.prog 9 #[.pointer (some ⟨q.b,0,none⟩),.agg #[.int .i64 o0,.int .i64 k,.int .i64 a,.int .i64 b',.int .i64 d,.slice lp l.length lc]] w fun e w'=>e=.returned (.bool true)/\∃ st',PQ B w' q st' col z (c+1)/\GX q col col w w':=by
 have fin:∀ (e:Ending) (w':World),(e=.returned (.bool true)/\z8j B q.b q.lo q.m q.n q.cap q.cw q.co c q.s q.sr st col z w w')->(e=.returned (.bool true)/\∃ st',PQ B w' q st' col z (c+1)/\GX q col col w w'):=fun e w' h2=>by
  obtain⟨rfl,st',h3,h4,h5⟩:=h2;have hl:=h.2;exact⟨rfl,st',⟨⟨h3.sp,h3.rf,h3.ks.mono (by omega),h3.c7,h3.le⟩,by omega⟩,GX.of_out h4⟩
 have hlast:st.last<4611686018427387904:=by have:=h.2;omega
 have hc7:k=1\/k=2\/k=3\/k=4\/k=5\/k=6\/k=7:=by omega
 rcases hc7 with rfl | rfl | rfl | rfl | rfl | rfl | rfl
 ·exact(q4s h.1 o0 a b' d hlast hb lp l.length lc).mono fin
 ·exact(q3s h.1 o0 a b' d lp l.length lc).mono fin
 ·exact(q5e h.1 o0 a b' d ha lp l.length lc).mono fin
 ·exact(q3r h.1 o0 a b' d lp l.length lc).mono fin
 ·exact(q5j h.1 o0 a b' d ha hb lp l.length lc).mono fin
 ·exact(q4x h.1 o0 a b' d lp l.length lc l hl rfl hgl hn).mono fin
 ·exact(q5i h.1 o0 a b' d lp l.length lc l hl rfl hgl hn hx).mono fin
end
section
variable {B:Nat} {w w':World} {b lo hi m n cap cw co c:Nat} {s sr:Nat->Nat} {st st':Sp} {col:Nat->Nat} {z:Bool}
theorem z5s (h:PS B w b lo m m b s sr n cap cw co st col z c) (o0 o2 o3 o4:Int) (lp:Option Addr) (ll lc:Nat):Calls Tryz.prog 10 #[.pointer (some ⟨b,0,none⟩),.agg #[.int .i64 o0,.int .i64 10,.int .i64 o2,.int .i64 o3,.int .i64 o4,.slice lp ll lc]] w fun e w'=>e=.returned (.bool true)/\Out 0 0 w w':=by
 have HP:=Z0 h;obtain⟨bo,hbo⟩:∃ bo,w.heap.size=bo:=⟨_,rfl⟩
 have HBo:Hid (b<bo):=by rw[<-hbo];exact h.b_lt
 clear h;go_enter Tryz.func10,Tryz.ntmps10
 go_wp2_with fail;obtain⟨W,hW⟩:∃ W,w.alloc (.cells #[.int .i64 o0,.int .i64 10,.int .i64 o2,.int .i64 o3,.int .i64 o4,.slice lp ll lc] 32)=W:=⟨_,rfl⟩
 have oW:Out 0 0 w W:=by rw[<-hW];exact(Out.refl 0 0 _).alloc _
 have fO:W.heap[bo]? = some (.cells #[.int .i64 o0,.int .i64 10,.int .i64 o2,.int .i64 o3,.int .i64 o4,.slice lp ll lc] 32 (0,0)):=by rw[<-hW,<-hbo];exact heap_alloc_new _ _
 (try rw[hW]);clear hW hbo;obtain⟨v,hv⟩:∃ v,z7r n st.W o2=v:=⟨_,rfl⟩
 obtain⟨ok,hok⟩:∃ v,inB (64*n) o2=v:=⟨_,rfl⟩
 have HCp:Hid (∀ V,Out 0 0 w V->Calls Tryz.prog 14 #[.pointer (some ⟨s 14,0,none⟩),.int .i64 o2] V fun e w'=>e=.returned (.tuple #[.int .i64 v,.bool ok])/\Out 0 0 V w'):=fun V o=>by
  have q:=q6e (HP.out.sp.quiet o).1 o2;rw[show (Z6 n st).W=st.W from rfl,hv,hok] at q;exact q.mono fun e w' ⟨h1,h2⟩=>⟨h1,h2 ▸ Out.refl 0 0 _⟩
 have HCr:Hid (∀ V,Out 0 0 w V->Calls Tryz.prog 26 #[.pointer (some ⟨sr 0,0,none⟩),.int .i64 o2] V fun e w'=>e=.returned (.tuple #[.int .i64 v,.bool ok])/\Out 0 0 V w'):=fun V o=>by
  have q:=q3y (HP.out.rf.quiet o) o2;rw[hv,hok] at q;exact q.mono fun e w' ⟨h1,h2⟩=>⟨h1,h2 ▸ Out.refl 0 0 _⟩
 clear hv hok;obtain⟨p0,p1⟩:=(HP.out.quiet oW).ks.cells;obtain⟨_,x1,x2,x3,x4,x5⟩:=Y8 fO;go_wp2_with fail;refine wp_region_held_drew (S:=fun w'=>w'.cell? ⟨b,0,none⟩=some (.pointer (some ⟨s 14,0,none⟩))/\w'.cell? ⟨b,1,none⟩=some (.pointer (some ⟨sr 0,0,none⟩))/\w'.cell? ⟨bo,2,none⟩=some (.int .i64 o2)/\w'.cell? ⟨bo,3,none⟩=some (.int .i64 o3)/\w'.cell? ⟨bo,4,none⟩=some (.int .i64 o4)) (by kernel_rfl) ?hS112 (fun hHeld=>?rest112)
 case hS112=>exact⟨p0,p1,x2,x3,x4⟩
 obtain⟨Z,hZ⟩:∃ Z,W.drew=Z:=⟨_,rfl⟩
 have oZ:Out 0 0 W Z:=by rw[<-hZ];exact(Out.refl 0 0 _).drew
 rw[hZ] at hHeld ⊢;clear hZ p0 p1 x1 x2 x3 x4 x5;refine tk 0 ?_;refine tk 1 ?_;refine tk 2 ?_;refine tk 3 ?_;refine tk 4 ?_;refine tk 5 ?_;refine rd1 6 fun KK hK=>?_
 simp only[xa,xb,xc];go_simp;refine(HCp.out _ (oW.trans oZ)).mono ?_;rintro e V1 ⟨rfl,q1⟩;refine hK.out _ _ ?hS119 (fun hHeld2=>?rest119)
 case hS119=>exact⟨q1.cell hHeld.1 z0,q1.cell hHeld.2.1 z0,q1.cell hHeld.2.2.1 z0,q1.cell hHeld.2.2.2.1 z0,q1.cell hHeld.2.2.2.2 z0⟩
 clear hK KK;replace hHeld:=hHeld2;clear hHeld2;refine tk 7 ?_;refine tk 8 ?_;refine tk 9 ?_;refine tk 10 ?_;refine tk 11 ?_;refine dn ?_;have oF4:=oW.trans (oZ.trans q1);obtain⟨p0,p1,x2,x3,x4⟩:=hHeld;have x1:=p0;have x5:=p0;clear oZ q1;go_wp2_with fail;refine wp_region_held_drew (S:=fun w'=>w'.cell? ⟨b,0,none⟩=some (.pointer (some ⟨s 14,0,none⟩))/\w'.cell? ⟨b,1,none⟩=some (.pointer (some ⟨sr 0,0,none⟩))/\w'.cell? ⟨bo,2,none⟩=some (.int .i64 o2)/\w'.cell? ⟨bo,3,none⟩=some (.int .i64 o3)/\w'.cell? ⟨bo,4,none⟩=some (.int .i64 o4)) (by kernel_rfl) ?hS99 (fun hHeld=>?rest99)
 case hS99=>exact⟨p0,p1,x2,x3,x4⟩
 obtain⟨Z,hZ⟩:∃ Z,V1.drew=Z:=⟨_,rfl⟩
 have oZ:Out 0 0 V1 Z:=by rw[<-hZ];exact(Out.refl 0 0 _).drew
 rw[hZ] at hHeld ⊢;clear hZ p0 p1 x1 x2 x3 x4 x5;refine tk 0 ?_;refine tk 1 ?_;refine tk 2 ?_;refine tk 3 ?_;refine tk 4 ?_;refine tk 5 ?_;refine rd1 6 fun KK hK=>?_
 simp only[xa,xb,xc];go_simp;refine(HCr.out _ (oF4.trans oZ)).mono ?_;rintro e V2 ⟨rfl,q1⟩;refine hK.out _ _ ?hS106 (fun hHeld2=>?rest106)
 case hS106=>exact⟨q1.cell hHeld.1 z0,q1.cell hHeld.2.1 z0,q1.cell hHeld.2.2.1 z0,q1.cell hHeld.2.2.2.1 z0,q1.cell hHeld.2.2.2.2 z0⟩
 clear hK KK;replace hHeld:=hHeld2;clear hHeld2;refine tk 7 ?_;refine tk 8 ?_;refine tk 9 ?_;refine tk 10 ?_;refine tk 11 ?_;refine dn ?_;have o5:=oF4.trans (oZ.trans q1);clear hHeld oZ q1;go_wp2;go_ret;exact⟨rfl,o5⟩
theorem q3a (h:PS B w b lo m m b s sr n cap cw co st col z c) (o0 o2 o3 o4:Int) (lp:Option Addr) (ll lc:Nat):Calls Tryz.prog 10 #[.pointer (some ⟨b,0,none⟩),.agg #[.int .i64 o0,.int .i64 11,.int .i64 o2,.int .i64 o3,.int .i64 o4,.slice lp ll lc]] w fun e w'=>e=.returned (.bool true)/\Out 0 0 w w':=by
 have HP:=Z0 h;obtain⟨bo,hbo⟩:∃ bo,w.heap.size=bo:=⟨_,rfl⟩
 have HBo:Hid (b<bo):=by rw[<-hbo];exact h.b_lt
 clear h;go_enter Tryz.func10,Tryz.ntmps10
 go_wp2_with fail;obtain⟨W,hW⟩:∃ W,w.alloc (.cells #[.int .i64 o0,.int .i64 11,.int .i64 o2,.int .i64 o3,.int .i64 o4,.slice lp ll lc] 32)=W:=⟨_,rfl⟩
 have oW:Out 0 0 w W:=by rw[<-hW];exact(Out.refl 0 0 _).alloc _
 have fO:W.heap[bo]? = some (.cells #[.int .i64 o0,.int .i64 11,.int .i64 o2,.int .i64 o3,.int .i64 o4,.slice lp ll lc] 32 (0,0)):=by rw[<-hW,<-hbo];exact heap_alloc_new _ _
 (try rw[hW]);clear hW hbo;have HSe:=Z0 (z9u (HP.out.quiet oW).two o2 1);have HO:=Z0 oW;obtain⟨_,x1,x2,x3,x4,x5⟩:=Y8 fO;clear oW fO;go_wp2_with fail;refine HSe.out.mono ?_;rintro e V1 ⟨rfl,q1⟩;have hE:=Z0 (HO.out.trans q1);clear q1;go_wp2;go_ret;exact⟨rfl,hE.out⟩
theorem q2d (h:PS B w b lo m m b s sr n cap cw co st col z c) (o0 o2 o3 o4:Int) (lp:Option Addr) (ll lc:Nat):Calls Tryz.prog 10 #[.pointer (some ⟨b,0,none⟩),.agg #[.int .i64 o0,.int .i64 13,.int .i64 o2,.int .i64 o3,.int .i64 o4,.slice lp ll lc]] w fun e w'=>e=.returned (.bool true)/\Out 0 0 w w':=by
 have HP:=Z0 h;obtain⟨bo,hbo⟩:∃ bo,w.heap.size=bo:=⟨_,rfl⟩
 have HBo:Hid (b<bo):=by rw[<-hbo];exact h.b_lt
 clear h;go_enter Tryz.func10,Tryz.ntmps10
 go_wp2_with fail;obtain⟨W,hW⟩:∃ W,w.alloc (.cells #[.int .i64 o0,.int .i64 13,.int .i64 o2,.int .i64 o3,.int .i64 o4,.slice lp ll lc] 32)=W:=⟨_,rfl⟩
 have oW:Out 0 0 w W:=by rw[<-hW];exact(Out.refl 0 0 _).alloc _
 have fO:W.heap[bo]? = some (.cells #[.int .i64 o0,.int .i64 13,.int .i64 o2,.int .i64 o3,.int .i64 o4,.slice lp ll lc] 32 (0,0)):=by rw[<-hW,<-hbo];exact heap_alloc_new _ _
 (try rw[hW]);clear hW hbo;have HSe:=Z0 (z9u (HP.out.quiet oW).two o2 o3);have HO:=Z0 oW;obtain⟨_,x1,x2,x3,x4,x5⟩:=Y8 fO;clear oW fO;go_wp2_with fail;refine HSe.out.mono ?_;rintro e V1 ⟨rfl,q1⟩;have hE:=Z0 (HO.out.trans q1);clear q1;go_wp2;go_ret;exact⟨rfl,hE.out⟩
end
def smG:List OpQ->Nat->Nat->Bool
 | _,n,0=>decide (n<=8000)
 | [],n,_+1=>decide (n<=8000)
 | o :: t,n,k+1=>decide (n<=8000) && (decide (o.L.length<=400) && smG t (n+o.L.length) k)
def smB (os:List OpQ):Bool:=smG os 0 120
theorem j2b:∀ (k:Nat) (os:List OpQ) (n:Nat),smG os n k=true->∀ (j:Nat) (o:OpQ),os[j]? = some o->j<k->o.L.length<=400
 | 0,_,_,_,j,o,_,hj=>by omega
 | k+1,[],_,_,j,o,h,_=>by simp at h
 | k+1,q :: t,n,h,j,o,ho,hj=>by
  unfold smG at h;simp only[Bool.and_eq_true,decide_eq_true_eq] at h;cases j with
  | zero=>simp at ho;subst ho;exact h.2.1
  | succ j=>exact j2b k t _ h.2.2 j o (by simpa using ho) (by omega)
theorem j9w {os:List OpQ} (h:smB os=true):∀ (j:Nat) (o:OpQ),os[j]? = some o->j<120->o.L.length<=400:=j2b 120 os 0 h
theorem j8l {os:List OpQ} {n k:Nat} (h:os=[]\/k=0):smG os n k=decide (n<=8000):=by
 rcases h with rfl | rfl
 ·cases k <;> rfl
 ·cases os <;> rfl
theorem j3y {os:List OpQ} {o:OpQ} {i n:Nat} (ho:os[i]? = some o) (hi:i<120):smG (os.drop i) n (120-i)=(decide (n<=8000) && (decide (o.L.length<=400) && smG (os.drop (i+1)) (n+o.L.length) (120-(i+1)))):=by
 obtain⟨h1,h2⟩:=List.getElem?_eq_some_iff.1 ho;rw[List.drop_eq_getElem_cons h1,h2,show 120-i=(120-(i+1))+1 from by omega];rfl
theorem j3x {w:World} {b:Nat} {os:List OpQ} {p:Option Addr} {cp:Nat} (hS:ScrAt w b p os) :
  Calls Tryz.prog 7 #[.slice p os.length cp] w fun e w'=>w'=w/\e=.returned (.bool (smB os)):=by
 have HSc:=Z0 hS;have ll0:(0:Int)<=(os.length:Int):=by omega
 clear hS;go_enter Tryz.func7,Tryz.ntmps7
 go_wp2_with fail;go_loopw [3,4] (fun nv u wr=>∃ (i n:Nat),u=.int .i64 (i:Int)/\nv=.int .i64 (n:Int)/\i<=os.length/\i<=120/\n<=400*i/\wr=w/\smG (os.drop i) n (120-i)=smB os) (fun _ u _=>120-(intOf u).toNat)
 case atStart=>exact⟨0,0,rfl,rfl,Nat.zero_le _,by omega,by omega,rfl,rfl⟩
 case round=>
  obtain⟨i,n,rfl,rfl,i1,i2,i3,rfl,hl⟩:=hrel;have i0:(0:Int)<=(i:Int):=by omega
  have n0:(0:Int)<=(n:Int):=by omega
  have i4:(i:Int)<=120:=by omega
  have n4:(n:Int)<=48000:=by omega
  have HL:=Z0 hl;clear hl;by_cases hi:i<os.length/\i<120
  ·have j1:(i:Int)<(os.length:Int):=by omega
   have j2:(i:Int)<120:=by omega
   obtain⟨o,ho⟩:∃ o,os[i]? = some o:=⟨_,List.getElem?_eq_getElem hi.1⟩
   have hst:=j3y (n:=n) ho hi.2;rw[HL.out] at hst;by_cases hn:n<=8000
   ·have j3:(n:Int)<=8000:=by omega
    rw[decide_eq_true hn,Bool.true_and] at hst;rcases HSc.out.2 with e | ⟨g,off,hp,hgb,hcell⟩
    ·rw[e] at hi;simp at hi
    subst hp;obtain⟨x,lp,lc,c0,c1,c2,c3,c4,c5,c6⟩:=hcell i o ho;obtain⟨m,hm⟩:∃ m,o.L.length=m:=⟨_,rfl⟩
    rw[hm] at c5 hst;have m0:(0:Int)<=(m:Int):=by omega
    clear hcell c0 c1 c2 c3 c4 c6 ho hm;by_cases hm4:m<=400
    ·have m4:¬ (400:Int)<(m:Int):=by omega
     have m5:decide ((400:Int)<(m:Int))=false:=decide_eq_false m4;have m6:(m:Int)<=400:=by omega
     rw[decide_eq_true hm4,Bool.true_and] at hst;have HST:=Z0 hst;clear hst;go_wp2;go_roundw
     case rel=>exact⟨i+1,n+m,by go_num,by go_num,by omega,by omega,by omega,trivial,HST.out.symm⟩
     case measure=>simp[intOf];omega
    ·have m4:(400:Int)<(m:Int):=by omega
     rw[decide_eq_false hm4,Bool.false_and] at hst;have HST:=Z0 hst;clear hst;go_wp2;go_ret;exact⟨rfl,by rw[HST.out];rfl⟩
   ·have j3:¬ (n:Int)<=8000:=by omega
    have j4:decide ((n:Int)<=8000)=false:=decide_eq_false j3;rw[decide_eq_false hn,Bool.false_and] at hst;have HST:=Z0 hst;clear hst;go_wp2;go_ret;exact⟨rfl,by rw[HST.out];rfl⟩
  ·have hE:smB os=decide ((n:Int)<=8000):=by
    rw[<-HL.out,j8l]
    ·by_cases e:n<=8000
     ·rw[decide_eq_true e,decide_eq_true (by omega)]
     ·rw[decide_eq_false e,decide_eq_false (by omega)]
    ·by_cases e:i<os.length
     ·right;omega
     ·left;exact List.drop_eq_nil_of_le (by omega)
   obtain⟨r,hr⟩:∃ r,decide ((n:Int)<=8000)=r:=⟨_,rfl⟩
   rw[hr] at hE;have HE:=Z0 hE;clear hE;by_cases hi2:i<os.length
   ·have j1:(i:Int)<(os.length:Int):=by omega
    have j2:¬ (i:Int)<120:=by omega
    have j3:decide ((i:Int)<120)=false:=decide_eq_false j2;cases r
    ·go_wp2;go_ret;exact⟨rfl,by rw[HE.out];first | rfl | (simp;omega)⟩
    ·go_wp2;go_ret;exact⟨rfl,by rw[HE.out];first | rfl | (simp;omega)⟩
   ·have j1:¬ (i:Int)<(os.length:Int):=by omega
    have j3:decide ((i:Int)<(os.length:Int))=false:=decide_eq_false j1;cases r
    ·go_wp2;go_ret;exact⟨rfl,by rw[HE.out];first | rfl | (simp;omega)⟩
    ·go_wp2;go_ret;exact⟨rfl,by rw[HE.out];first | rfl | (simp;omega)⟩
def z7g (lo hi:Int):Prop:=∀ (B:Nat) (w:World) (q:Pr) (st:Sp) (col:Nat->Nat) (c:Nat) (o0 k a b' d:Int) (lp:Option Addr) (lc:Nat) (l:List Int),PQ B w q st col true c->c<=400->lo<=k->k<=hi->(-9223372036854775808<=a/\a<=9223372036854775807)->(-9223372036854775808<=b'/\b'<=9223372036854775807) ->
 z2x w lp l->(l ≠ []->∀ g off,lp=some ⟨g,off,none⟩->g<q.lo\/q.b<=g)->l.length<=400->(∀ x ∈ l,-9223372036854775808<=x/\x<=9223372036854775807) ->
 Calls Tryz.prog 10 #[.pointer (some ⟨q.b,0,none⟩),.agg #[.int .i64 o0,.int .i64 k,.int .i64 a,.int .i64 b',.int .i64 d,.slice lp l.length lc]] w fun e w'=>e=.returned (.bool true)/\∃ st' col',PQ B w' q st' col' true (c+3)/\GX q col col' w w'
theorem j1z {B:Nat} {w:World} {b lo m n cap cw co:Nat} {s sr:Nat->Nat} (h1:SpAt w lo m s n cap newSp) (h2:RfAt w m b sr n cw co newSp) (h3:w.heap[b]? = some (pr0 (s 14) (sr 0))) (h4:B<=w.heap.size) (hl:lo<=m/\m<=b) (hn:n<=24):PS B w b lo m m b s sr n cap cw co newSp (fun k=>if k=b then 0 else 7) true 0:=by
 refine⟨h1,h2,⟨fun i=>if i=0 then .pointer (some ⟨s 14,0,none⟩) else if i=1 then .pointer (some ⟨sr 0,0,none⟩) else .slice none 0 0,fun _=>[],fun _ _=>(0,fun _ _=>0),fun _=>0,0,0,0,0,0,⟨h4,h3,if_pos rfl,fun i i2 i14=>?_,fun i i2 i14 x hx=>?_,fun t i v ht hp hv=>?_,fun t i v ht hv=>?_,fun t i v z ht hv hz=>?_⟩,⟨⟨rfl,rfl,rfl,rfl,rfl,rfl⟩,⟨rfl,rfl⟩,⟨rfl,rfl⟩,⟨rfl,rfl⟩⟩,⟨by omega,by omega,by omega,by omega⟩,⟨rfl,rfl⟩,fun _=>rfl⟩,fun k hk=>?_,hl.1,hl.2,hn⟩
 ·rw[if_neg (by omega),if_neg (by omega)];exact World.ownsRow_nil _ _ _ 1
 ·rw[if_neg (by omega),if_neg (by omega)] at hx;cases hx
 ·cases hv
 ·cases hv
 ·cases hv
 ·have g1:=h1.1.glob
  show (if k=b then 0 else 7)=7
  rw[if_neg (by omega)]
def q6x (w w':World) (q:Pr):Prop:=SpAt w' q.lo q.m q.s q.n q.cap newSp/\RfAt w' q.m q.b q.sr q.n q.cw q.co newSp/\w'.heap[q.b]? = some (pr0 (q.s 14) (q.sr 0))/\w'.heap.size=q.b+1/\q.lo=w.heap.size/\(q.lo<=q.m/\q.m<=q.b)/\q.n<=24
theorem j4v {w:World} (hT:Tab w) (n:Int):Calls Tryz.prog 8 #[.int .i64 n] w fun e w'=>Out 0 0 w w'/\(e=.returned (.tuple #[.pointer none,.bool true])\/∃ q:Pr,e=.returned (.tuple #[.pointer (some ⟨q.b,0,none⟩),.bool true])/\q6x w w' q):=by
 cases hB:j2u n with
 | false=>exact(j7o n hB w).mono fun e w' ⟨h1,h2⟩=>⟨h2 ▸ Out.refl 0 0 _,.inl h1⟩
 | true=>
  obtain⟨k,rfl,hk1,hk2⟩:∃ k:Nat,n=(k:Int)/\1<=k/\k<=4096:=by
   unfold j2u at hB;simp at hB;exact⟨n.toNat,by omega,by omega,by omega⟩
  by_cases h24:24<k
  ·exact(q8o hT k h24 hk2).mono fun e w' ⟨h1,h2⟩=>⟨h2,.inl h1⟩
  ·refine(j3n hT k hk1 (by omega)).mono ?_;rintro e w' ⟨b,s,sr,cap,m,rfl,h1,h2,h3,h4,o1⟩;refine⟨o1,.inr ⟨⟨b,w.heap.size,m,k,cap,64*k,64*k,s,sr⟩,rfl,h1,h2,h3,h4,rfl,⟨?_,?_⟩,by show k<=24;omega⟩⟩
   ·have q:=h1.1.inn 0 (by omega);show w.heap.size<=m;omega
   ·have q:=h2.inn 0 (by omega);show m<=b;omega
theorem x1a {w:World} {b:Nat} {p:Option Addr} {l:List Int} (hb:b<=w.heap.size) (h:SlI w b p l):z2x w p l:=by
 rcases h.2 with e | ⟨g,off,e,hg,hc⟩
 ·exact .inl e
 ·exact .inr ⟨g,off,e,by omega,fun j hj=>by rw[hc j l[j] (List.getElem?_eq_getElem hj),List.getElem?_eq_getElem hj];rfl⟩
theorem j1c {w:World} {B0 lo b:Nat} {p:Option Addr} {l:List Int} (h:SlI w B0 p l) (hb:B0<=lo):l ≠ []->∀ g off,p=some ⟨g,off,none⟩->g<lo\/b<=g:=fun h0 g off e=>by
 rcases h.2 with e2 | ⟨g',off',e2,hg,_⟩
 ·exact absurd e2 h0
 ·rw[e] at e2;cases e2;exact .inl (by omega)
section
variable {B B0:Nat} {w w':World} {q1 q2:Pr} {st1 st2:Sp} {col1 col2:Nat->Nat} {c:Nat}
def PL (B B0:Nat) (q1 q2:Pr) (w0 wr:World) (i:Nat):Prop:=∃ st1 st2 col1 col2,PP B B0 wr q1 q2 st1 st2 col1 col2 true true (3*i)/\Below B0 w0 wr
theorem j6h {w0 w1 w2:World} (hq1:q6x w0 w1 q1) (hq2:q6x w1 w2 q2) (o1:Out 0 0 w0 w1) (o2:Out 0 0 w1 w2):PL (q2.b+1) w0.heap.size q1 q2 w0 w2 0:=by
 obtain⟨a1,a2,a3,a4,a5,a6,a7⟩:=hq1;obtain⟨b1,b2,b3,b4,b5,b6,b7⟩:=hq2;have P1:=j1z (B:=q2.b+1) (a1.quiet o2) (a2.quiet o2) (o2.heap a3 z0) (by omega) a6 a7;have P2:=j1z (B:=q2.b+1) b1 b2 b3 (by omega) b6 b7;refine⟨newSp,newSp,_,_,⟨⟨P1,Int.le_refl _⟩,⟨P2,Int.le_refl _⟩,.inl (by omega),fun k hk=>?_,fun k k1 k2=>if_neg (by omega),fun k k1 k2=>if_neg (by omega),⟨by omega,by omega,by omega⟩,fun k hk=>if_neg (by omega),fun k hk=>if_neg (by omega)⟩,(o1.trans o2).all⟩;by_cases e:k=q1.b
 ·exact .inr (if_neg (by omega))
 ·exact .inl (if_neg e)
theorem j1g {w0 wr w':World} {i:Nat} {col1':Nat->Nat} {st':Sp} {c':Nat} (h:PP B B0 wr q1 q2 st1 st2 col1 col2 true true (3*i)) (hb:Below B0 w0 wr) (p:PQ B w' q1 st' col1' true c') (g:GX q1 col1 col1' wr w') (hc:3*i<=c'/\c'<=3*(i+1)):PL B B0 q1 q2 w0 w' (i+1):=by
 obtain⟨col2',h2⟩:=h.step (p.mono hc.2) g (by omega);exact⟨_,_,_,_,h2,hb.trans (h.below g)⟩
theorem PL.swap {w0 wr:World} {i:Nat} (h:PL B B0 q1 q2 w0 wr i):PL B B0 q2 q1 w0 wr i:=by
 obtain⟨a,b,c,d,h1,h2⟩:=h;exact⟨b,a,d,c,h1.swap,h2⟩
theorem PL.quiet {w0 wr w':World} {i:Nat} (h:PL B B0 q1 q2 w0 wr i) (o:Out 0 0 wr w'):PL B B0 q1 q2 w0 w' i:=by
 obtain⟨a,b,c,d,h1,h2⟩:=h;obtain⟨d',h3⟩:=h1.quiet o;exact⟨a,b,c,d',h3,h2.trans (h1.below (GX.of_fix ((Fix.refl _ _).out o)))⟩
theorem q2v {w0 wr:World} {i:Nat} (h:PL B B0 q1 q2 w0 wr i) (hi:i<120) {o0 k a b' d:Int} {lp:Option Addr} {lc:Nat} {l:List Int} (hk:1<=k/\k<=7) (ha:-9223372036854775808<=a/\a<=9223372036854775807) (hb:-9223372036854775808<=b'/\b'<=9223372036854775807) (hl:SlI wr B0 lp l) (hn:l.length<=400) :
  Calls Tryz.prog 9 #[.pointer (some ⟨q1.b,0,none⟩),.agg #[.int .i64 o0,.int .i64 k,.int .i64 a,.int .i64 b',.int .i64 d,.slice lp l.length lc]] wr fun e w'=>e=.returned (.bool true)/\PL B B0 q1 q2 w0 w' (i+1):=by
 obtain⟨st1,st2,col1,col2,h1,h2⟩:=h;refine(q9t h1.p1 (by omega) hk ha hb (x1a h1.bb.2.2 hl) (j1c hl h1.bb.1) (by omega) hl.1).mono ?_;rintro e w' ⟨rfl,st',p,g⟩;exact⟨rfl,j1g h1 h2 p g (by omega)⟩
theorem q2y {lo hi:Int} (hLk:z7g lo hi) {w0 wr:World} {i:Nat} (h:PL B B0 q1 q2 w0 wr i) (hi2:i<120) {o0 k a b' d:Int} {lp:Option Addr} {lc:Nat} {l:List Int} (hk:lo<=k/\k<=hi) (ha:-9223372036854775808<=a/\a<=9223372036854775807) (hb:-9223372036854775808<=b'/\b'<=9223372036854775807) (hl:SlI wr B0 lp l) (hn:l.length<=400) :
  Calls Tryz.prog 10 #[.pointer (some ⟨q1.b,0,none⟩),.agg #[.int .i64 o0,.int .i64 k,.int .i64 a,.int .i64 b',.int .i64 d,.slice lp l.length lc]] wr fun e w'=>e=.returned (.bool true)/\PL B B0 q1 q2 w0 w' (i+1):=by
 obtain⟨st1,st2,col1,col2,h1,h2⟩:=h;refine(hLk _ _ _ _ _ _ o0 k a b' d lp lc l h1.p1 (by omega) hk.1 hk.2 ha hb (x1a h1.bb.2.2 hl) (j1c hl h1.bb.1) hn hl.1).mono ?_;rintro e w' ⟨rfl,st',col',p,g⟩;exact⟨rfl,j1g h1 h2 p g (by omega)⟩
end
section
variable {B B0:Nat} {w w':World} {q1 q2:Pr}
theorem PL.next {w0 wr:World} {i:Nat} (h:PL B B0 q1 q2 w0 wr i):PL B B0 q1 q2 w0 wr (i+1):=by
 obtain⟨a,b,c,d,h1,h2⟩:=h;exact⟨a,b,c,d,⟨h1.p1.mono (by omega),h1.p2.mono (by omega),h1.ap,h1.sep,h1.c1,h1.c2,h1.bb,h1.b1,h1.b2⟩,h2⟩
theorem q7l {w0 wr:World} {i:Nat} (h:PL B B0 q1 q2 w0 wr i) (hi:i<120) {o0 k a b' d:Int} {lp:Option Addr} {lc:Nat} {l:List Int} (hk:1<=k/\k<=7) (ha:-9223372036854775808<=a/\a<=9223372036854775807) (hb:-9223372036854775808<=b'/\b'<=9223372036854775807) (hl:SlI wr B0 lp l) (hn:l.length<=400) :
  Calls Tryz.prog 9 #[.pointer (some ⟨q2.b,0,none⟩),.agg #[.int .i64 o0,.int .i64 k,.int .i64 a,.int .i64 b',.int .i64 d,.slice lp l.length lc]] wr fun e w'=>e=.returned (.bool true)/\PL B B0 q1 q2 w0 w' (i+1):=
 (q2v h.swap hi hk ha hb hl hn).mono fun e w' h=>⟨h.1,h.2.swap⟩
theorem q8a {lo hi:Int} (hLk:z7g lo hi) {w0 wr:World} {i:Nat} (h:PL B B0 q1 q2 w0 wr i) (hi2:i<120) {o0 k a b' d:Int} {lp:Option Addr} {lc:Nat} {l:List Int} (hk:lo<=k/\k<=hi) (ha:-9223372036854775808<=a/\a<=9223372036854775807) (hb:-9223372036854775808<=b'/\b'<=9223372036854775807) (hl:SlI wr B0 lp l) (hn:l.length<=400) :
  Calls Tryz.prog 10 #[.pointer (some ⟨q2.b,0,none⟩),.agg #[.int .i64 o0,.int .i64 k,.int .i64 a,.int .i64 b',.int .i64 d,.slice lp l.length lc]] wr fun e w'=>e=.returned (.bool true)/\PL B B0 q1 q2 w0 w' (i+1):=
 (q2y hLk h.swap hi2 hk ha hb hl hn).mono fun e w' h=>⟨h.1,h.2.swap⟩
theorem j5x {w0 wr:World} {i:Nat} (h:PL B B0 q1 q2 w0 wr i) (hi:i<=120):Calls Tryz.prog 11 #[.pointer (some ⟨q1.b,0,none⟩)] wr fun e w'=>e=.returned (.bool true)/\∃ st1 st2 col1 col2,PP B B0 w' q1 q2 st1 st2 col1 col2 false true 400/\Below B0 w0 w':=by
 obtain⟨st1,st2,col1,col2,h1,h2⟩:=h;refine(z8d h1.p1.1 (by omega)).mono ?_;rintro e w' ⟨rfl,col',P,f⟩;have p:PQ B w' q1 st1 col' false 400:=by
  have hl:=h1.p1.2;exact⟨⟨P.sp,P.rf,P.ks.mono (by omega),P.c7,P.le⟩,by omega⟩
 obtain⟨col2',h3⟩:=h1.step p (GX.of_fix f) (by omega);exact⟨rfl,_,_,_,_,h3,h2.trans (h1.below (GX.of_fix f))⟩
theorem plays_any {lo hi:Int} (hLk:z7g lo hi) (hlo:8<=lo) (n m:Int) {os:List OpQ} {p:Option Addr} {cp:Nat} (hT:Tab w) (hS:ScrAt w w.heap.size p os):Calls Tryz.prog 5 #[.int .i64 n,.int .i64 m,.slice p os.length cp,.int .i64 lo,.int .i64 hi] w fun e w'=>e=.returned (.bool true)/\Below w.heap.size w w':=by
 have HA:Hid (∀ W,Out 0 0 w W->Calls Tryz.prog 6 #[] W fun e w'=>e=.returned (.bool true)/\Out 0 0 W w'):=fun W o=>j1x (hT.quiet o)
 have HSm:Hid (∀ W,Out 0 0 w W->Calls Tryz.prog 7 #[.slice p os.length cp] W fun e w'=>w'=W/\e=.returned (.bool (smB os))):=fun W o=>j3x (hS.kept o (.inr rfl))
 have HM:Hid (∀ W,Out 0 0 w W->∀ n,Calls Tryz.prog 8 #[.int .i64 n] W fun e w'=>Out 0 0 W w'/\(e=.returned (.tuple #[.pointer none,.bool true])\/∃ q:Pr,e=.returned (.tuple #[.pointer (some ⟨q.b,0,none⟩),.bool true])/\q6x W w' q)):=fun W o n=>j4v (hT.quiet o) n
 have HLk:=Z0 hLk;have HSc:=Z0 hS;have HLo:=Z0 hlo;obtain⟨N,hN⟩:∃ N,os.length=N:=⟨_,rfl⟩
 have HN:=Z0 hN;rw[hN] at HSm ⊢;have l8:(8:Int)<=lo:=hlo;cases hsm:smB os with
 | false=>
  rw[hsm] at HSm;clear hLk hS hlo hT hN;go_enter Tryz.func5,Tryz.ntmps5
  go_wp2_with fail;refine(HA.out _ (Out.refl 0 0 w)).mono ?_;rintro e w1 ⟨rfl,o1⟩;go_wp2_with fail;refine(HSm.out _ o1).mono ?_;rintro e w2 ⟨rfl,rfl⟩;go_wp2_with fail;refine(HA.out _ o1).mono ?_;rintro e w3 ⟨rfl,o3⟩;go_wp2;go_ret;exact⟨rfl,(o1.trans o3).all⟩
 | true=>
  rw[hsm] at HSm;have HLl:=Z0 (j9w hsm);clear hLk hS hlo hT hN hsm;go_enter Tryz.func5,Tryz.ntmps5
  go_wp2_with fail;refine(HA.out _ (Out.refl 0 0 w)).mono ?_;rintro e w1 ⟨rfl,o1⟩;go_wp2_with fail;refine(HSm.out _ o1).mono ?_;rintro e w2 ⟨rfl,rfl⟩;go_wp2_with fail;refine(HM.out _ o1 n).mono ?_;rintro e w3 ⟨o3,rfl | ⟨q1,rfl,f1⟩⟩
  ·have HO3:=Z0 (o1.trans o3);clear o3;go_wp2_with fail;refine(HM.out _ HO3.out m).mono ?_;rintro e w4 ⟨o4,rfl | ⟨q2,rfl,f2⟩⟩
   ·have HO4:=Z0 (HO3.out.trans o4);clear o4;go_wp2;go_ret;exact⟨rfl,HO4.out.all⟩
   ·have HO4:=Z0 (HO3.out.trans o4);clear o4 f2;go_wp2;go_ret;exact⟨rfl,HO4.out.all⟩
  ·have HO3:=Z0 (o1.trans o3);have HF1:=Z0 (And.intro f1 o3);clear o3 f1;go_wp2_with fail;refine(HM.out _ HO3.out m).mono ?_;rintro e w4 ⟨o4,rfl | ⟨q2,rfl,f2⟩⟩
   ·have HO4:=Z0 (HO3.out.trans o4);clear o4;go_wp2;go_ret;exact⟨rfl,HO4.out.all⟩
   ·have hPL:=j6h HF1.out.1 f2 HF1.out.2 o4;have hP0:PL (q2.b+1) w2.heap.size q1 q2 w2 w4 0:=hPL;have HPL:=Z0 hP0;have H12:=Z0 o1;clear o4 f2 hPL hP0 HA HSm HM HF1 o1;go_wp2_with fail;go_loopw [15] (fun y wr=>∃ i:Nat,i<=N/\i<=120/\y=.int .i64 (i:Int)/\PL (q2.b+1) w2.heap.size q1 q2 w2 wr i) (fun y _=>N-(intOf y).toNat)
    case atStart=>exact⟨0,Nat.zero_le _,by omega,rfl,HPL.out⟩
    case round=>
     clear HPL;obtain⟨i,i1,i2,rfl,hP⟩:=hrel;have b0:(0:Int)<=(i:Int):=by omega
     have HP:=Z0 hP;clear hP;by_cases hi':i<N/\i<120
     ·have j1:(i:Int)<(N:Int):=by omega
      have j2:(i:Int)<120:=by omega
      obtain⟨o,ho⟩:∃ o,os[i]? = some o:=⟨_,List.getElem?_eq_getElem (by have:=HN.out;omega)⟩
      have hsc:=HSc.out.kept H12.out (.inr rfl);rcases hsc.2 with e | ⟨g,off,hp,hgb,hcell⟩
      ·have:=HN.out;rw[e] at this;simp at this;omega
      subst hp;obtain⟨x,lp,lc,c0,c1,c2,c3,c4,c5,c6⟩:=hcell i o ho;have hbd:=hsc.1 o (List.mem_of_getElem? ho);have HLn:=Z0 (HLl.out i o ho hi'.2);obtain⟨k,a,bb,c,L⟩:=o;dsimp only at c1 c2 c3 c4 c5 c6 hbd HLn;have hbl:Below w2.heap.size w2 wr:=by obtain⟨_,_,_,_,_,h⟩:=HP.out;exact h
      have hgw:g<w2.heap.size:=by have:=H12.out.size;omega
      replace c0:=(World.cell?_of_block (a:=⟨g,off+i*6,none⟩) (hbl.block g hgw)).trans c0;replace c1:=(World.cell?_of_block (a:=⟨g,off+i*6+1,none⟩) (hbl.block g hgw)).trans c1;replace c2:=(World.cell?_of_block (a:=⟨g,off+i*6+2,none⟩) (hbl.block g hgw)).trans c2;replace c3:=(World.cell?_of_block (a:=⟨g,off+i*6+3,none⟩) (hbl.block g hgw)).trans c3;replace c4:=(World.cell?_of_block (a:=⟨g,off+i*6+4,none⟩) (hbl.block g hgw)).trans c4;replace c5:=(World.cell?_of_block (a:=⟨g,off+i*6+5,none⟩) (hbl.block g hgw)).trans c5;have HC6:=Z0 c6;have HBd:=Z0 hbd;have HBl:=Z0 hbl;clear hsc hcell ho c6 hbd hbl;obtain⟨WB,hWB⟩:∃ W,wr.alloc (.cells #[.int .i64 x,.int .i64 k,.int .i64 a,.int .i64 bb,.int .i64 c,.slice lp L.length lc] 32)=W:=⟨_,rfl⟩
      have oA:Out 0 0 wr WB:=by rw[<-hWB];exact(Out.refl 0 0 wr).alloc _
      have hPA:=HP.out.quiet oA;have hSl:SlI WB w2.heap.size lp L:=by
       refine⟨HC6.out.1,?_⟩;rcases HC6.out.2 with e | ⟨g',off',e,hg',hc'⟩
       ·exact .inl e
       ·have hs:=H12.out.size;exact .inr ⟨g',off',e,by omega,fun j y hj=>oA.cell ((World.cell?_of_block (a:=⟨g',off'+j,none⟩) (HBl.out.block g' (by omega))).trans (hc' j y hj)) z0⟩
      have hia:i<120:=hi'.2;have hab:-9223372036854775808<=a/\a<=9223372036854775807:=⟨HBd.out.1,HBd.out.2.1⟩
      have hbb:-9223372036854775808<=bb/\bb<=9223372036854775807:=HBd.out.2.2;have HT1:=Z0 (fun hk:1<=k/\k<=7=>q2v (o0:=x) (d:=c) (lc:=lc) hPA hia hk hab hbb hSl HLn.out);have HT2:=Z0 (fun hk:1<=k/\k<=7=>q7l (o0:=x) (d:=c) (lc:=lc) hPA hia hk hab hbb hSl HLn.out);have HL1:=Z0 (fun hk:lo<=k/\k<=hi=>q2y HLk.out (o0:=x) (d:=c) (lc:=lc) hPA hia hk hab hbb hSl HLn.out);have HL2:=Z0 (fun hk:lo<=k/\k<=hi=>q8a HLk.out (o0:=x) (d:=c) (lc:=lc) hPA hia hk hab hbb hSl HLn.out);have HEn:=Z0 hPA.next;rw[<-hWB] at HT1 HT2 HL1 HL2 HEn;clear hPA hSl oA hWB hab hbb HP HC6 HBd HBl HLn;obtain⟨t,ht⟩:∃ t,bits .and .i64 x 1=t:=⟨_,rfl⟩
      by_cases ht1:t=1
      ·subst ht1;by_cases k1:1<=k
       ·by_cases k7:k<=7
        ·clear HL1 HL2 HT1;go_wp2_with fail;refine(HT2.out ⟨k1,k7⟩).mono ?_;rintro e V1 ⟨rfl,h1⟩;have H1:=Z0 h1;clear h1;go_wp2;exact⟨⟨i+1,by omega,by omega,by first | rfl | simp,H1.out⟩,by simp[intOf] <;> omega⟩
        ·by_cases kl:lo<=k
         ·by_cases kh:k<=hi
          ·clear HT1 HT2 HL1;go_wp2_with fail;refine(HL2.out ⟨kl,kh⟩).mono ?_;rintro e V1 ⟨rfl,h1⟩;have H1:=Z0 h1;clear h1;go_wp2;exact⟨⟨i+1,by omega,by omega,by first | rfl | simp,H1.out⟩,by simp[intOf] <;> omega⟩
          ·clear HT1 HT2 HL1 HL2;go_wp2;exact⟨⟨i+1,by omega,by omega,by first | rfl | simp,HEn.out⟩,by simp[intOf] <;> omega⟩
         ·clear HT1 HT2 HL1 HL2;go_wp2;exact⟨⟨i+1,by omega,by omega,by first | rfl | simp,HEn.out⟩,by simp[intOf] <;> omega⟩
       ·have kl:¬ lo<=k:=by omega
        clear HT1 HT2 HL1 HL2;go_wp2;exact⟨⟨i+1,by omega,by omega,by first | rfl | simp,HEn.out⟩,by simp[intOf] <;> omega⟩
      ·have ht2:(t == 1)=false:=by simp[ht1]
       by_cases k1:1<=k
       ·by_cases k7:k<=7
        ·clear HL1 HL2 HT2;go_wp2_with fail;refine(HT1.out ⟨k1,k7⟩).mono ?_;rintro e V1 ⟨rfl,h1⟩;have H1:=Z0 h1;clear h1;go_wp2;exact⟨⟨i+1,by omega,by omega,by first | rfl | simp,H1.out⟩,by simp[intOf] <;> omega⟩
        ·by_cases kl:lo<=k
         ·by_cases kh:k<=hi
          ·clear HT1 HT2 HL2;go_wp2_with fail;refine(HL1.out ⟨kl,kh⟩).mono ?_;rintro e V1 ⟨rfl,h1⟩;have H1:=Z0 h1;clear h1;go_wp2;exact⟨⟨i+1,by omega,by omega,by first | rfl | simp,H1.out⟩,by simp[intOf] <;> omega⟩
          ·clear HT1 HT2 HL1 HL2;go_wp2;exact⟨⟨i+1,by omega,by omega,by first | rfl | simp,HEn.out⟩,by simp[intOf] <;> omega⟩
         ·clear HT1 HT2 HL1 HL2;go_wp2;exact⟨⟨i+1,by omega,by omega,by first | rfl | simp,HEn.out⟩,by simp[intOf] <;> omega⟩
       ·have kl:¬ lo<=k:=by omega
        clear HT1 HT2 HL1 HL2;go_wp2;exact⟨⟨i+1,by omega,by omega,by first | rfl | simp,HEn.out⟩,by simp[intOf] <;> omega⟩
     ·have HW1:=Z0 (j5x HP.out i2);have hcond:¬ ((i:Int)<(N:Int)/\(i:Int)<120):=by omega
      by_cases h1:i<N
      ·have j1:(i:Int)<(N:Int):=by omega
       have j2:¬ (i:Int)<120:=by omega
       clear hcond hi' h1;go_wp2_with fail;refine HW1.out.mono ?_;rintro e V1 ⟨rfl,st1,st2,col1,col2,h1,h2⟩;have HW2:=Z0 (z8d h1.p2.1 (by omega));have HB:=Z0 (And.intro h1 h2);clear h1 h2;go_wp2_with fail;refine HW2.out.mono ?_;rintro e V2 ⟨rfl,col',P,f⟩;have FIN:Hid (Below w.heap.size w V2):=(H12.out.all).trans ((HB.out.2.trans (HB.out.1.swap.below (GX.of_fix f))).mono H12.out.size);clear P f;go_wp2;go_ret;exact⟨rfl,FIN.out⟩
      ·have j1:¬ (i:Int)<(N:Int):=by omega
       clear hcond hi' h1;go_wp2_with fail;refine HW1.out.mono ?_;rintro e V1 ⟨rfl,st1,st2,col1,col2,h1,h2⟩;have HW2:=Z0 (z8d h1.p2.1 (by omega));have HB:=Z0 (And.intro h1 h2);clear h1 h2;go_wp2_with fail;refine HW2.out.mono ?_;rintro e V2 ⟨rfl,col',P,f⟩;have FIN:Hid (Below w.heap.size w V2):=(H12.out.all).trans ((HB.out.2.trans (HB.out.1.swap.below (GX.of_fix f))).mono H12.out.size);clear P f;go_wp2;go_ret;exact⟨rfl,FIN.out⟩
end
end Go.Proofs.YtjbbkeoolodeaabGreatDoor
