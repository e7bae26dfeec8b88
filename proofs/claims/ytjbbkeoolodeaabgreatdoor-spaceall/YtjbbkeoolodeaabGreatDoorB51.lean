import Derived.Test.YtjbbkeoolodeaabGreatDoorB50
import Derived.Test.YtjbbkeoolodeaabGreatDoorB49
import Derived.Test.YtjbbkeoolodeaabGreatDoorB48
import Derived.Test.YtjbbkeoolodeaabGreatDoorB43
import Derived.Test.YtjbbkeoolodeaabGreatDoorB19
import Derived.Laws.FloatArith
namespace Go.Proofs.YtjbbkeoolodeaabGreatDoor
open Go.RowKit
set_option linter.unusedVariables false
set_option maxRecDepth 100000
set_option maxHeartbeats 16000000
set_option linter.unusedSimpArgs false
section
variable {B:Nat} {w W W':World} {b lo m n cap cw co c:Nat} {s sr:Nat->Nat} {st:Sp} {col:Nat->Nat} {z:Bool} {o0 A Bv Cv:Int} {lp:Option Addr} {ll lc:Nat}
theorem PS.recol {col':Nat->Nat} (h:PS B w b lo m m b s sr n cap cw co st col z c) (e:∀ k,k<w.heap.size->col' k=col k):PS B w b lo m m b s sr n cap cw co st col' z c:=
 ⟨h.sp,h.rf,h.ks.recol e,fun k hk=>by
  have h1:=h.sp.1.top;have h2:=h.rf.top;have h3:=h.sp.1.glob;have h4:=h.le;have h5:=h.rf.glob;rw[e k (by omega)];exact h.c7 k hk,h.le⟩
theorem x3l (h:PS B w b lo m m b s sr n cap cw co st col z c) (hlast:st.last<4611686018427387900):Calls Tryz.prog 37 #[.pointer (some ⟨b,0,none⟩),.agg #[.int .i64 o0,.int .i64 17,.int .i64 A,.int .i64 Bv,.int .i64 Cv,.slice lp ll lc]] w fun e w'=>e=.returned (.bool true)/\∃ st' col',PS B w' b lo m m b s sr n cap cw co st' col' z c/\Out lo b w w'/\st'.last<=st.last+1/\∀ k,k<w.heap.size->col' k=col k:=by
 obtain⟨cG,hcG⟩:∃ cG:Nat->Nat,cG=fun k=>if k<w.heap.size then col k else 9:=⟨_,rfl⟩
 have hag:∀ k,k<w.heap.size->cG k=col k:=fun k hk=>by rw[hcG];exact if_pos hk
 have h9:∀ k,w.heap.size<=k->cG k=9:=fun k hk=>by rw[hcG];exact if_neg (by omega)
 have hP:=h.recol hag;obtain⟨gp,hgp⟩:∃ g,w.heap.size=g:=⟨_,rfl⟩
 have hbp:b<gp:=by have:=h.b_lt;omega
 have HP:=Z0 hP;have HAg:=Z0 (And.intro hag h9);have HL:=Z0 hlast;obtain⟨W1,hW1⟩:∃ V,(w.alloc (.cells #[.pointer (some ⟨b,0,none⟩)] 27)).alloc (.cells #[.int .i64 o0,.int .i64 17,.int .i64 A,.int .i64 Bv,.int .i64 Cv,.slice lp ll lc] 32)=V:=⟨_,rfl⟩
 have q1:Out 0 0 w W1:=by rw[<-hW1];exact((Out.refl 0 0 _).alloc _).alloc _
 have f1:Box W1 gp 27 (.pointer (some ⟨b,0,none⟩)):=by rw[<-hW1,<-hgp];exact K4
 have f2:W1.heap[gp+1]? = some (.cells #[.int .i64 o0,.int .i64 17,.int .i64 A,.int .i64 Bv,.int .i64 Cv,.slice lp ll lc] 32 (0,0)):=by rw[<-hW1,<-hgp];exact heap_alloc2_new _ _ _
 have s1:W1.heap.size=gp+2:=by rw[<-hW1,<-hgp];simp
 have c1:=f1.cell;have HAf:=x2h ((hP.quiet q1).two) (a:=0) (Nat.zero_le _) (x:=-1) (by omega);unfold q6a at HAf;obtain⟨v0,hv0⟩:∃ v,afA n st 0=v:=⟨_,rfl⟩
 obtain⟨v1,hv1⟩:∃ v,afO n st 0=v:=⟨_,rfl⟩
 obtain⟨v2,hv2⟩:∃ v,afM n st 0=v:=⟨_,rfl⟩
 obtain⟨u1,u2,u3,u4⟩:=v1;rw[hv0,hv1,hv2] at HAf;have HAf:=Z0 HAf;have HV:=Z0 (And.intro hv0 (And.intro hv1 hv2));have H1:=Z0 (And.intro q1 (And.intro f1 (And.intro f2 s1)));clear h hlast hag h9 hP hcG q1 f2 s1 hv0 hv1 hv2;go_enter Tryz.func37,Tryz.ntmps37
 go_wp2_with fail;refine HAf.out.mono ?_;rintro e W2 ⟨rfl,q2⟩;have f3:=(f1.kept q2 z0)
 obtain⟨gw,hgw⟩:∃ g,W2.heap.size=g:=⟨_,rfl⟩
 obtain⟨gm,hgm⟩:∃ g,gw+1=g:=⟨_,rfl⟩
 obtain⟨gt,hgt⟩:∃ g,gm+1=g:=⟨_,rfl⟩
 obtain⟨gd,hgd⟩:∃ g,gt+1=g:=⟨_,rfl⟩
 obtain⟨go,hgo⟩:∃ g,gp+1=g:=⟨_,rfl⟩
 obtain⟨Wa,hWa⟩:∃ V,W2.alloc (.cells #[.int .i64 v0,.int .i64 u1,.int .i64 u2,.int .i64 u3,.int .i64 u4] 97)=V:=⟨_,rfl⟩
 obtain⟨Wb,hWb⟩:∃ V,Wa.alloc (.cells #[.bool v2] 4)=V:=⟨_,rfl⟩
 obtain⟨Wc,hWc⟩:∃ V,Wb.alloc (.cells #[.int .i64 0] 3)=V:=⟨_,rfl⟩
 obtain⟨W3,hW3⟩:∃ V,Wc.alloc (.cells #[.bool true] 4)=V:=⟨_,rfl⟩
 have qa:Out 0 0 W2 Wa:=by rw[<-hWa];exact(Out.refl 0 0 _).alloc _
 have qb:Out 0 0 Wa Wb:=by rw[<-hWb];exact(Out.refl 0 0 _).alloc _
 have qc:Out 0 0 Wb Wc:=by rw[<-hWc];exact(Out.refl 0 0 _).alloc _
 have qd:Out 0 0 Wc W3:=by rw[<-hW3];exact(Out.refl 0 0 _).alloc _
 have sa:Wa.heap.size=gm:=by rw[<-hWa,World.size_alloc,hgw,hgm]
 have sb:Wb.heap.size=gt:=by rw[<-hWb,World.size_alloc,sa,hgt]
 have sc:Wc.heap.size=gd:=by rw[<-hWc,World.size_alloc,sb,hgd]
 have s3:W3.heap.size=gd+1:=by rw[<-hW3,World.size_alloc,sc]
 have ka:Wa.heap[gw]? = some (.cells #[.int .i64 v0,.int .i64 u1,.int .i64 u2,.int .i64 u3,.int .i64 u4] 97 (0,0)):=by rw[<-hWa,<-hgw];exact heap_alloc_new _ _
 have kb:Box Wb gm 4 (.bool v2):=by rw[<-hWb,<-sa];exact heap_alloc_new _ _
 have kc:Box Wc gt 3 (.int .i64 0):=by rw[<-hWc,<-sb];exact heap_alloc_new _ _
 have kd:Box W3 gd 4 (.bool true):=by rw[<-hW3,<-sc];exact heap_alloc_new _ _
 have q23:Out 0 0 W2 W3:=((qa.trans qb).trans qc).trans qd;have f3':=f3.kept q23 z0;have HGF:Hid (GF w b lo gp go gw gm gt gd cG):=⟨⟨by have:=HP.out.le;omega,hbp,by omega,by have:=q2.size;have:=H1.out.2.2.2;omega,by omega,by omega,by omega,by omega⟩,fun k hk=>HAg.out.2 k (by omega)⟩
 have hgb:GB b gp go gw gm gt gd o0 A Bv Cv lp ll lc v0 (u1,u2,u3,u4) v2 0 W3:=⟨f3',q23.heap (q2.heap (by rw[<-hgo];exact H1.out.2.2.1) z0) z0,((qb.trans qc).trans qd).heap ka z0,(qc.trans qd).heap kb z0,qd.heap kc z0,kd⟩
 have q03:Out 0 0 w W3:=(H1.out.1.trans q2).trans q23;have hgs:GS B w b lo m n cap cw co c s sr st cG z gp go gw gm gt gd o0 A Bv Cv lp ll lc st 0 0 W3:=⟨HP.out.quiet q03,q03.any _ _,by rw[HV.out.1,HV.out.2.1,HV.out.2.2];exact hgb,⟨fun _=>rfl,by omega⟩,⟨Nat.le_refl _,Nat.zero_le _⟩⟩
 have c4:=f3'.cell;have c5:=hgs.ps.ks.cells.1;have HGs:=Z0 hgs;have hSA:=z4i (s 14) W3;obtain⟨gA,hgA⟩:∃ g,W3.heap.size=g:=⟨_,rfl⟩
 obtain⟨W4,hW4⟩:∃ V,W3.alloc (.cells #[.pointer (some ⟨s 14,0,none⟩)] 34)=V:=⟨_,rfl⟩
 have q34:Out 0 0 W3 W4:=by rw[<-hW4];exact(Out.refl 0 0 _).alloc _
 have kA:Box W4 gA 34 (.pointer (some ⟨s 14,0,none⟩)):=by rw[<-hW4,<-hgA];exact heap_alloc_new _ _
 have s4:W4.heap.size=gA+1:=by rw[<-hW4,World.size_alloc,hgA]
 have hgA2:gA=gd+1:=by omega
 rw[hgA,hW4] at hSA;have HSA:=Z0 hSA;have HW4:=Z0 (And.intro q34 (And.intro kA (And.intro s4 hgA2)));have hAll:Calls Tryz.prog 126 #[.func (.func 79) #[] #[.pointer (some ⟨gd,0,none⟩),.pointer (some ⟨gm,0,none⟩),.pointer (some ⟨gw,0,none⟩),.pointer (some ⟨go,0,none⟩),.pointer (some ⟨gt,0,none⟩),.pointer (some ⟨gp,0,none⟩)],.pointer (some ⟨gA,0,none⟩)] W4 fun e w'=>(∃ v,e=.returned v)/\((∃ st' t i,GS B w b lo m n cap cw co c s sr st cG z gp go gw gm gt gd o0 A Bv Cv lp ll lc st' t i w'/\afM n st' i=false)\/(∃ st' t i,GS B w b lo m n cap cw co c s sr st cG z gp go gw gm gt gd o0 A Bv Cv lp ll lc st' t i w'/\(1<=A/\(t:Int)=A)/\Box w' gA 34 (.pointer (some ⟨s 14,0,none⟩)))):=by
  have hG:=HGF.out;have hgd2:=hgA2;refine x3i (lo:=lo) (hi:=m) (n:=n) (cap:=cap) (g:=gA) (s:=s) (I:=fun p W=>∃ st' t,GS B w b lo m n cap cw co c s sr st cG z gp go gw gm gt gd o0 A Bv Cv lp ll lc st' t p W/\(A<1\/(t:Int)<A)/\Box W gA 34 (.pointer (some ⟨s 14,0,none⟩)))
   (J:=fun W=>∃ st' t i,GS B w b lo m n cap cw co c s sr st cG z gp go gw gm gt gd o0 A Bv Cv lp ll lc st' t i W/\afM n st' i=false) (Jx:=fun W=>∃ st' t i,GS B w b lo m n cap cw co c s sr st cG z gp go gw gm gt gd o0 A Bv Cv lp ll lc st' t i W/\(1<=A/\(t:Int)=A)/\Box W gA 34 (.pointer (some ⟨s 14,0,none⟩))) ?_ ?_ ?_ ?_ ?_ ?_ ?_ ?_
  ·rintro p W ⟨st',t,g1,g2,g3⟩;exact⟨g1.tl.2,_,g1.ps.sp.1,B7 st',g3⟩
  ·rintro p V V' x y ⟨st',t,g1,g2,g3⟩ o hx;exact⟨st',t,g1.kept hG o (by omega),g2,g3.kept o (by omega)⟩
  ·rintro V V' x y ⟨st',t,i,g1,g2⟩ o hx;exact⟨st',t,i,g1.kept hG o (by omega),g2⟩
  ·rintro V V' x y ⟨st',t,i,g1,g2,g3⟩ o hx;exact⟨st',t,i,g1.kept hG o (by omega),g2,g3.kept o (by omega)⟩
  ·rintro p V r k bk ⟨st',t,g1,g2,g3⟩ hr hn hb;obtain⟨r1,r2⟩:=z2j hr g1.ps.sp.1;rw[r1] at hn;rw[r2] at hb;have hn':nxr (ob n st') (64*n) p=(k:Int):=hn;have hob:st'.O k=bk:=by
    have hb':obM st' (k:Int)=some bk:=hb;unfold obM at hb';split at hb'
    ·rw[show ((k:Nat):Int).toNat=k from by omega] at hb';exact Option.some.inj hb'
    ·cases hb'
   obtain⟨y1,y2,y3,y4⟩:=bk;refine(x3g hG g1 HL.out g2 hn' hob).mono ?_;rintro e V' ⟨⟨st2,g4⟩,q,rfl⟩;refine⟨(q.wide (Nat.le_refl _) (by omega)).sv,?_⟩;have g5:=g3.kept q (.inr (by omega));by_cases a1:A<1
   ·exact .inl ⟨by simp[a1],st2,t+1,g4,.inl a1,g5⟩
   ·by_cases a2:(t:Int)+1<A
    ·exact .inl ⟨by simp[a2],st2,t+1,g4,.inr (by omega),g5⟩
    ·exact .inr ⟨by simp[a1,a2],st2,t+1,_,g4,⟨by omega,by omega⟩,g5⟩
  ·rintro V ⟨st',t,i,g1,g2,g3⟩;exact⟨_,g1.ps.sp.1,g3⟩
  ·rintro p V r ⟨st',t,g1,g2,g3⟩ hr hn;obtain⟨r1,r2⟩:=z2j hr g1.ps.sp.1;rw[r1] at hn;exact⟨st',t,p,g1,(x3d hn).1⟩
  ·exact⟨st,0,HGs.out.kept hG q34 (.inr rfl),by omega,kA⟩
 have HAll:=Z0 hAll;clear hAll hSA q34 kA s4 hgA2 hgs hgb q03 q23 f3 f3' ka kb kc kd qa qb qc qd sa sb sc s3 q2;have HEq:=Z0 (And.intro hWa (And.intro hWb (And.intro hWc (And.intro hW3 (And.intro hgm (And.intro hgt (And.intro hgd hgo)))))));rw[<-hW3,<-hWc,<-hWb,<-hWa] at c4 c5;clear hWa hWb hWc hW3 hgm hgt hgd hgA hW4;go_wp2_with fail;obtain⟨hWa,hWb,hWc,hW3,hgm,hgt,hgd,hgo⟩:=HEq.out;rw[hWa,hWb,hWc,hW3];(try rw[hgm]);(try rw[hgt]);(try rw[hgd]);clear hWa hWb hWc hW3 hgm hgt hgd;refine HSA.out.mono ?_;rintro e V ⟨rfl,rfl⟩;clear c4 c5 HEq;go_wp2_with fail;refine HAll.out.mono ?_;rintro e W5 ⟨⟨vv,rfl⟩,hJ⟩;clear HAll HSA;rcases hJ with ⟨st',t,i,g1,g2⟩ | ⟨st',t,i,g1,⟨g2,g3⟩,-⟩
 ·have r1:=g1.gb.hd.cell;have r2:=g1.gb.hm.cell;rw[g2] at r2;have FIN:Hid (∃ st' col',PS B W5 b lo m m b s sr n cap cw co st' col' z c/\Out lo b w W5/\st'.last<=st.last+1/\∀ k,k<w.heap.size->col' k=col k):=⟨st',cG,g1.ps,g1.o,g1.ch.2,HAg.out.1⟩
  clear g1 g2;go_wp2;go_ret;exact⟨rfl,FIN.out⟩
 ·have r1:=g1.gb.hd.cell;have r2:=g1.gb.hm.cell;obtain⟨_,_,r3,_⟩:=Y8 g1.gb.ho;have r4:=g1.gb.ht.cell;rw[g3] at r4;have r5:(A == A)=true:=by simp
  have FIN:Hid (∃ st' col',PS B W5 b lo m m b s sr n cap cw co st' col' z c/\Out lo b w W5/\st'.last<=st.last+1/\∀ k,k<w.heap.size->col' k=col k):=⟨st',cG,g1.ps,g1.o,g1.ch.2,HAg.out.1⟩
  generalize afM n st' i=mv at r2
  clear g1 g3;cases mv with
  | false=>
   go_wp2;go_ret;exact⟨rfl,FIN.out⟩
  | true=>
   go_wp2;go_ret;exact⟨rfl,FIN.out⟩
end
section
variable {B:Nat} {w w':World} {b lo hi m n cap cw co c:Nat} {s sr:Nat->Nat} {st st':Sp} {col col':Nat->Nat} {z:Bool}
theorem x2t (h:PS B w b lo m m b s sr n cap cw co st col z c) (o0 o2 o3 o4:Int) (hlast:st.last<4611686018427387900) (lp:Option Addr) (ll lc:Nat):Calls Tryz.prog 10 #[.pointer (some ⟨b,0,none⟩),.agg #[.int .i64 o0,.int .i64 17,.int .i64 o2,.int .i64 o3,.int .i64 o4,.slice lp ll lc]] w fun e w'=>e=.returned (.bool true)/\∃ st' col',PS B w' b lo m m b s sr n cap cw co st' col' z c/\Out lo b w w'/\st'.last<=st.last+1/\∀ k,k<w.heap.size->col' k=col k:=by
 have HP:=Z0 h;obtain⟨bo,hbo⟩:∃ bo,w.heap.size=bo:=⟨_,rfl⟩
 have HBo:Hid (b<bo):=by rw[<-hbo];exact h.b_lt
 clear h;go_enter Tryz.func10,Tryz.ntmps10
 go_wp2_with fail;obtain⟨W,hW⟩:∃ W,w.alloc (.cells #[.int .i64 o0,.int .i64 17,.int .i64 o2,.int .i64 o3,.int .i64 o4,.slice lp ll lc] 32)=W:=⟨_,rfl⟩
 have oW:Out 0 0 w W:=by rw[<-hW];exact(Out.refl 0 0 _).alloc _
 have fO:W.heap[bo]? = some (.cells #[.int .i64 o0,.int .i64 17,.int .i64 o2,.int .i64 o3,.int .i64 o4,.slice lp ll lc] 32 (0,0)):=by rw[<-hW,<-hbo];exact heap_alloc_new _ _
 (try rw[hW]);clear hW hbo;obtain⟨x0,x1,x2,x3,x4,x5⟩:=Y8 fO;have HGo:=Z0 (x3l (HP.out.quiet oW) (o0:=o0) (A:=o2) (Bv:=o3) (Cv:=o4) (lp:=lp) (ll:=ll) (lc:=lc) hlast);have HO:=Z0 oW;clear oW fO hlast;go_wp2_with fail;refine HGo.out.mono ?_;rintro e V ⟨rfl,st',col',P,q,l,ag⟩;have hE:Hid (∃ st' col',PS B V b lo m m b s sr n cap cw co st' col' z c/\Out lo b w V/\st'.last<=st.last+1/\∀ k,k<w.heap.size->col' k=col k):=⟨st',col',P,(HO.out.any lo b).trans q,l,fun k hk=>ag k (Nat.lt_of_lt_of_le hk HO.out.size)⟩
 clear P q l ag;go_wp2;go_ret;exact⟨rfl,hE.out⟩
end
section
variable {B:Nat} {w w':World} {q:Pr} {st st':Sp} {col col':Nat->Nat} {c:Nat}
theorem x3a (h:PQ B w q st col true c) {e:Ending} (g:e=.returned (.bool true)/\∃ col',PS B w' q.b q.lo q.m q.m q.b q.s q.sr q.n q.cap q.cw q.co st col' true (c+2)/\Fix col col' w w'):e=.returned (.bool true)/\∃ st' col',PQ B w' q st' col' true (c+3)/\GX q col col' w w':=by
 obtain⟨e1,col',P,f⟩:=g;exact⟨e1,st,col',PQ.mono (c:=c+2) ⟨P,by have:=h.2;omega⟩ (by omega),GX.of_fix f⟩
theorem x3h (h:PQ B w q st col true c) {e:Ending} (g:e=.returned (.bool true)/\∃ st' col',PS B w' q.b q.lo q.m q.m q.b q.s q.sr q.n q.cap q.cw q.co st' col' true c/\Out q.lo q.b w w'/\st'.last<=st.last+1/\∀ k,k<w.heap.size->col' k=col k):e=.returned (.bool true)/\∃ st' col',PQ B w' q st' col' true (c+3)/\GX q col col' w w':=by
 obtain⟨e1,st',col',P,o,l,ag⟩:=g;have x:GX q col col w w':=GX.of_out o;exact⟨e1,st',col',⟨⟨P.sp,P.rf,P.ks.mono (by omega),P.c7,P.le⟩,by have:=h.2;omega⟩,⟨x.1.1,fun k hk h7=>by rw[ag k hk];exact x.1.2 k hk h7⟩,fun k hk h7=>by rw[ag k hk];exact h7⟩
end
theorem look_finds:z7g 15 17:=fun B w q st col c o0 k a b' d lp lc l h hc k1 k2 ha hb hl hg hn hx=>by
 have hk:k=15\/k=16\/k=17:=by omega
 rcases hk with rfl | rfl | rfl
 ·exact(x2r h.1 o0 a b' d lp l.length lc).mono fun e w' g=>z2e h g
 ·exact(x2s h.1 (by omega) o0 a b' d lp l.length lc).mono fun e w' g=>x3a h g
 ·exact(x2t h.1 o0 a b' d (by have:=h.2;omega) lp l.length lc).mono fun e w' g=>x3h h g
section
variable {B:Nat} {w w':World} {b lo hi lo' hi' n cap cw co c c':Nat} {s sr:Nat->Nat} {st:Sp} {col col':Nat->Nat} {z z':Bool}
theorem x2u (h:PS B w b lo hi lo' hi' s sr n cap cw co st col z c) {v:Nat} (hv:x3q n (x2g (Z6 n st) (64*n))=some v) (hvv:FloatKind.f64.format.order v v=some .eq) (o0 o2 o3 o4:Int) (lp:Option Addr) (ll lc:Nat):Calls Tryz.prog 10 #[.pointer (some ⟨b,0,none⟩),.agg #[.int .i64 o0,.int .i64 19,.int .i64 o2,.int .i64 o3,.int .i64 o4,.slice lp ll lc]] w fun e w'=>e=.returned (.bool true)/\Out 0 0 w w':=by
 obtain⟨X,hX⟩:∃ X,s 14=X:=⟨_,rfl⟩
 obtain⟨Y,hY⟩:∃ Y,sr 0=Y:=⟨_,rfl⟩
 obtain⟨u,hu⟩:∃ u,x2g (Z6 n st) (64*n)=u:=⟨_,rfl⟩
 obtain⟨M,hM⟩:∃ M,64*n=M:=⟨_,rfl⟩
 have HW:Hid (∀ W,Out 0 0 w W->Calls Tryz.prog 15 #[.pointer (some ⟨X,0,none⟩)] W fun e w'=>e=.returned (.int .i64 (M:Int))/\Out 0 0 W w'):=fun W o=>by
  have q:=z3r (h.sp.quiet o).1;rw[hX,hM] at q;exact q.mono fun e w' ⟨h1,h2⟩=>⟨h1,h2 ▸ Out.refl 0 0 _⟩
 have HU:Hid (∀ W,Out 0 0 w W->Calls Tryz.prog 40 #[.pointer (some ⟨X,0,none⟩)] W fun e w'=>e=.returned (.float .f64 v)/\Out 0 0 W w'):=fun W o=>by
  have q:=x3p (h.sp.quiet o).1 (B7 st) (z3i h.sp.2) hv;rw[hX] at q;exact q
 have HR:Hid (∀ W,Out 0 0 w W->Calls Tryz.prog 41 #[.pointer (some ⟨Y,0,none⟩)] W fun e w'=>e=.returned (.int .i64 (u:Int))/\Out 0 0 W w'):=fun W o=>by
  have q:=x2k (h.rf.quiet o) h.sp.2;rw[hY,hu] at q;exact q.mono fun e w' ⟨h1,h2⟩=>⟨h1,h2 ▸ Out.refl 0 0 _⟩
 obtain⟨p0,p1⟩:=h.ks.cells;have p2:=h.rf.cells.1;rw[hX] at p0;rw[hY] at p1 p2;rw[hM] at p2;have hv2:floatBits .quo .f64 (floatOfInt .f64 (u:Int)) (floatOfInt .f64 (M:Int))=some v:=by
  rw[<-hM,show ((64*n:Nat):Int)=64*(n:Int) from by omega,<-hu];exact hv
 have hdv:∀ wx,(binOp .quo 75 (.float .f64 (floatOfInt .f64 (u:Int))) (.float .f64 (floatOfInt .f64 (M:Int)))).run Tryz.prog wx=.ok (.float .f64 v) wx:=fun wx=>run_float_arith wx _ _ _ _ _ _ hv2
 have hbe:(FloatKind.f64.format.order v v == some Ordering.eq)=true:=by rw[hvv];rfl
 clear h hX hY hv hu hM hv2;go_enter Tryz.func10,Tryz.ntmps10
 go_wp2_with fail;obtain⟨W,hW⟩:∃ W,w.alloc (.cells #[.int .i64 o0,.int .i64 19,.int .i64 o2,.int .i64 o3,.int .i64 o4,.slice lp ll lc] 32)=W:=⟨_,rfl⟩
 have oW:Out 0 0 w W:=by rw[<-hW];exact(Out.refl 0 0 _).alloc _
 replace p0:=oW.cell p0 z0;replace p1:=oW.cell p1 z0;rw[hW];clear hW;replace p2:=oW.cell p2 z0;refine wp_region_held_drew (S:=fun w'=>w'.cell? ⟨b,0,none⟩=some (.pointer (some ⟨X,0,none⟩))/\w'.cell? ⟨b,1,none⟩=some (.pointer (some ⟨Y,0,none⟩))/\w'.cell? ⟨Y,0,none⟩=some (.slice (some ⟨sr 1,0,none⟩) M cw)/\Out 0 0 w w') (by kernel_rfl) ?hS46 (fun hHeld=>?rest46)
 case hS46=>exact⟨p0,p1,p2,oW.drew⟩
 refine tk 0 ?_;refine tk 1 ?_;refine tk 2 ?_;refine tk 3 ?_;refine tk 5 ?_;refine tk 6 ?_;refine tk 7 ?_;refine tk 8 ?_;refine tk 9 ?_;refine tk 10 ?_;refine tk 11 ?_;refine tk 12 ?_;refine rd1 4 fun KK hK=>?_
 simp only[xa,xb,xc];go_simp;refine(HW.out _ hHeld.2.2.2).mono ?_;rintro e V1 ⟨rfl,q1⟩;refine hK.out _ _ ?hS59 (fun hHeld2=>?rest59)
 case hS59=>exact⟨q1.cell hHeld.1 z0,q1.cell hHeld.2.1 z0,q1.cell hHeld.2.2.1 z0,hHeld.2.2.2.trans q1⟩
 clear hK KK;replace hHeld:=hHeld2;clear hHeld2;refine tk 13 ?_;refine tk 14 ?_;refine tk 15 ?_;refine tk 16 ?_;refine tk 17 ?_;refine tk 18 ?_;refine tk 20 ?_;refine tk 21 ?_;refine tk 22 ?_;refine tk 23 ?_;refine tk 26 ?_;refine tk 27 ?_;refine tk 28 ?_;refine tk 29 ?_;refine tk 30 ?_;refine tk 31 ?_;refine tk 32 ?_;refine tk 33 ?_;refine tk 34 ?_;refine rd1 19 fun KK hK=>?_
 simp only[xa,xb,xc];go_simp;refine(HU.out _ hHeld.2.2.2).mono ?_;rintro e V2 ⟨rfl,q2⟩;refine hK.out _ _ ?hS79 (fun hHeld2=>?rest79)
 case hS79=>exact⟨q2.cell hHeld.1 z0,q2.cell hHeld.2.1 z0,q2.cell hHeld.2.2.1 z0,hHeld.2.2.2.trans q2⟩
 clear hK KK;replace hHeld:=hHeld2;clear hHeld2;refine rd1 24 fun KK hK=>?_
 simp only[xa,xb,xc];go_simp;refine(HR.out _ hHeld.2.2.2).mono ?_;rintro e V3 ⟨rfl,q3⟩;refine hK.out _ _ ?hS80 (fun hHeld2=>?rest80)
 case hS80=>exact⟨q3.cell hHeld.1 z0,q3.cell hHeld.2.1 z0,q3.cell hHeld.2.2.1 z0,hHeld.2.2.2.trans q3⟩
 clear hK KK;replace hHeld:=hHeld2;clear hHeld2;refine tk 25 ?_;refine tk 35 ?_;refine tk 36 ?_;refine tk 37 ?_;refine tk 38 ?_;refine dn ?_;have hE:=hHeld.2.2.2;clear hHeld;go_wp2;go_ret;exact⟨rfl,hE⟩
end
theorem x2m {n:Nat} {r:Raw} (hR:q7x n r):∀ p e,(∀ a b,a<p->r.P a=true->r.M (a:Int)=some b->a+J3 b.2.1<=e)->x2g r p<=e
 | 0,e,_=>Nat.zero_le _
 | p+1,e,h=>by
  cases hP:r.P p with
  | false=>
   rw[x2z (p:=p) (by omega) (fun j j1 j2=>by rw[show j=p from by omega];exact hP)];exact x2m hR p e fun a b ha=>h a b (by omega)
  | true=>
   cases hM:r.M (p:Int) with
   | none=>
    have:=x2m hR p e fun a b ha=>h a b (by omega)
    conv=>lhs;unfold x2g
    rw[hP,hM];exact this
   | some b=>
    rw[x2x hP hM];have h1:=h p b (by omega) hP hM;have h2:=x2m hR p p (fun a b' ha hPa hMa=>(hR a b' hPa hMa).2.2.2 p ha hP);omega
theorem us1:((List.range 65).all fun u=>x2i 1 u)=true:=by decide +kernel
theorem us2:((List.range 129).all fun u=>x2i 2 u)=true:=by decide +kernel
theorem us3:((List.range 193).all fun u=>x2i 3 u)=true:=by decide +kernel
theorem us4:((List.range 257).all fun u=>x2i 4 u)=true:=by decide +kernel
theorem us5:((List.range 321).all fun u=>x2i 5 u)=true:=by decide +kernel
theorem us6:((List.range 385).all fun u=>x2i 6 u)=true:=by decide +kernel
theorem us7:((List.range 449).all fun u=>x2i 7 u)=true:=by decide +kernel
theorem us8:((List.range 513).all fun u=>x2i 8 u)=true:=by decide +kernel
theorem us9:((List.range 577).all fun u=>x2i 9 u)=true:=by decide +kernel
theorem us10:((List.range 641).all fun u=>x2i 10 u)=true:=by decide +kernel
theorem us11:((List.range 705).all fun u=>x2i 11 u)=true:=by decide +kernel
theorem us12:((List.range 769).all fun u=>x2i 12 u)=true:=by decide +kernel
theorem us13:((List.range 833).all fun u=>x2i 13 u)=true:=by decide +kernel
theorem us14:((List.range 897).all fun u=>x2i 14 u)=true:=by decide +kernel
theorem us15:((List.range 961).all fun u=>x2i 15 u)=true:=by decide +kernel
theorem us16:((List.range 1025).all fun u=>x2i 16 u)=true:=by decide +kernel
theorem us17:((List.range 1089).all fun u=>x2i 17 u)=true:=by decide +kernel
theorem us18:((List.range 1153).all fun u=>x2i 18 u)=true:=by decide +kernel
theorem us19:((List.range 1217).all fun u=>x2i 19 u)=true:=by decide +kernel
theorem us20:((List.range 1281).all fun u=>x2i 20 u)=true:=by decide +kernel
theorem us21:((List.range 1345).all fun u=>x2i 21 u)=true:=by decide +kernel
theorem us22:((List.range 1409).all fun u=>x2i 22 u)=true:=by decide +kernel
theorem us23:((List.range 1473).all fun u=>x2i 23 u)=true:=by decide +kernel
theorem us24:((List.range 1537).all fun u=>x2i 24 u)=true:=by decide +kernel
theorem x3j {n:Nat} (h1:1<=n) (h2:n<=24):((List.range (64*n+1)).all fun u=>x2i n u)=true:=by
 have h:n=1\/n=2\/n=3\/n=4\/n=5\/n=6\/n=7\/n=8\/n=9\/n=10\/n=11\/n=12\/n=13\/n=14\/n=15\/n=16\/n=17\/n=18\/n=19\/n=20\/n=21\/n=22\/n=23\/n=24:=by omega
 rcases h with rfl | rfl | rfl | rfl | rfl | rfl | rfl | rfl | rfl | rfl | rfl | rfl | rfl | rfl | rfl | rfl | rfl | rfl | rfl | rfl | rfl | rfl | rfl | rfl
 ·exact us1
 ·exact us2
 ·exact us3
 ·exact us4
 ·exact us5
 ·exact us6
 ·exact us7
 ·exact us8
 ·exact us9
 ·exact us10
 ·exact us11
 ·exact us12
 ·exact us13
 ·exact us14
 ·exact us15
 ·exact us16
 ·exact us17
 ·exact us18
 ·exact us19
 ·exact us20
 ·exact us21
 ·exact us22
 ·exact us23
 ·exact us24
theorem x3o {n u:Nat} (h1:1<=n) (h2:n<=24) (hu:u<=64*n):∃ v,x3q n u=some v/\FloatKind.f64.format.order v v=some .eq:=by
 have h3:=x3j h1 h2;rw[List.all_eq_true] at h3;have h4:x2i n u=true:=h3 u (by simp;omega);unfold x2i at h4;cases e:x3q n u with
 | none=>rw[e] at h4;cases h4
 | some v=>rw[e] at h4;exact⟨v,rfl,by simpa using h4⟩
theorem look_dumps:z7g 19 20:=fun B w q st col c o0 k a b' d lp lc l h hc k1 k2 ha hb hl hg hn hx=>by
 have hk:k=19\/k=20:=by omega
 rcases hk with rfl | rfl
 ·have hR:=z3i h.1.sp.2;obtain⟨v,v1,v2⟩:=x3o h.1.sp.2.n1 h.1.le.2.2 (x2m hR (64*q.n) (64*q.n) fun a b _ ha hb=>(hR a b ha hb).2.2.1);exact(x2u h.1 v1 v2 o0 a b' d lp l.length lc).mono fun e w' g=>z2e h g
 ·exact(z5q h.1 (by omega) o0 a b' d lp l.length lc).mono fun e w' g=>x3a h g
theorem look_all:z7g 10 20:=fun B w q st col c o0 k a b' d lp lc l h hc k1 k2 ha hb hl hg hn hx=>by
 by_cases h1:k<=13
 ·exact look_words B w q st col c o0 k a b' d lp lc l h hc k1 h1 ha hb hl hg hn hx
 by_cases h2:k<=14
 ·exact look_fits B w q st col c o0 k a b' d lp lc l h hc (by omega) h2 ha hb hl hg hn hx
 by_cases h3:k<=17
 ·exact look_finds B w q st col c o0 k a b' d lp lc l h hc (by omega) h3 ha hb hl hg hn hx
 by_cases h4:k<=18
 ·exact look_wrongs B w q st col c o0 k a b' d lp lc l h hc (by omega) h4 ha hb hl hg hn hx
 ·exact look_dumps B w q st col c o0 k a b' d lp lc l h hc (by omega) k2 ha hb hl hg hn hx
end Go.Proofs.YtjbbkeoolodeaabGreatDoor
