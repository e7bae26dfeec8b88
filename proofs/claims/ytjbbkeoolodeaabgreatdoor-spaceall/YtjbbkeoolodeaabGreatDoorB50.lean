import Derived.Test.YtjbbkeoolodeaabGreatDoorB49
import Derived.Test.YtjbbkeoolodeaabGreatDoorB47
namespace Go.Proofs.YtjbbkeoolodeaabGreatDoor
open Go.RowKit
set_option linter.unusedVariables false
set_option maxRecDepth 100000
set_option maxHeartbeats 16000000
set_option linter.unusedSimpArgs false
structure GB (b gp go gw gm gt gd:Nat) (o0 A Bv Cv:Int) (lp:Option Addr) (ll lc:Nat) (a:Int) (o:Blk) (mv:Bool) (t:Int) (W:World):Prop where
 hp:Box W gp 27 (.pointer (some ⟨b,0,none⟩))
 ho:W.heap[go]? = some (.cells #[.int .i64 o0,.int .i64 17,.int .i64 A,.int .i64 Bv,.int .i64 Cv,.slice lp ll lc] 32 (0,0))
 hw:W.heap[gw]? = some (.cells #[.int .i64 a,.int .i64 o.1,.int .i64 o.2.1,.int .i64 o.2.2.1,.int .i64 o.2.2.2] 97 (0,0))
 hm:Box W gm 4 (.bool mv)
 ht:Box W gt 3 (.int .i64 t)
 hd:Box W gd 4 (.bool true)
def GF (w0:World) (b lo gp go gw gm gt gd:Nat) (col:Nat->Nat):Prop:=(lo<=b/\b<gp/\gp<go/\go<gw/\gm=gw+1/\gt=gw+2/\gd=gw+3/\w0.heap.size<=gp)/\∀ k,gp<=k->col k=9
theorem out6 (w:World) {gw gm:Nat} (h:gm=gw+1) (y0 y1 y2 y3 y4 y5:Value):Out gw (gm+1) w ((((((w.setCell ⟨gw,0,none⟩ y0).setCell ⟨gw,1,none⟩ y1).setCell ⟨gw,2,none⟩ y2).setCell ⟨gw,3,none⟩ y3).setCell ⟨gw,4,none⟩ y4).setCell ⟨gm,0,none⟩ y5):=by
 have q5:Out gw (gm+1) w (((((w.setCell ⟨gw,0,none⟩ y0).setCell ⟨gw,1,none⟩ y1).setCell ⟨gw,2,none⟩ y2).setCell ⟨gw,3,none⟩ y3).setCell ⟨gw,4,none⟩ y4):=(out5 w gw y0 y1 y2 y3 y4).wide (Nat.le_refl _) (by omega);exact q5.setCell (p:=⟨gm,0,none⟩) (.inl ⟨(by omega:gw<=gm),Nat.lt_succ_self _⟩) _
section
variable {B:Nat} {w0 W W':World} {b lo m n cap cw co c gp go gw gm gt gd:Nat} {s sr:Nat->Nat} {st st' st0:Sp} {col:Nat->Nat} {z mv:Bool} {o0 A Bv Cv a t:Int} {lp:Option Addr} {ll lc:Nat} {o:Blk}
theorem GB.kept (h:GB b gp go gw gm gt gd o0 A Bv Cv lp ll lc a o mv t W) (hG:GF w0 b lo gp go gw gm gt gd col) {x y:Nat} (q:Out x y W W') (hx:gd<x\/y<=gp):GB b gp go gw gm gt gd o0 A Bv Cv lp ll lc a o mv t W':=by
 obtain⟨⟨g1,g2,g3,g4,g5,g6,g7,g8⟩,_⟩:=hG;exact⟨h.hp.kept q (by omega),q.heap h.ho (by omega),q.heap h.hw (by omega),h.hm.kept q (by omega),h.ht.kept q (by omega),h.hd.kept q (by omega)⟩
theorem GB.setT (h:GB b gp go gw gm gt gd o0 A Bv Cv lp ll lc a o mv t W) (hG:GF w0 b lo gp go gw gm gt gd col) (t':Int):GB b gp go gw gm gt gd o0 A Bv Cv lp ll lc a o mv t' (W.setCell ⟨gt,0,none⟩ (.int .i64 t')):=by
 obtain⟨⟨g1,g2,g3,g4,g5,g6,g7,g8⟩,_⟩:=hG;have q:Out gt (gt+1) W (W.setCell ⟨gt,0,none⟩ (.int .i64 t')):=(Out.refl _ _ _).setCell (p:=⟨gt,0,none⟩) z1 _;exact⟨h.hp.kept q (by omega),q.heap h.ho (by omega),q.heap h.hw (by omega),h.hm.kept q (by omega),h.ht.set _,h.hd.kept q (by omega)⟩
theorem GB.setD (h:GB b gp go gw gm gt gd o0 A Bv Cv lp ll lc a o mv t W) (hG:GF w0 b lo gp go gw gm gt gd col):GB b gp go gw gm gt gd o0 A Bv Cv lp ll lc a o mv t (W.setCell ⟨gd,0,none⟩ (.bool true)):=by
 obtain⟨⟨g1,g2,g3,g4,g5,g6,g7,g8⟩,_⟩:=hG;have q:Out gd (gd+1) W (W.setCell ⟨gd,0,none⟩ (.bool true)):=(Out.refl _ _ _).setCell (p:=⟨gd,0,none⟩) z1 _;exact⟨h.hp.kept q (by omega),q.heap h.ho (by omega),q.heap h.hw (by omega),h.hm.kept q (by omega),h.ht.kept q (by omega),h.hd.set _⟩
theorem GB.setW (h:GB b gp go gw gm gt gd o0 A Bv Cv lp ll lc a o mv t W) (hG:GF w0 b lo gp go gw gm gt gd col) (a':Int) (o':Blk) (mv':Bool) :
  GB b gp go gw gm gt gd o0 A Bv Cv lp ll lc a' o' mv' t ((((((W.setCell ⟨gw,0,none⟩ (.int .i64 a')).setCell ⟨gw,1,none⟩ (.int .i64 o'.1)).setCell ⟨gw,2,none⟩ (.int .i64 o'.2.1)).setCell ⟨gw,3,none⟩ (.int .i64 o'.2.2.1)).setCell ⟨gw,4,none⟩ (.int .i64 o'.2.2.2)).setCell ⟨gm,0,none⟩ (.bool mv')):=by
 obtain⟨⟨g1,g2,g3,g4,g5,g6,g7,g8⟩,_⟩:=hG;have q5:=out5 W gw (.int .i64 a') (.int .i64 o'.1) (.int .i64 o'.2.1) (.int .i64 o'.2.2.1) (.int .i64 o'.2.2.2);have hw5:=set5 (y0:=.int .i64 a') (y1:=.int .i64 o'.1) (y2:=.int .i64 o'.2.1) (y3:=.int .i64 o'.2.2.1) (y4:=.int .i64 o'.2.2.2) h.hw;have q6:=(Out.refl gm (gm+1) (((((W.setCell ⟨gw,0,none⟩ (.int .i64 a')).setCell ⟨gw,1,none⟩ (.int .i64 o'.1)).setCell ⟨gw,2,none⟩ (.int .i64 o'.2.1)).setCell ⟨gw,3,none⟩ (.int .i64 o'.2.2.1)).setCell ⟨gw,4,none⟩ (.int .i64 o'.2.2.2))).setCell (p:=⟨gm,0,none⟩) z1 (.bool mv');exact⟨(h.hp.kept q5 (by omega)).kept q6 (by omega),q6.heap (q5.heap h.ho (by omega)) (by omega),q6.heap hw5 (by omega),(h.hm.kept q5 (by omega)).set _,(h.ht.kept q5 (by omega)).kept q6 (by omega),(h.hd.kept q5 (by omega)).kept q6 (by omega)⟩
theorem PS.far (h:PS B W b lo m m b s sr n cap cw co st col z c) {x y:Nat} (q:Out x y W W') (hb:b<x) (h9:∀ k,x<=k->col k=9):PS B W' b lo m m b s sr n cap cw co st col z c:=by
 have hl:=h.le;have hg:=h.sp.1.glob;exact⟨h.sp.kept q (.inl (by omega)) (.inl (by omega)),h.rf.kept q (.inl (by omega)),h.ks.chg (P:=fun c=>c=9) (Chg.of_part q fun k k1 _=>h9 k k1) (fun _ h=>.inr h),h.c7,h.le⟩
structure GS (B:Nat) (w0:World) (b lo m n cap cw co c:Nat) (s sr:Nat->Nat) (st0:Sp) (col:Nat->Nat) (z:Bool) (gp go gw gm gt gd:Nat) (o0 A Bv Cv:Int) (lp:Option Addr) (ll lc:Nat) (st:Sp) (t i:Nat) (W:World):Prop where
 ps:PS B W b lo m m b s sr n cap cw co st col z c
 o:Out lo b w0 W
 gb:GB b gp go gw gm gt gd o0 A Bv Cv lp ll lc (afA n st i) (afO n st i) (afM n st i) (t:Int) W
 ch:((t:Int)<Bv->st=st0)/\st.last<=st0.last+1
 tl:t<=i/\i<=64*n
theorem GS.kept {i t:Nat} (h:GS B w0 b lo m n cap cw co c s sr st0 col z gp go gw gm gt gd o0 A Bv Cv lp ll lc st t i W) (hG:GF w0 b lo gp go gw gm gt gd col) {x y:Nat} (q:Out x y W W') (hx:gd<x\/y=0):GS B w0 b lo m n cap cw co c s sr st0 col z gp go gw gm gt gd o0 A Bv Cv lp ll lc st t i W':=by
 obtain⟨⟨g1,g2,g3,g4,g5,g6,g7,g8⟩,g9⟩:=id hG;rcases hx with hx | rfl
 ·exact⟨h.ps.far q (by omega) (fun k hk=>g9 k (by omega)),h.o.past q (by omega),h.gb.kept hG q (.inl hx),h.ch,h.tl⟩
 ·have q0:Out 0 0 W W':=⟨q.1,q.2.1,q.2.2.1,q.size,fun k hk _=>q.block hk z0⟩
  exact⟨h.ps.quiet q0,h.o.trans (q0.any _ _),h.gb.kept hG q0 z0,h.ch,h.tl⟩
theorem x2j {i k t:Nat} {V V9:World} {st':Sp} {T1 v0 u1 u2 u3 u4:Int} {v2:Bool} (hG:GF w0 b lo gp go gw gm gt gd col) (f1:PS B V b lo m m b s sr n cap cw co st' col z c) (f2:Out lo b w0 V) (f3':GB b gp go gw gm gt gd o0 A Bv Cv lp ll lc a o mv T1 V9) (f4:Out 0 (gd+1) W V) (q9:Out 0 0 V V9) (f8:(((t+1:Nat):Int)<Bv->st'=st0)/\st'.last<=st0.last+1) (hT:(t:Int)+1=T1) (hk:k<64*n/\i<=k) (ht:t<=i/\i<=64*n) (f5:afA n st' (k+1)=v0) (f6:afO n st' (k+1)=(u1,u2,u3,u4)) (f7:afM n st' (k+1)=v2) :
  GS B w0 b lo m n cap cw co c s sr st0 col z gp go gw gm gt gd o0 A Bv Cv lp ll lc st' (t+1) (k+1) ((((((V9.setCell ⟨gw,0,none⟩ (.int .i64 v0)).setCell ⟨gw,1,none⟩ (.int .i64 u1)).setCell ⟨gw,2,none⟩ (.int .i64 u2)).setCell ⟨gw,3,none⟩ (.int .i64 u3)).setCell ⟨gw,4,none⟩ (.int .i64 u4)).setCell ⟨gm,0,none⟩ (.bool v2))/\Out 0 (gd+1) W ((((((V9.setCell ⟨gw,0,none⟩ (.int .i64 v0)).setCell ⟨gw,1,none⟩ (.int .i64 u1)).setCell ⟨gw,2,none⟩ (.int .i64 u2)).setCell ⟨gw,3,none⟩ (.int .i64 u3)).setCell ⟨gw,4,none⟩ (.int .i64 u4)).setCell ⟨gm,0,none⟩ (.bool v2)):=by
 obtain⟨⟨g1,g2,g3,g4,g5,g6,g7,g8⟩,g9⟩:=id hG;have q10:=out6 V9 g5 (.int .i64 v0) (.int .i64 u1) (.int .i64 u2) (.int .i64 u3) (.int .i64 u4) (.bool v2);refine⟨⟨(f1.quiet q9).far q10 (by omega) (fun k hk=>g9 k (by omega)),(f2.trans (q9.any _ _)).past q10 (by omega),?_,f8,by omega⟩,(f4.trans (q9.any _ _)).trans (q10.wide (Nat.zero_le _) (by omega))⟩;rw[f5,f6,f7,show (((t+1:Nat):Int))=T1 from by omega];exact f3'.setW hG v0 (u1,u2,u3,u4) v2
theorem x3g {i t:Nat} (hG:GF w0 b lo gp go gw gm gt gd col) (h:GS B w0 b lo m n cap cw co c s sr st0 col z gp go gw gm gt gd o0 A Bv Cv lp ll lc st t i W) (hlast:st0.last<4611686018427387900) (hA:A<1\/(t:Int)<A) {k:Nat} (hk:nxr (ob n st) (64*n) i=(k:Int)) {y1 y2 y3 y4:Int} (hOk:st.O k=(y1,y2,y3,y4)) :
  Calls Tryz.prog 79 #[.agg #[.int .i64 (k:Int),.int .i64 y1,.int .i64 y2,.int .i64 y3,.int .i64 y4],.pointer (some ⟨gd,0,none⟩),.pointer (some ⟨gm,0,none⟩),.pointer (some ⟨gw,0,none⟩),.pointer (some ⟨go,0,none⟩),.pointer (some ⟨gt,0,none⟩),.pointer (some ⟨gp,0,none⟩)] W fun e W'=>(∃ st',GS B w0 b lo m n cap cw co c s sr st0 col z gp go gw gm gt gd o0 A Bv Cv lp ll lc st' (t+1) (k+1) W')/\Out 0 (gd+1) W W'/\e=.returned (.bool (decide (A<1) || decide ((t:Int)+1<A))):=by
 have HG:=Z0 hG;have hO:=hk;obtain⟨hM,hA',hO'⟩:=x3e hk;rw[hOk] at hO';have hps:=h.ps;have HK:Hid (k<64*n/\i<=k):=by
  rcases Q1 (ob n st) (64*n) i with ⟨e,_⟩ | ⟨j,e,j1,j2,_⟩
  ·omega
  ·have:=j2 h.tl.2;exact⟨by omega,by omega⟩
 have HT:=Z0 h.tl;have HLs:=Z0 hlast;have Hst:Hid (st.last<=st0.last+1/\((t:Int)<Bv->st=st0)):=⟨h.ch.2,h.ch.1⟩
 obtain⟨gb,hgb⟩:∃ g,W.heap.size=g:=⟨_,rfl⟩
 obtain⟨W1,hW1⟩:∃ V,W.alloc (.cells #[.int .i64 (k:Int),.int .i64 y1,.int .i64 y2,.int .i64 y3,.int .i64 y4] 97)=V:=⟨_,rfl⟩
 have q1:Out 0 0 W W1:=by rw[<-hW1];exact(Out.refl 0 0 _).alloc _
 have fB:W1.heap[gb]? = some (.cells #[.int .i64 (k:Int),.int .i64 y1,.int .i64 y2,.int .i64 y3,.int .i64 y4] 97 (0,0)):=by rw[<-hW1,<-hgb];exact heap_alloc_new _ _
 have hbg:gd<gb:=by have:=h.gb.hd.lt;omega
 have hB1:=h.gb.kept hG q1 z0;have hP1:=h.ps.quiet q1;have hO1:=h.o.trans (q1.any _ _);obtain⟨c0,c1,c2,c3,c4,_⟩:=x3f fB;obtain⟨d0,d1,d2,d3,d4,_⟩:=x3f hB1.hw;rw[hA'] at d0;rw[hO'] at d1 d2 d3 d4;dsimp only at d1 d2 d3 d4;obtain⟨_,_,cA,cB,cC,_⟩:=Y8 hB1.ho;have cP:=hB1.hp.cell;have cT:=hB1.ht.cell;have cTf:=hB1.ht.frozen;have cD:=hB1.hd.cell;have cDf:=hB1.hd.frozen;have cM:=hB1.hm.cell;rw[hM] at cM;obtain⟨T1,hT1⟩:∃ T1:Int,(t:Int)+1=T1:=⟨_,rfl⟩
 have HT1:=Z0 hT1;have hB2:=hB1.setT hG T1;have q2:Out gt (gt+1) W1 (W1.setCell ⟨gt,0,none⟩ (.int .i64 T1)):=(Out.refl _ _ _).setCell (p:=⟨gt,0,none⟩) z1 _;have hP2:=hP1.far q2 (by have:=hG.1;omega) (fun k hk=>hG.2 k (by have:=hG.1;omega));have hO2:=hO1.past q2 (by have:=hG.1;omega);have hQ2:Out 0 (gd+1) W (W1.setCell ⟨gt,0,none⟩ (.int .i64 T1)):=(q1.any _ _).trans (q2.wide (Nat.zero_le _) (by have:=hG.1;omega));have d5:(W1.setCell ⟨gt,0,none⟩ (.int .i64 T1)).cell? ⟨gb,0,none⟩=some (.int .i64 (k:Int)):=q2.cell c0 (.inr (by have:=hG.1;omega));obtain⟨W2,hW2⟩:∃ V,W1.setCell ⟨gt,0,none⟩ (.int .i64 T1)=V:=⟨_,rfl⟩
 rw[hW2] at hB2 hP2 hO2 hQ2 d5;have e0:=hB2.ht.cell;obtain⟨_,_,e5,e6,e7,_⟩:=Y8 hB2.ho;have e8:=hB2.hp.cell;have HB5:Hid (W2.cell? ⟨gb,0,none⟩=some (.int .i64 (k:Int))/\gd<gb):=⟨d5,hbg⟩
 have HB6:Hid (W2.cell? ⟨gb,0,none⟩=some (.int .i64 (k:Int))):=d5;have t0:(0:Int)<=(t:Int):=by omega
 have T0:(0:Int)<=T1:=by omega
 have t1:(t:Int)<=262144:=by have:=h.tl;have:=h.ps.sp.1.n2;omega
 have df:((k:Int) != (k:Int))=false:=by simp
 have df2:(y1 != y1)=false/\(y2 != y2)=false/\(y3 != y3)=false/\(y4 != y4)=false:=by simp
 obtain⟨e1,e2,e3,e4⟩:=df2;have df2:=e1;have HCq:Hid (t+1<=t+1):=Nat.le_refl _;clear HCq hk hO hM hA' hO' hps q1 fB hB1 hP1 hO1 q2 hG h hlast hOk hbg;obtain⟨yc,hyc⟩:∃ y,bits .and .i64 Cv 1=y:=⟨_,rfl⟩
 go_enter Tryz.func79,Tryz.ntmps79
 rcases hA with hA | hA
 ·have hA0:¬ (1:Int)<=A:=by omega
  by_cases hB0:T1=Bv
  ·have hBb:(T1 == Bv)=true:=by simpa using hB0
   have hB:Hid ((t:Int)+1=Bv):=hT1.trans hB0;clear hB0;by_cases y0:yc=0
   ·subst y0;have HTu:=Z0 (q4s hP2 0 1 3 0 (by have:=HLs.out;have:=Hst.out.1;omega) (by omega) none 0 0);have H2:=Z0 (And.intro hP2 (And.intro hB2 (And.intro hO2 hQ2)));clear hP2 hB2 hO2 hQ2;go_wp2_with fail;(try rw[hW2]);clear d0 d1 d2 d3 d4 d5 df df2 e0 e1 e2 e3 e4 e5 e6 e7 e8 cA cB cC cP cT cTf cD cDf cM c0 c1 c2 c3 c4;clear hW2;refine HTu.out.mono ?_;rintro e V1 ⟨rfl,st1,P1,q1,l1⟩;obtain⟨x1,x2,x3,x4⟩:=H2.out;have hg:=HG.out;have x2':=(x2.kept HG.out q1 (.inr (by have:=HG.out.1;omega)))
    have hB3:=x2'.setD HG.out;have q2:Out gd (gd+1) V1 (V1.setCell ⟨gd,0,none⟩ (.bool true)):=(Out.refl _ _ _).setCell (p:=⟨gd,0,none⟩) z1 _;have hP3:=P1.far q2 (by have:=HG.out.1;omega) (fun k hk=>HG.out.2 k (by have:=HG.out.1;omega));have hO3:=(x3.trans q1).past q2 (by have:=HG.out.1;omega);have hQ3:Out 0 (gd+1) W (V1.setCell ⟨gd,0,none⟩ (.bool true)):=(x4.trans (q1.wide (Nat.zero_le _) (by have:=HG.out.1;omega))).trans (q2.wide (Nat.zero_le _) (Nat.le_refl _));have HCh:Hid ((((t+1:Nat):Int)<Bv->st1=st0)/\st1.last<=st0.last+1):=⟨fun e=>by have:=hB.out;omega,by have h1:=Hst.out.1;have h2:=HLs.out;rw[Hst.out.2 (by have:=hB.out;omega)] at l1;omega⟩
    obtain⟨k0,k1⟩:=(And.intro x2'.hd.cell x2'.hd.frozen)
    have cG:=q1.cell (HB5.out.1) (.inr (by have:=HB5.out.2;have:=HG.out.1;omega));obtain⟨V3,hV3⟩:∃ V3,V1.setCell ⟨gd,0,none⟩ (.bool true)=V3:=⟨_,rfl⟩
    rw[hV3] at hP3 hB3 hO3 hQ3;have cG3:V3.cell? ⟨gb,0,none⟩=some (.int .i64 (k:Int)):=by rw[<-hV3];exact q2.cell cG (.inr (by have:=HB5.out.2;omega))
    have cT:=hB3.ht.cell;obtain⟨_,_,cA,cB,cC,_⟩:=Y8 hB3.ho;have cP:=hB3.hp.cell;clear P1 q1 l1 x1 x2 x3 x4 x2' q2 HTu H2 hg;have HAf:=x2h (hP3.two) (a:=k+1) (by have:=HK.out;omega) (x:=(k:Int)) (by omega);unfold q6a at HAf;obtain⟨v0,hv0⟩:∃ v,afA n st1 (k+1)=v:=⟨_,rfl⟩
    obtain⟨v1,hv1⟩:∃ v,afO n st1 (k+1)=v:=⟨_,rfl⟩
    obtain⟨v2,hv2⟩:∃ v,afM n st1 (k+1)=v:=⟨_,rfl⟩
    obtain⟨u1,u2,u3,u4⟩:=v1;rw[hv0,hv1,hv2] at HAf;have HAf:=Z0 HAf;have HF:=Z0 (And.intro hP3 (And.intro hO3 (And.intro hB3 (And.intro hQ3 (And.intro hv0 (And.intro hv1 (And.intro hv2 HCh.out)))))));clear hP3 hB3 hO3 hQ3 hv0 hv1 hv2;go_wp2_with fail;(try rw[hV3]);clear k0 k1 cT cA cB cC cP cG cG3 hV3;refine HAf.out.mono ?_;rintro e V9 ⟨rfl,q9⟩;obtain⟨f1,f2,f3,f4,f5,f6,f7,f8⟩:=HF.out;have f3':=f3.kept HG.out q9 z0;obtain⟨m0,m1,m2,m3,m4,mf⟩:=x3f f3'.hw;have n0:=f3'.hm.cell;have n1:=f3'.hm.frozen;obtain⟨_,_,r2,_,_,_⟩:=Y8 f3'.ho;have r5:=f3'.ht.cell;have HE:=Z0 (x2j HG.out f1 f2 f3' f4 q9 f8 HT1.out HK.out HT.out f5 f6 f7);have hne1:gm ≠ gw:=by have:=HG.out.1;omega
    have hne2:go ≠ gw:=by have:=HG.out.1;omega
    have hne3:go ≠ gm:=by have:=HG.out.1;omega
    have hne4:gt ≠ gw:=by have:=HG.out.1;omega
    have hne5:gt ≠ gm:=by have:=HG.out.1;omega
    have hne6:=hne1.symm;have hne7:=hne2.symm;have hne8:=hne3.symm;have hne9:=hne4.symm;have hne10:=hne5.symm;clear f1 f2 f3 f4 f5 f6 f7 f8 f3' q9 HF HAf;go_wp2;go_ret;exact⟨⟨_,HE.out.1⟩,HE.out.2,by simp[hA]⟩
   ·have y00:(yc == 0)=false:=by simpa using y0
    by_cases y1c:yc=1
    ·subst y1c;obtain⟨gk,hgk⟩:∃ g,W2.heap.size=g:=⟨_,rfl⟩
     obtain⟨WK,hWK⟩:∃ V,W2.alloc (.cells #[.int .i64 (k:Int)] 3)=V:=⟨_,rfl⟩
     have qK:Out 0 0 W2 WK:=by rw[<-hWK];exact(Out.refl 0 0 _).alloc _
     have fK:Box WK gk 3 (.int .i64 (k:Int)):=by rw[<-hWK,<-hgk];exact heap_alloc_new _ _
     have hbK:b<=gk:=by have h1:=hP2.b_lt;omega
     have HKe:=Z0 (q1x (hP2.quiet qK) (l:=[(k:Int)]) (p:=some ⟨gk,0,none⟩) (cp:=1) (.inr ⟨gk,0,rfl,fK.lt,fun j hj=>by
      have:j=0:=by simpa using hj
      subst this;exact fK.cell⟩) (fun _ g off e=>by cases e;exact .inr hbK) (by simp))
     have H2:=Z0 (And.intro hP2 (And.intro hB2 (And.intro hO2 (And.intro hQ2 qK))));have cG0:=qK.cell (show W2.cell? ⟨gb,0,none⟩=_ from HB6.out) z0;clear hP2 hB2 hO2 hQ2 fK hbK;go_wp2_with fail;(try rw[hW2]);(try rw[hgk]);(try rw[hWK]);clear d0 d1 d2 d3 d4 d5 df df2 e0 e1 e2 e3 e4 e5 e6 e7 e8 cA cB cC cP cT cTf cD cDf cM c0 c1 c2 c3 c4;clear hW2 hWK hgk;refine HKe.out.mono ?_;rintro e V1 ⟨rfl,P1,q1⟩;obtain⟨x1,x2,x3,x4,x5⟩:=H2.out;have x2':=((x2.kept HG.out x5 z0).kept HG.out q1 (.inr (by have:=HG.out.1;omega)))
     have hB3:=x2'.setD HG.out;have q2:Out gd (gd+1) V1 (V1.setCell ⟨gd,0,none⟩ (.bool true)):=(Out.refl _ _ _).setCell (p:=⟨gd,0,none⟩) z1 _;have hP3:=P1.far q2 (by have:=HG.out.1;omega) (fun k hk=>HG.out.2 k (by have:=HG.out.1;omega));have hO3:=((x3.trans (x5.any _ _)).trans q1).past q2 (by have:=HG.out.1;omega);have hQ3:Out 0 (gd+1) W (V1.setCell ⟨gd,0,none⟩ (.bool true)):=((x4.trans (x5.any _ _)).trans (q1.wide (Nat.zero_le _) (by have:=HG.out.1;omega))).trans (q2.wide (Nat.zero_le _) (Nat.le_refl _));have HCh:Hid ((((t+1:Nat):Int)<Bv->kpE n st [(k:Int)]=st0)/\(kpE n st [(k:Int)]).last<=st0.last+1):=⟨fun e=>by have:=hB.out;omega,by rw[q6w,Hst.out.2 (by have:=hB.out;omega)];omega⟩
     obtain⟨k0,k1⟩:=(And.intro x2'.hd.cell x2'.hd.frozen)
     have cG:=q1.cell cG0 (.inr (by have:=HB5.out.2;have:=HG.out.1;omega));obtain⟨V3,hV3⟩:∃ V3,V1.setCell ⟨gd,0,none⟩ (.bool true)=V3:=⟨_,rfl⟩
     rw[hV3] at hP3 hB3 hO3 hQ3;have cG3:V3.cell? ⟨gb,0,none⟩=some (.int .i64 (k:Int)):=by rw[<-hV3];exact q2.cell cG (.inr (by have:=HB5.out.2;omega))
     have cT:=hB3.ht.cell;obtain⟨_,_,cA,cB,cC,_⟩:=Y8 hB3.ho;have cP:=hB3.hp.cell;clear P1 q1 x1 x2 x3 x4 x5 x2' q2 HKe H2 cG0;have HAf:=x2h (hP3.two) (a:=k+1) (by have:=HK.out;omega) (x:=(k:Int)) (by omega);unfold q6a at HAf;obtain⟨v0,hv0⟩:∃ v,afA n (kpE n st [(k:Int)]) (k+1)=v:=⟨_,rfl⟩
     obtain⟨v1,hv1⟩:∃ v,afO n (kpE n st [(k:Int)]) (k+1)=v:=⟨_,rfl⟩
     obtain⟨v2,hv2⟩:∃ v,afM n (kpE n st [(k:Int)]) (k+1)=v:=⟨_,rfl⟩
     obtain⟨u1,u2,u3,u4⟩:=v1;rw[hv0,hv1,hv2] at HAf;have HAf:=Z0 HAf;have HF:=Z0 (And.intro hP3 (And.intro hO3 (And.intro hB3 (And.intro hQ3 (And.intro hv0 (And.intro hv1 (And.intro hv2 HCh.out)))))));clear hP3 hB3 hO3 hQ3 hv0 hv1 hv2;go_wp2_with fail;(try rw[hV3]);clear k0 k1 cT cA cB cC cP cG cG3 hV3;refine HAf.out.mono ?_;rintro e V9 ⟨rfl,q9⟩;obtain⟨f1,f2,f3,f4,f5,f6,f7,f8⟩:=HF.out;have f3':=f3.kept HG.out q9 z0;obtain⟨m0,m1,m2,m3,m4,mf⟩:=x3f f3'.hw;have n0:=f3'.hm.cell;have n1:=f3'.hm.frozen;obtain⟨_,_,r2,_,_,_⟩:=Y8 f3'.ho;have r5:=f3'.ht.cell;have HE:=Z0 (x2j HG.out f1 f2 f3' f4 q9 f8 HT1.out HK.out HT.out f5 f6 f7);have hne1:gm ≠ gw:=by have:=HG.out.1;omega
     have hne2:go ≠ gw:=by have:=HG.out.1;omega
     have hne3:go ≠ gm:=by have:=HG.out.1;omega
     have hne4:gt ≠ gw:=by have:=HG.out.1;omega
     have hne5:gt ≠ gm:=by have:=HG.out.1;omega
     have hne6:=hne1.symm;have hne7:=hne2.symm;have hne8:=hne3.symm;have hne9:=hne4.symm;have hne10:=hne5.symm;clear f1 f2 f3 f4 f5 f6 f7 f8 f3' q9 HF HAf;go_wp2;go_ret;exact⟨⟨_,HE.out.1⟩,HE.out.2,by simp[hA]⟩
    ·have y11:(yc == 1)=false:=by simpa using y1c
     have HCq:Hid ((((t+1:Nat):Int)<Bv->st=st0)/\st.last<=st0.last+1):=⟨fun e=>by have:=hB.out;omega,Hst.out.1⟩
     have HAf:=x2h (hP2.two) (a:=k+1) (by have:=HK.out;omega) (x:=(k:Int)) (by omega);unfold q6a at HAf;obtain⟨v0,hv0⟩:∃ v,afA n st (k+1)=v:=⟨_,rfl⟩
     obtain⟨v1,hv1⟩:∃ v,afO n st (k+1)=v:=⟨_,rfl⟩
     obtain⟨v2,hv2⟩:∃ v,afM n st (k+1)=v:=⟨_,rfl⟩
     obtain⟨u1,u2,u3,u4⟩:=v1;rw[hv0,hv1,hv2] at HAf;have HAf:=Z0 HAf;have HF:=Z0 (And.intro hP2 (And.intro hO2 (And.intro hB2 (And.intro hQ2 (And.intro hv0 (And.intro hv1 (And.intro hv2 HCq.out)))))));clear hP2 hB2 hO2 hQ2 hv0 hv1 hv2;go_wp2_with fail;(try rw[hW2]);clear d0 d1 d2 d3 d4 d5 df df2 e0 e1 e2 e3 e4 e5 e6 e7 e8 cA cB cC cP cT cTf cD cDf cM c0 c1 c2 c3 c4;clear hW2;refine HAf.out.mono ?_;rintro e V9 ⟨rfl,q9⟩;obtain⟨f1,f2,f3,f4,f5,f6,f7,f8⟩:=HF.out;have f3':=f3.kept HG.out q9 z0;obtain⟨m0,m1,m2,m3,m4,mf⟩:=x3f f3'.hw;have n0:=f3'.hm.cell;have n1:=f3'.hm.frozen;obtain⟨_,_,r2,_,_,_⟩:=Y8 f3'.ho;have r5:=f3'.ht.cell;have HE:=Z0 (x2j HG.out f1 f2 f3' f4 q9 f8 HT1.out HK.out HT.out f5 f6 f7);have hne1:gm ≠ gw:=by have:=HG.out.1;omega
     have hne2:go ≠ gw:=by have:=HG.out.1;omega
     have hne3:go ≠ gm:=by have:=HG.out.1;omega
     have hne4:gt ≠ gw:=by have:=HG.out.1;omega
     have hne5:gt ≠ gm:=by have:=HG.out.1;omega
     have hne6:=hne1.symm;have hne7:=hne2.symm;have hne8:=hne3.symm;have hne9:=hne4.symm;have hne10:=hne5.symm;clear f1 f2 f3 f4 f5 f6 f7 f8 f3' q9 HF HAf;go_wp2;go_ret;exact⟨⟨_,HE.out.1⟩,HE.out.2,by simp[hA]⟩
  ·have hBb:(T1 == Bv)=false:=by simpa using hB0
   have hB:Hid ((t:Int)+1 ≠ Bv):=fun e=>hB0 (hT1.symm.trans e)
   clear hB0;have HCq:Hid ((((t+1:Nat):Int)<Bv->st=st0)/\st.last<=st0.last+1):=⟨fun e=>Hst.out.2 (by have:=hB.out;omega),Hst.out.1⟩
   have HAf:=x2h (hP2.two) (a:=k+1) (by have:=HK.out;omega) (x:=(k:Int)) (by omega);unfold q6a at HAf;obtain⟨v0,hv0⟩:∃ v,afA n st (k+1)=v:=⟨_,rfl⟩
   obtain⟨v1,hv1⟩:∃ v,afO n st (k+1)=v:=⟨_,rfl⟩
   obtain⟨v2,hv2⟩:∃ v,afM n st (k+1)=v:=⟨_,rfl⟩
   obtain⟨u1,u2,u3,u4⟩:=v1;rw[hv0,hv1,hv2] at HAf;have HAf:=Z0 HAf;have HF:=Z0 (And.intro hP2 (And.intro hO2 (And.intro hB2 (And.intro hQ2 (And.intro hv0 (And.intro hv1 (And.intro hv2 HCq.out)))))));clear hP2 hB2 hO2 hQ2 hv0 hv1 hv2;go_wp2_with fail;(try rw[hW2]);clear d0 d1 d2 d3 d4 d5 df df2 e0 e1 e2 e3 e4 e5 e6 e7 e8 cA cB cC cP cT cTf cD cDf cM c0 c1 c2 c3 c4;clear hW2;refine HAf.out.mono ?_;rintro e V9 ⟨rfl,q9⟩;obtain⟨f1,f2,f3,f4,f5,f6,f7,f8⟩:=HF.out;have f3':=f3.kept HG.out q9 z0;obtain⟨m0,m1,m2,m3,m4,mf⟩:=x3f f3'.hw;have n0:=f3'.hm.cell;have n1:=f3'.hm.frozen;obtain⟨_,_,r2,_,_,_⟩:=Y8 f3'.ho;have r5:=f3'.ht.cell;have HE:=Z0 (x2j HG.out f1 f2 f3' f4 q9 f8 HT1.out HK.out HT.out f5 f6 f7);have hne1:gm ≠ gw:=by have:=HG.out.1;omega
   have hne2:go ≠ gw:=by have:=HG.out.1;omega
   have hne3:go ≠ gm:=by have:=HG.out.1;omega
   have hne4:gt ≠ gw:=by have:=HG.out.1;omega
   have hne5:gt ≠ gm:=by have:=HG.out.1;omega
   have hne6:=hne1.symm;have hne7:=hne2.symm;have hne8:=hne3.symm;have hne9:=hne4.symm;have hne10:=hne5.symm;clear f1 f2 f3 f4 f5 f6 f7 f8 f3' q9 HF HAf;go_wp2;go_ret;exact⟨⟨_,HE.out.1⟩,HE.out.2,by simp[hA]⟩
 ·have hA0:¬ A<=(t:Int):=by omega
  by_cases hB0:T1=Bv
  ·have hBb:(T1 == Bv)=true:=by simpa using hB0
   have hB:Hid ((t:Int)+1=Bv):=hT1.trans hB0;clear hB0;by_cases y0:yc=0
   ·subst y0;have HTu:=Z0 (q4s hP2 0 1 3 0 (by have:=HLs.out;have:=Hst.out.1;omega) (by omega) none 0 0);have H2:=Z0 (And.intro hP2 (And.intro hB2 (And.intro hO2 hQ2)));clear hP2 hB2 hO2 hQ2;go_wp2_with fail;(try rw[hW2]);clear d0 d1 d2 d3 d4 d5 df df2 e0 e1 e2 e3 e4 e5 e6 e7 e8 cA cB cC cP cT cTf cD cDf cM c0 c1 c2 c3 c4;clear hW2;refine HTu.out.mono ?_;rintro e V1 ⟨rfl,st1,P1,q1,l1⟩;obtain⟨x1,x2,x3,x4⟩:=H2.out;have hg:=HG.out;have x2':=(x2.kept HG.out q1 (.inr (by have:=HG.out.1;omega)))
    have hB3:=x2'.setD HG.out;have q2:Out gd (gd+1) V1 (V1.setCell ⟨gd,0,none⟩ (.bool true)):=(Out.refl _ _ _).setCell (p:=⟨gd,0,none⟩) z1 _;have hP3:=P1.far q2 (by have:=HG.out.1;omega) (fun k hk=>HG.out.2 k (by have:=HG.out.1;omega));have hO3:=(x3.trans q1).past q2 (by have:=HG.out.1;omega);have hQ3:Out 0 (gd+1) W (V1.setCell ⟨gd,0,none⟩ (.bool true)):=(x4.trans (q1.wide (Nat.zero_le _) (by have:=HG.out.1;omega))).trans (q2.wide (Nat.zero_le _) (Nat.le_refl _));have HCh:Hid ((((t+1:Nat):Int)<Bv->st1=st0)/\st1.last<=st0.last+1):=⟨fun e=>by have:=hB.out;omega,by have h1:=Hst.out.1;have h2:=HLs.out;rw[Hst.out.2 (by have:=hB.out;omega)] at l1;omega⟩
    obtain⟨k0,k1⟩:=(And.intro x2'.hd.cell x2'.hd.frozen)
    have cG:=q1.cell (HB5.out.1) (.inr (by have:=HB5.out.2;have:=HG.out.1;omega));obtain⟨V3,hV3⟩:∃ V3,V1.setCell ⟨gd,0,none⟩ (.bool true)=V3:=⟨_,rfl⟩
    rw[hV3] at hP3 hB3 hO3 hQ3;have cG3:V3.cell? ⟨gb,0,none⟩=some (.int .i64 (k:Int)):=by rw[<-hV3];exact q2.cell cG (.inr (by have:=HB5.out.2;omega))
    have cT:=hB3.ht.cell;obtain⟨_,_,cA,cB,cC,_⟩:=Y8 hB3.ho;have cP:=hB3.hp.cell;clear P1 q1 l1 x1 x2 x3 x4 x2' q2 HTu H2 hg;have HAf:=x2h (hP3.two) (a:=k+1) (by have:=HK.out;omega) (x:=(k:Int)) (by omega);unfold q6a at HAf;obtain⟨v0,hv0⟩:∃ v,afA n st1 (k+1)=v:=⟨_,rfl⟩
    obtain⟨v1,hv1⟩:∃ v,afO n st1 (k+1)=v:=⟨_,rfl⟩
    obtain⟨v2,hv2⟩:∃ v,afM n st1 (k+1)=v:=⟨_,rfl⟩
    obtain⟨u1,u2,u3,u4⟩:=v1;rw[hv0,hv1,hv2] at HAf;have HAf:=Z0 HAf;have HF:=Z0 (And.intro hP3 (And.intro hO3 (And.intro hB3 (And.intro hQ3 (And.intro hv0 (And.intro hv1 (And.intro hv2 HCh.out)))))));clear hP3 hB3 hO3 hQ3 hv0 hv1 hv2;go_wp2_with fail;(try rw[hV3]);clear k0 k1 cT cA cB cC cP cG cG3 hV3;refine HAf.out.mono ?_;rintro e V9 ⟨rfl,q9⟩;obtain⟨f1,f2,f3,f4,f5,f6,f7,f8⟩:=HF.out;have f3':=f3.kept HG.out q9 z0;obtain⟨m0,m1,m2,m3,m4,mf⟩:=x3f f3'.hw;have n0:=f3'.hm.cell;have n1:=f3'.hm.frozen;obtain⟨_,_,r2,_,_,_⟩:=Y8 f3'.ho;have r5:=f3'.ht.cell;have HE:=Z0 (x2j HG.out f1 f2 f3' f4 q9 f8 HT1.out HK.out HT.out f5 f6 f7);have hne1:gm ≠ gw:=by have:=HG.out.1;omega
    have hne2:go ≠ gw:=by have:=HG.out.1;omega
    have hne3:go ≠ gm:=by have:=HG.out.1;omega
    have hne4:gt ≠ gw:=by have:=HG.out.1;omega
    have hne5:gt ≠ gm:=by have:=HG.out.1;omega
    have hne6:=hne1.symm;have hne7:=hne2.symm;have hne8:=hne3.symm;have hne9:=hne4.symm;have hne10:=hne5.symm;clear f1 f2 f3 f4 f5 f6 f7 f8 f3' q9 HF HAf;have hA2:¬ A<1:=by omega
    by_cases hA3:T1<A
    ·go_wp2;go_ret;exact⟨⟨_,HE.out.1⟩,HE.out.2,by have:=HT1.out;rw[this];simp[hA3]⟩
    ·go_wp2;go_ret;exact⟨⟨_,HE.out.1⟩,HE.out.2,by have:=HT1.out;rw[this];simp[hA2,hA3]⟩
   ·have y00:(yc == 0)=false:=by simpa using y0
    by_cases y1c:yc=1
    ·subst y1c;obtain⟨gk,hgk⟩:∃ g,W2.heap.size=g:=⟨_,rfl⟩
     obtain⟨WK,hWK⟩:∃ V,W2.alloc (.cells #[.int .i64 (k:Int)] 3)=V:=⟨_,rfl⟩
     have qK:Out 0 0 W2 WK:=by rw[<-hWK];exact(Out.refl 0 0 _).alloc _
     have fK:Box WK gk 3 (.int .i64 (k:Int)):=by rw[<-hWK,<-hgk];exact heap_alloc_new _ _
     have hbK:b<=gk:=by have h1:=hP2.b_lt;omega
     have HKe:=Z0 (q1x (hP2.quiet qK) (l:=[(k:Int)]) (p:=some ⟨gk,0,none⟩) (cp:=1) (.inr ⟨gk,0,rfl,fK.lt,fun j hj=>by
      have:j=0:=by simpa using hj
      subst this;exact fK.cell⟩) (fun _ g off e=>by cases e;exact .inr hbK) (by simp))
     have H2:=Z0 (And.intro hP2 (And.intro hB2 (And.intro hO2 (And.intro hQ2 qK))));have cG0:=qK.cell (show W2.cell? ⟨gb,0,none⟩=_ from HB6.out) z0;clear hP2 hB2 hO2 hQ2 fK hbK;go_wp2_with fail;(try rw[hW2]);(try rw[hgk]);(try rw[hWK]);clear d0 d1 d2 d3 d4 d5 df df2 e0 e1 e2 e3 e4 e5 e6 e7 e8 cA cB cC cP cT cTf cD cDf cM c0 c1 c2 c3 c4;clear hW2 hWK hgk;refine HKe.out.mono ?_;rintro e V1 ⟨rfl,P1,q1⟩;obtain⟨x1,x2,x3,x4,x5⟩:=H2.out;have x2':=((x2.kept HG.out x5 z0).kept HG.out q1 (.inr (by have:=HG.out.1;omega)))
     have hB3:=x2'.setD HG.out;have q2:Out gd (gd+1) V1 (V1.setCell ⟨gd,0,none⟩ (.bool true)):=(Out.refl _ _ _).setCell (p:=⟨gd,0,none⟩) z1 _;have hP3:=P1.far q2 (by have:=HG.out.1;omega) (fun k hk=>HG.out.2 k (by have:=HG.out.1;omega));have hO3:=((x3.trans (x5.any _ _)).trans q1).past q2 (by have:=HG.out.1;omega);have hQ3:Out 0 (gd+1) W (V1.setCell ⟨gd,0,none⟩ (.bool true)):=((x4.trans (x5.any _ _)).trans (q1.wide (Nat.zero_le _) (by have:=HG.out.1;omega))).trans (q2.wide (Nat.zero_le _) (Nat.le_refl _));have HCh:Hid ((((t+1:Nat):Int)<Bv->kpE n st [(k:Int)]=st0)/\(kpE n st [(k:Int)]).last<=st0.last+1):=⟨fun e=>by have:=hB.out;omega,by rw[q6w,Hst.out.2 (by have:=hB.out;omega)];omega⟩
     obtain⟨k0,k1⟩:=(And.intro x2'.hd.cell x2'.hd.frozen)
     have cG:=q1.cell cG0 (.inr (by have:=HB5.out.2;have:=HG.out.1;omega));obtain⟨V3,hV3⟩:∃ V3,V1.setCell ⟨gd,0,none⟩ (.bool true)=V3:=⟨_,rfl⟩
     rw[hV3] at hP3 hB3 hO3 hQ3;have cG3:V3.cell? ⟨gb,0,none⟩=some (.int .i64 (k:Int)):=by rw[<-hV3];exact q2.cell cG (.inr (by have:=HB5.out.2;omega))
     have cT:=hB3.ht.cell;obtain⟨_,_,cA,cB,cC,_⟩:=Y8 hB3.ho;have cP:=hB3.hp.cell;clear P1 q1 x1 x2 x3 x4 x5 x2' q2 HKe H2 cG0;have HAf:=x2h (hP3.two) (a:=k+1) (by have:=HK.out;omega) (x:=(k:Int)) (by omega);unfold q6a at HAf;obtain⟨v0,hv0⟩:∃ v,afA n (kpE n st [(k:Int)]) (k+1)=v:=⟨_,rfl⟩
     obtain⟨v1,hv1⟩:∃ v,afO n (kpE n st [(k:Int)]) (k+1)=v:=⟨_,rfl⟩
     obtain⟨v2,hv2⟩:∃ v,afM n (kpE n st [(k:Int)]) (k+1)=v:=⟨_,rfl⟩
     obtain⟨u1,u2,u3,u4⟩:=v1;rw[hv0,hv1,hv2] at HAf;have HAf:=Z0 HAf;have HF:=Z0 (And.intro hP3 (And.intro hO3 (And.intro hB3 (And.intro hQ3 (And.intro hv0 (And.intro hv1 (And.intro hv2 HCh.out)))))));clear hP3 hB3 hO3 hQ3 hv0 hv1 hv2;go_wp2_with fail;(try rw[hV3]);clear k0 k1 cT cA cB cC cP cG cG3 hV3;refine HAf.out.mono ?_;rintro e V9 ⟨rfl,q9⟩;obtain⟨f1,f2,f3,f4,f5,f6,f7,f8⟩:=HF.out;have f3':=f3.kept HG.out q9 z0;obtain⟨m0,m1,m2,m3,m4,mf⟩:=x3f f3'.hw;have n0:=f3'.hm.cell;have n1:=f3'.hm.frozen;obtain⟨_,_,r2,_,_,_⟩:=Y8 f3'.ho;have r5:=f3'.ht.cell;have HE:=Z0 (x2j HG.out f1 f2 f3' f4 q9 f8 HT1.out HK.out HT.out f5 f6 f7);have hne1:gm ≠ gw:=by have:=HG.out.1;omega
     have hne2:go ≠ gw:=by have:=HG.out.1;omega
     have hne3:go ≠ gm:=by have:=HG.out.1;omega
     have hne4:gt ≠ gw:=by have:=HG.out.1;omega
     have hne5:gt ≠ gm:=by have:=HG.out.1;omega
     have hne6:=hne1.symm;have hne7:=hne2.symm;have hne8:=hne3.symm;have hne9:=hne4.symm;have hne10:=hne5.symm;clear f1 f2 f3 f4 f5 f6 f7 f8 f3' q9 HF HAf;have hA2:¬ A<1:=by omega
     by_cases hA3:T1<A
     ·go_wp2;go_ret;exact⟨⟨_,HE.out.1⟩,HE.out.2,by have:=HT1.out;rw[this];simp[hA3]⟩
     ·go_wp2;go_ret;exact⟨⟨_,HE.out.1⟩,HE.out.2,by have:=HT1.out;rw[this];simp[hA2,hA3]⟩
    ·have y11:(yc == 1)=false:=by simpa using y1c
     have HCq:Hid ((((t+1:Nat):Int)<Bv->st=st0)/\st.last<=st0.last+1):=⟨fun e=>by have:=hB.out;omega,Hst.out.1⟩
     have HAf:=x2h (hP2.two) (a:=k+1) (by have:=HK.out;omega) (x:=(k:Int)) (by omega);unfold q6a at HAf;obtain⟨v0,hv0⟩:∃ v,afA n st (k+1)=v:=⟨_,rfl⟩
     obtain⟨v1,hv1⟩:∃ v,afO n st (k+1)=v:=⟨_,rfl⟩
     obtain⟨v2,hv2⟩:∃ v,afM n st (k+1)=v:=⟨_,rfl⟩
     obtain⟨u1,u2,u3,u4⟩:=v1;rw[hv0,hv1,hv2] at HAf;have HAf:=Z0 HAf;have HF:=Z0 (And.intro hP2 (And.intro hO2 (And.intro hB2 (And.intro hQ2 (And.intro hv0 (And.intro hv1 (And.intro hv2 HCq.out)))))));clear hP2 hB2 hO2 hQ2 hv0 hv1 hv2;go_wp2_with fail;(try rw[hW2]);clear d0 d1 d2 d3 d4 d5 df df2 e0 e1 e2 e3 e4 e5 e6 e7 e8 cA cB cC cP cT cTf cD cDf cM c0 c1 c2 c3 c4;clear hW2;refine HAf.out.mono ?_;rintro e V9 ⟨rfl,q9⟩;obtain⟨f1,f2,f3,f4,f5,f6,f7,f8⟩:=HF.out;have f3':=f3.kept HG.out q9 z0;obtain⟨m0,m1,m2,m3,m4,mf⟩:=x3f f3'.hw;have n0:=f3'.hm.cell;have n1:=f3'.hm.frozen;obtain⟨_,_,r2,_,_,_⟩:=Y8 f3'.ho;have r5:=f3'.ht.cell;have HE:=Z0 (x2j HG.out f1 f2 f3' f4 q9 f8 HT1.out HK.out HT.out f5 f6 f7);have hne1:gm ≠ gw:=by have:=HG.out.1;omega
     have hne2:go ≠ gw:=by have:=HG.out.1;omega
     have hne3:go ≠ gm:=by have:=HG.out.1;omega
     have hne4:gt ≠ gw:=by have:=HG.out.1;omega
     have hne5:gt ≠ gm:=by have:=HG.out.1;omega
     have hne6:=hne1.symm;have hne7:=hne2.symm;have hne8:=hne3.symm;have hne9:=hne4.symm;have hne10:=hne5.symm;clear f1 f2 f3 f4 f5 f6 f7 f8 f3' q9 HF HAf;have hA2:¬ A<1:=by omega
     by_cases hA3:T1<A
     ·go_wp2;go_ret;exact⟨⟨_,HE.out.1⟩,HE.out.2,by have:=HT1.out;rw[this];simp[hA3]⟩
     ·go_wp2;go_ret;exact⟨⟨_,HE.out.1⟩,HE.out.2,by have:=HT1.out;rw[this];simp[hA2,hA3]⟩
  ·have hBb:(T1 == Bv)=false:=by simpa using hB0
   have hB:Hid ((t:Int)+1 ≠ Bv):=fun e=>hB0 (hT1.symm.trans e)
   clear hB0;have HCq:Hid ((((t+1:Nat):Int)<Bv->st=st0)/\st.last<=st0.last+1):=⟨fun e=>Hst.out.2 (by have:=hB.out;omega),Hst.out.1⟩
   have HAf:=x2h (hP2.two) (a:=k+1) (by have:=HK.out;omega) (x:=(k:Int)) (by omega);unfold q6a at HAf;obtain⟨v0,hv0⟩:∃ v,afA n st (k+1)=v:=⟨_,rfl⟩
   obtain⟨v1,hv1⟩:∃ v,afO n st (k+1)=v:=⟨_,rfl⟩
   obtain⟨v2,hv2⟩:∃ v,afM n st (k+1)=v:=⟨_,rfl⟩
   obtain⟨u1,u2,u3,u4⟩:=v1;rw[hv0,hv1,hv2] at HAf;have HAf:=Z0 HAf;have HF:=Z0 (And.intro hP2 (And.intro hO2 (And.intro hB2 (And.intro hQ2 (And.intro hv0 (And.intro hv1 (And.intro hv2 HCq.out)))))));clear hP2 hB2 hO2 hQ2 hv0 hv1 hv2;go_wp2_with fail;(try rw[hW2]);clear d0 d1 d2 d3 d4 d5 df df2 e0 e1 e2 e3 e4 e5 e6 e7 e8 cA cB cC cP cT cTf cD cDf cM c0 c1 c2 c3 c4;clear hW2;refine HAf.out.mono ?_;rintro e V9 ⟨rfl,q9⟩;obtain⟨f1,f2,f3,f4,f5,f6,f7,f8⟩:=HF.out;have f3':=f3.kept HG.out q9 z0;obtain⟨m0,m1,m2,m3,m4,mf⟩:=x3f f3'.hw;have n0:=f3'.hm.cell;have n1:=f3'.hm.frozen;obtain⟨_,_,r2,_,_,_⟩:=Y8 f3'.ho;have r5:=f3'.ht.cell;have HE:=Z0 (x2j HG.out f1 f2 f3' f4 q9 f8 HT1.out HK.out HT.out f5 f6 f7);have hne1:gm ≠ gw:=by have:=HG.out.1;omega
   have hne2:go ≠ gw:=by have:=HG.out.1;omega
   have hne3:go ≠ gm:=by have:=HG.out.1;omega
   have hne4:gt ≠ gw:=by have:=HG.out.1;omega
   have hne5:gt ≠ gm:=by have:=HG.out.1;omega
   have hne6:=hne1.symm;have hne7:=hne2.symm;have hne8:=hne3.symm;have hne9:=hne4.symm;have hne10:=hne5.symm;clear f1 f2 f3 f4 f5 f6 f7 f8 f3' q9 HF HAf;have hA2:¬ A<1:=by omega
   by_cases hA3:T1<A
   ·go_wp2;go_ret;exact⟨⟨_,HE.out.1⟩,HE.out.2,by have:=HT1.out;rw[this];simp[hA3]⟩
   ·go_wp2;go_ret;exact⟨⟨_,HE.out.1⟩,HE.out.2,by have:=HT1.out;rw[this];simp[hA2,hA3]⟩
end
end Go.Proofs.YtjbbkeoolodeaabGreatDoor
