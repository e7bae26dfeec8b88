import Derived.Test.YtjbbkeoolodeaabGreatDoorB16
namespace Go.Proofs.YtjbbkeoolodeaabGreatDoor
open Go.RowKit
set_option linter.unusedVariables false
set_option maxRecDepth 100000
set_option maxHeartbeats 16000000
set_option linter.unusedSimpArgs false
def plF (q:Nat) (tb:Value) (fr fs:Nat->Int):Nat->Value:=fun i=>if i=0 then .pointer (some ⟨q,0,none⟩) else if i=1 then tb else if i<10 then .int .i64 (fr (i-2)) else .int .i64 (fs (i-10))
def TbAt (w:World) (B G n:Nat) (S T:Nat->Int × Int × Int) (tb:Value):Prop:=
 (tb=.pointer none/\T=S)\/∃ b bw,tb=.pointer (some ⟨b,0,none⟩)/\TblAt 132 w b bw n T/\B<=b/\B<=bw/\b ≠ G/\bw ≠ G
theorem U0 {w:World} {G q:Nat} {tb:Value} {fr fs:Nat->Int} (h:Row w G 115 18 (plF q tb fr fs)) :
  w.cell? ⟨G,0,none⟩=some (.pointer (some ⟨q,0,none⟩))/\w.cell? ⟨G,1,none⟩=some tb/\(∀ c,c<8->w.cell? ⟨G,2+c,none⟩=some (.int .i64 (fr c)))/\(∀ c,c<8->w.cell? ⟨G,10+c,none⟩=some (.int .i64 (fs c))):=by
 refine⟨h.cell (by omega),h.cell (by omega),fun c hc=>?_,fun c hc=>?_⟩
 ·rw[h.cell (i:=2+c) (by omega)];unfold plF;rw[if_neg (by omega),if_neg (by omega),if_pos (by omega),show 2+c-2=c from by omega]
 ·rw[h.cell (i:=10+c) (by omega)];unfold plF;rw[if_neg (by omega),if_neg (by omega),if_neg (by omega),show 10+c-10=c from by omega]
theorem j4r {w:World} {G q:Nat} {tb:Value} {fr fs:Nat->Int} (h:Row w G 115 18 (plF q tb fr fs)) (v:Value):Row (w.setCell ⟨G,1,none⟩ v) G 115 18 (plF q v fr fs):=
 (h.set 1 v).congr fun i hi=>by
  unfold plF;by_cases e:i=1
  ·subst e;rfl
  ·rw[if_neg e,if_neg e,if_neg e]
section
variable {w:World} {lo hi n cap:Nat} {s:Nat->Nat} {r:Raw}
theorem z4c (h:RawAt w lo hi s n cap r) {B G:Nat} {T:Nat->Int × Int × Int} {tb:Value} {fr fs:Nat->Int} (hB:hi<=B) (hG:B<=G) (hp:Row w G 115 18 (plF (s 14) tb fr fs)) (ht:TbAt w B G n r.S T tb) :
  Calls Tryz.prog 122 #[.pointer (some ⟨G,0,none⟩)] w fun e w'=>∃ b bw,e=.returned (.pointer (some ⟨b,0,none⟩))/\TblAt 132 w' b bw n T/\B<=b/\B<=bw/\b ≠ G/\bw ≠ G/\Row w' G 115 18 (plF (s 14) (.pointer (some ⟨b,0,none⟩)) fr fs)/\Out G (G+1) w w':=by
 have hlt:=Row.lt hp;have hw4:=h.tab.lt;rcases ht with ⟨rfl,rfl⟩ | ⟨b,bw,rfl,hT,h1,h2,h3,h4⟩
 ·have HC:=Z0 (j6b h.tbl hw4);obtain⟨p0,p1,_,_⟩:=U0 hp;obtain⟨d0,d1,d2,d3,d4,d5⟩:=h.cells;have HP:=Z0 hp;have HD:Hid (hi<=B/\B<=G/\G<w.heap.size):=⟨hB,hG,hlt⟩
  clear hp h hB hG hlt hw4;go_enter Tryz.func122,Tryz.ntmps122
  go_wp2_with (go_at_call 151;refine HC.out.mono ?_;rintro e w2 ⟨b,bw,rfl,hT,hb1,hb2,ho⟩;have HT:=Z0 hT;have HB:Hid (w.heap.size<=b/\w.heap.size<=bw):=⟨hb1,hb2⟩;have HO:=Z0 ho;have HP2:=Z0 (HP.out.kept ho z0);obtain⟨q0,q1,_,_⟩:=U0 HP2.out;have fz:=Row.frozen HP2.out 1;clear hT hb1 hb2 ho p0 p1 d0 d1 d2 d3 d4 d5);go_ret;have hset:=(Out.refl G (G+1) w2).setCell (p:=⟨G,1,none⟩) z1 (.pointer (some ⟨b,0,none⟩));have hd:=HD.out;have hb:=HB.out;exact⟨b,bw,rfl,HT.out.kept hset (by omega) (by omega),by omega,by omega,by omega,by omega,j4r HP2.out _,(HO.out.any G (G+1)).trans hset⟩
 ·obtain⟨p0,p1,_,_⟩:=U0 hp;have HP:=Z0 hp;have HT:=Z0 hT;have HD:Hid (B<=b/\B<=bw/\b ≠ G/\bw ≠ G):=⟨h1,h2,h3,h4⟩
  clear hp hT h1 h2 h3 h4;go_enter Tryz.func122,Tryz.ntmps122
  go_wp2;go_ret;exact⟨b,bw,rfl,HT.out,HD.out.1,HD.out.2.1,HD.out.2.2.1,HD.out.2.2.2,HP.out,Out.refl _ _ _⟩
end
def z3k (f:Nat->Int) (c:Nat) (v:Int):Nat->Int:=fun i=>if i=c then v else f i
def plB (n:Nat) (r:Raw) (T:Nat->Int × Int × Int) (fr fs:Nat->Int) (c:Nat):Bool × (Nat->Int × Int × Int) × (Nat->Int) × (Nat->Int):=
 if 0<fs c then (true,T,fr,z3k fs c (fs c-1))
 else if 0<=nxr (r.F c) (64*n) (fr c).toNat then (true,T,z3k fr c (nxr (r.F c) (64*n) (fr c).toNat+1),fs)
 else if tcE T n (c:Int)=0 then (true,tcS T n (c:Int),fr,z3k fs c (J6 (c:Int)-1))
 else (false,tcS T n (c:Int),fr,fs)
theorem q6f {w:World} {G q:Nat} {tb:Value} {fr fs:Nat->Int} (h:Row w G 115 18 (plF q tb fr fs)) {c:Nat} (hc:c<8) (v:Int):Row (w.setCell ⟨G,10+c,none⟩ (.int .i64 v)) G 115 18 (plF q tb fr (z3k fs c v)):=
 (h.set (10+c) _).congr fun i hi=>by
  unfold plF z3k;by_cases e:i=10+c
  ·rw[if_pos e,if_neg (by omega),if_neg (by omega),if_neg (by omega),if_pos (by omega)]
  ·rw[if_neg e];by_cases e0:i=0
   ·rw[if_pos e0,if_pos e0]
   ·rw[if_neg e0,if_neg e0];by_cases e1:i=1
    ·rw[if_pos e1,if_pos e1]
    ·rw[if_neg e1,if_neg e1];by_cases e2:i<10
     ·rw[if_pos e2,if_pos e2]
     ·rw[if_neg e2,if_neg e2,if_neg (by omega)]
theorem j3t {w:World} {G q:Nat} {tb:Value} {fr fs:Nat->Int} (h:Row w G 115 18 (plF q tb fr fs)) {c:Nat} (hc:c<8) (v:Int):Row (w.setCell ⟨G,2+c,none⟩ (.int .i64 v)) G 115 18 (plF q tb (z3k fr c v) fs):=
 (h.set (2+c) _).congr fun i hi=>by
  unfold plF z3k;by_cases e:i=2+c
  ·rw[if_pos e,if_neg (by omega),if_neg (by omega),if_pos (by omega),if_pos (by omega)]
  ·rw[if_neg e];by_cases e0:i=0
   ·rw[if_pos e0,if_pos e0]
   ·rw[if_neg e0,if_neg e0];by_cases e1:i=1
    ·rw[if_pos e1,if_pos e1]
    ·rw[if_neg e1,if_neg e1];by_cases e2:i<10
     ·rw[if_pos e2,if_pos e2,if_neg (by omega)]
     ·rw[if_neg e2,if_neg e2]
section
variable {w:World} {lo hi n cap:Nat} {s:Nat->Nat} {r:Raw} {B G:Nat} {T:Nat->Int × Int × Int} {tb:Value} {fr fs:Nat->Int}
theorem j0n (hp:Row w G 115 18 (plF (s 14) tb fr fs)) {c:Nat} (hc:c<8) (hf:0<fs c) (hf2:fs c<=32) :
  Calls Tryz.prog 124 #[.pointer (some ⟨G,0,none⟩),.int .i64 (c:Int)] w fun e w'=>e=.returned (.bool true)/\Row w' G 115 18 (plF (s 14) tb fr (z3k fs c (fs c-1)))/\Out G (G+1) w w':=by
 have hpd:=hp.kept ((Out.refl 0 0 w).drew) z0;have p3:=(U0 hp).2.2.2 c hc;have p4:=(U0 hpd).2.2.2 c hc;have fz:=Row.frozen hpd (10+c);have k0:(0:Int)<=(c:Int):=by omega
 have k1:(c:Int)<8:=by omega
 have HP:=Z0 hp;have HC:=Z0 hc;obtain⟨x,hx⟩:∃ x,fs c=x:=⟨_,rfl⟩
 rw[hx] at p3 p4 hf hf2 ⊢;have HWR:Hid (IntKind.i64.wrap (x-1)=x-1):=by show _=_;simp[IntKind.wrap,IntKind.signed,IntKind.bits];omega
 clear hp hpd hc hx;go_enter Tryz.func124,Tryz.ntmps124
 go_wp2_with fail;refine wp_region_held_drew (S:=fun _=>True) (by kernel_rfl) ?hS1 (fun hHeld=>?rest1)
 case hS1=>trivial
 refine tk 0 ?_;refine tk 1 ?_;refine tk 2 ?_;refine tk 3 ?_;refine tk 4 ?_;refine tk 7 ?_;refine tk 8 ?_;refine rd1 5 fun KK hK=>?_
 simp only[xa,xb,xc];go_simp;refine hK.out _ _ ?hS9 (fun hHeld2=>?rest9)
 case hS9=>trivial
 clear hK KK;replace hHeld:=hHeld2;clear hHeld2;refine tk 6 ?_;refine tk 9 ?_;refine rd1 10 fun KK hK=>?_
 simp only[xa,xb,xc];go_simp;refine hK.out _ _ ?hS12 (fun hHeld2=>?rest12)
 case hS12=>trivial
 clear hK KK;replace hHeld:=hHeld2;clear hHeld2;refine dn ?_;clear hHeld;go_wp2;go_ret;rw[HWR.out];exact⟨rfl,(q6f HP.out HC.out _).kept ((Out.refl 0 0 _).drew) z0,((Out.refl G (G+1) w).setCell z1 _).trans (((Out.refl 0 0 _).drew).any _ _)⟩
theorem TbAt.quiet {w w':World} {B G n:Nat} {S T:Nat->Int × Int × Int} {tb:Value} (h:TbAt w B G n S T tb) (o:Out 0 0 w w'):TbAt w' B G n S T tb:=by
 rcases h with h | ⟨b,bw,h1,h2,h3⟩
 ·exact .inl h
 ·exact .inr ⟨b,bw,h1,h2.kept o z0 z0,h3⟩
theorem j5o (h:RawAt w lo hi s n cap r) (hp:Row w G 115 18 (plF (s 14) tb fr fs)) {c y m:Nat} (hc:c<8) (hf:fs c<=0) (hy:fr c=((y:Nat):Int)) (hm:nxr (r.F c) (64*n) y=((m:Nat):Int)) (hmn:m<64*n) :
  Calls Tryz.prog 124 #[.pointer (some ⟨G,0,none⟩),.int .i64 (c:Int)] w fun e w'=>e=.returned (.bool true)/\Row w' G 115 18 (plF (s 14) tb (z3k fr c ((m:Int)+1)) fs)/\Out G (G+1) w w':=by
 have hpd:=hp.kept ((Out.refl 0 0 w).drew) z0;have hrd:=h.quiet ((Out.refl 0 0 w).drew);have p3:=(U0 hp).2.2.2 c hc;have p2:=(U0 hpd).2.2.1 c hc;have p0:=(U0 hpd).1;have dF:=hrd.cellF hc;have HNx:=Z0 (z2a (hrd.free c hc) (y:Int));rw[show ((y:Int)).toNat=y from by omega,hm] at HNx;have k0:(0:Int)<=(c:Int):=by omega
 have k1:(c:Int)<8:=by omega
 have HM1:Hid (m<64*n/\n<=4096):=⟨hmn,h.n2⟩
 have HP:=Z0 hpd;have HC:=Z0 hc;rw[hy] at p2;obtain⟨x,hx⟩:∃ x,fs c=x:=⟨_,rfl⟩
 rw[hx] at p3 hf;obtain⟨z,hz⟩:∃ z:Int,(m:Int)+1=z:=⟨_,rfl⟩
 rw[hz];have HZ:=Z0 hz;clear hp hpd hc hx hrd h hm hmn hy hz;go_enter Tryz.func124,Tryz.ntmps124
 go_wp2_with fail;refine wp_region_held_drew (S:=fun w'=>w'.cell? ⟨G,0,none⟩=some (.pointer (some ⟨s 14,0,none⟩))/\w'.cell? ⟨s 14,4+c,none⟩=some (.pointer (some ⟨s c+1,0,none⟩))/\w'.cell? ⟨G,2+c,none⟩=some (.int .i64 (y:Int))) (by kernel_rfl) ?hS13 (fun hHeld=>?rest13)
 case hS13=>exact⟨p0,dF,p2⟩
 refine tk 0 ?_;refine tk 1 ?_;refine tk 2 ?_;refine tk 3 ?_;refine tk 4 ?_;refine tk 5 ?_;refine tk 6 ?_;refine tk 7 ?_;refine tk 8 ?_;refine tk 9 ?_;refine tk 10 ?_;refine tk 11 ?_;refine tk 12 ?_;refine tk 13 ?_;refine tk 14 ?_;refine rd1 15 fun KK hK=>?_
 simp only[xa,xb,xc];go_simp;refine(HNx.out).mono ?_;rintro e w4 ⟨rfl,hoo⟩;refine hK.out _ _ ?hS29 (fun hHeld2=>?rest29)
 case hS29=>exact⟨hoo.cell hHeld.1 z0,hoo.cell hHeld.2.1 z0,hoo.cell hHeld.2.2 z0⟩
 clear hK KK;replace hHeld:=hHeld2;clear hHeld2;refine tk 16 ?_;refine dn ?_;clear hHeld;have HP4:=Z0 (HP.out.kept hoo z0);have e0:=(U0 HP4.out).2.2.1 c HC.out;have e1:=Row.frozen HP4.out (2+c);have HOO:=Z0 hoo;clear p0 p2 p3 dF hoo;have m0:(0:Int)<=(m:Int):=by omega
 have m1:(m:Int)<262144:=by have:=HM1.out;omega
 go_wp2;go_ret;rw[<-HZ.out];exact⟨rfl,j3t HP4.out HC.out _,((((Out.refl 0 0 w).drew).trans HOO.out).any G (G+1)).trans ((Out.refl G (G+1) w4).setCell z1 _)⟩
theorem j4s (h:RawAt w lo hi s n cap r) (hB:hi<=B) (hG:B<=G) (hp:Row w G 115 18 (plF (s 14) tb fr fs)) (ht:TbAt w B G n r.S T tb) {c y:Nat} (hc:c<8) (hf:fs c<=0) (hy:fr c=((y:Nat):Int)) (hm:nxr (r.F c) (64*n) y = -1) :
  Calls Tryz.prog 124 #[.pointer (some ⟨G,0,none⟩),.int .i64 (c:Int)] w fun e w'=>∃ tb',e=.returned (.bool (tcE T n (c:Int) == 0))/\Row w' G 115 18 (plF (s 14) tb' fr (if tcE T n (c:Int)=0 then z3k fs c (J6 (c:Int)-1) else fs))/\TbAt w' B G n r.S (tcS T n (c:Int)) tb'/\Out B w'.heap.size w w':=by
 have hpd:=hp.kept ((Out.refl 0 0 w).drew) z0;have hrd:=h.quiet ((Out.refl 0 0 w).drew);have p3:=(U0 hp).2.2.2 c hc;have p2:=(U0 hpd).2.2.1 c hc;have p0:=(U0 hpd).1;have dF:=hrd.cellF hc;have HNx:=Z0 (z2a (hrd.free c hc) (y:Int));rw[show ((y:Int)).toNat=y from by omega,hm] at HNx;have k0:(0:Int)<=(c:Int):=by omega
 have k1:(c:Int)<8:=by omega
 have HP:=Z0 hpd;have HR:=Z0 hrd;have HTb:=Z0 (ht.quiet ((Out.refl 0 0 w).drew));have HC:=Z0 hc;have HD:Hid (hi<=B/\B<=G/\4<=lo/\lo<=hi):=⟨hB,hG,h.glob,by have:=h.inn 14 (by omega);simp[ln] at this;omega⟩
 rw[hy] at p2;have HY:=Z0 hy;obtain⟨x,hx⟩:∃ x,fs c=x:=⟨_,rfl⟩
 rw[hx] at p3 hf;obtain⟨bv,hbv,hbl⟩:∃ bv:Nat,J6 (c:Int)=bv/\bv<=32/\1<=bv:=by obtain⟨x',y',h1,h2,h3,h4⟩:=z0c hc;exact⟨y',h3,by omega,by omega⟩
 have HBl:=Z0 (fun w'=>U5 (z5e (c:Int) w') (Out.refl 0 0 w'));rw[hbv] at HBl ⊢;have b0:(1:Int)<=(bv:Int):=by omega
 have b1:(bv:Int)<=32:=by omega
 obtain⟨E,hE⟩:∃ E,tcE T n (c:Int)=E:=⟨_,rfl⟩
 have HE:=Z0 hE;rw[hE];clear hp hpd hc hx hrd h hm hy ht hB hG hbv hbl hE;go_enter Tryz.func124,Tryz.ntmps124
 go_wp2_with fail;refine wp_region_held_drew (S:=fun w'=>w'.cell? ⟨G,0,none⟩=some (.pointer (some ⟨s 14,0,none⟩))/\w'.cell? ⟨s 14,4+c,none⟩=some (.pointer (some ⟨s c+1,0,none⟩))/\w'.cell? ⟨G,2+c,none⟩=some (.int .i64 (y:Int))) (by kernel_rfl) ?hS31 (fun hHeld=>?rest31)
 case hS31=>exact⟨p0,dF,p2⟩
 refine tk 0 ?_;refine tk 1 ?_;refine tk 2 ?_;refine tk 3 ?_;refine tk 4 ?_;refine tk 5 ?_;refine tk 6 ?_;refine tk 7 ?_;refine tk 8 ?_;refine tk 9 ?_;refine tk 10 ?_;refine tk 11 ?_;refine tk 12 ?_;refine tk 13 ?_;refine tk 14 ?_;refine rd1 15 fun KK hK=>?_
 simp only[xa,xb,xc];go_simp;refine(HNx.out).mono ?_;rintro e w4 ⟨rfl,hoo⟩;refine hK.out _ _ ?hS47 (fun hHeld2=>?rest47)
 case hS47=>exact⟨hoo.cell hHeld.1 z0,hoo.cell hHeld.2.1 z0,hoo.cell hHeld.2.2 z0⟩
 clear hK KK;replace hHeld:=hHeld2;clear hHeld2;refine tk 16 ?_;refine dn ?_;clear hHeld;have HP4:=Z0 (HP.out.kept hoo z0);have HR4:=Z0 (HR.out.quiet hoo);have HPg:=Z0 (z4c (HR.out.quiet hoo) HD.out.1 HD.out.2.1 HP4.out (HTb.out.quiet hoo));have HOO:=Z0 (((Out.refl 0 0 w).drew).trans hoo);clear p0 p2 p3 dF hoo;by_cases hE0:E=0
 ·subst hE0;go_wp2_with (first
   | (go_at_call 122;refine HPg.out.mono ?_;rintro e w5 ⟨b,bw,rfl,hT5,h51,h52,h53,h54,hp5,ho5⟩;have HT5:=Z0 hT5;have HB5:Hid (B<=b/\B<=bw/\b ≠ G/\bw ≠ G):=⟨h51,h52,h53,h54⟩;have HP5:=Z0 hp5;have HR5:=Z0 (HR4.out.kept ho5 (.inl (by have:=HD.out;omega)) (.inl (by have:=HD.out;omega)));have HO5:=Z0 ho5;clear hT5 h51 h52 h53 h54 hp5 ho5)
   | (go_at_call 154;refine(z2b HT5.out HR5.out.tab (c:Int)).mono ?_;rintro e w6 ⟨rfl,hT6,ho6⟩;have HT6:=Z0 hT6;have HO6:=Z0 ho6;have HP6:=Z0 (HP5.out.kept ho6 (by have:=HB5.out;omega));rw[HE.out];clear hT6 ho6))
  have HWB:Hid (IntKind.i64.wrap ((bv:Int)-1)=(bv:Int)-1):=by show _=_;simp[IntKind.wrap,IntKind.signed,IntKind.bits];omega
  refine wp_region_held_drew (S:=fun _=>True) (by kernel_rfl) ?hS49 (fun hHeld=>?rest49)
  case hS49=>trivial
  refine tk 0 ?_;refine tk 1 ?_;refine tk 2 ?_;refine tk 5 ?_;refine tk 6 ?_;refine rd1 3 fun KK hK=>?_
  simp only[xa,xb,xc];go_simp;refine(HBl.out _).mono ?_;rintro e w7 ⟨rfl,ho7⟩;have HP7:=Z0 (HP6.out.kept (((Out.refl 0 0 _).drew).trans ho7) z0);have e0:=(U0 HP7.out).2.2.2 c HC.out;have e1:=Row.frozen HP7.out (10+c);have HO7:=Z0 ho7;clear ho7;refine hK.out _ _ ?hS55 (fun hHeld2=>?rest55)
  case hS55=>trivial
  clear hK KK;replace hHeld:=hHeld2;clear hHeld2;refine tk 4 ?_;refine tk 7 ?_;refine rd1 8 fun KK hK=>?_
  simp only[xa,xb,xc];go_simp;refine hK.out _ _ ?hS58 (fun hHeld2=>?rest58)
  case hS58=>trivial
  clear hK KK;replace hHeld:=hHeld2;clear hHeld2;refine dn ?_;clear hHeld;go_wp2;go_ret;(try rw[HWB.out]);have hset:=(Out.refl G (G+1) w7).setCell (p:=⟨G,10+c,none⟩) z1 (.int .i64 ((bv:Int)-1));have hd:=HD.out;have hb:=HB5.out;have ho7:Out 0 0 w6 w7:=((Out.refl 0 0 w6).drew).trans HO7.out;have z5:=Row.lt HP5.out;have z6:=HO6.out.size;have z7:=ho7.size;have z8:=hset.size;have zb:=Row.lt HT6.out.row;refine⟨K8 (by simp),_,q6f HP7.out HC.out _,.inr ⟨b,bw,rfl,(HT6.out.kept ho7 z0 z0).kept hset (by omega) (by omega),by omega,by omega,by omega,by omega⟩,?_⟩;exact((((HOO.out.any _ _).trans (HO5.out.wide (by omega) (by omega))).trans (HO6.out.wide (by omega) (by omega))).trans (ho7.any _ _)).trans (hset.wide (by omega) (by omega))
 ·go_wp2_with (first
   | (go_at_call 122;refine HPg.out.mono ?_;rintro e w5 ⟨b,bw,rfl,hT5,h51,h52,h53,h54,hp5,ho5⟩;have HT5:=Z0 hT5;have HB5:Hid (B<=b/\B<=bw/\b ≠ G/\bw ≠ G):=⟨h51,h52,h53,h54⟩;have HP5:=Z0 hp5;have HR5:=Z0 (HR4.out.kept ho5 (.inl (by have:=HD.out;omega)) (.inl (by have:=HD.out;omega)));have HO5:=Z0 ho5;clear hT5 h51 h52 h53 h54 hp5 ho5)
   | (go_at_call 154;refine(z2b HT5.out HR5.out.tab (c:Int)).mono ?_;rintro e w6 ⟨rfl,hT6,ho6⟩;have HT6:=Z0 hT6;have HO6:=Z0 ho6;have HP6:=Z0 (HP5.out.kept ho6 (by have:=HB5.out;omega));rw[HE.out];clear hT6 ho6))
  go_ret;have hd:=HD.out;have hb:=HB5.out;have z5:=Row.lt HP5.out;have z6:=HO6.out.size;have zb:=Row.lt HT6.out.row;refine⟨K8 (by simp[hE0]),_,HP6.out,.inr ⟨b,bw,rfl,HT6.out,by omega,by omega,by omega,by omega⟩,?_⟩;exact((HOO.out.any _ _).trans (HO5.out.wide (by omega) (by omega))).trans (HO6.out.wide (by omega) (by omega))
end
theorem TbAt.kept {w w':World} {B G n:Nat} {S T:Nat->Int × Int × Int} {tb:Value} (h:TbAt w B G n S T tb) (o:Out G (G+1) w w'):TbAt w' B G n S T tb:=by
 rcases h with h | ⟨b,bw,h1,h2,h3,h4,h5,h6⟩
 ·exact .inl h
 ·exact .inr ⟨b,bw,h1,h2.kept o (by omega) (by omega),h3,h4,h5,h6⟩
structure PlOk (n:Nat) (fr fs:Nat->Int):Prop where
 fr:∀ c,c<8->0<=fr c/\fr c<=64*(n:Int)
 fs:∀ c,c<8->0<=fs c/\fs c<=32
section
variable {w:World} {lo hi n cap:Nat} {s:Nat->Nat} {r:Raw} {B G:Nat} {T:Nat->Int × Int × Int} {tb:Value} {fr fs:Nat->Int}
theorem z9y (h:RawAt w lo hi s n cap r) (hB:hi<=B) (hG:B<=G) (hp:Row w G 115 18 (plF (s 14) tb fr fs)) (ht:TbAt w B G n r.S T tb) (hk:PlOk n fr fs) {c:Nat} (hc:c<8) :
  Calls Tryz.prog 124 #[.pointer (some ⟨G,0,none⟩),.int .i64 (c:Int)] w fun e w'=>∃ tb',e=.returned (.bool (plB n r T fr fs c).1)/\Row w' G 115 18 (plF (s 14) tb' (plB n r T fr fs c).2.2.1 (plB n r T fr fs c).2.2.2)/\TbAt w' B G n r.S (plB n r T fr fs c).2.1 tb'/\Out B w'.heap.size w w':=by
 have hf:=hk.fs c hc;obtain⟨y,hy⟩:∃ y:Nat,fr c=(y:Int):=⟨(fr c).toNat,by have:=hk.fr c hc;omega⟩
 have hGl:=Row.lt hp;unfold plB;by_cases h1:0<fs c
 ·rw[if_pos h1];refine(j0n hp hc h1 hf.2).mono ?_;rintro e w' ⟨rfl,h2,h3⟩;exact⟨tb,rfl,h2,ht.kept h3,h3.wide hG (by have:=h3.size;omega)⟩
 ·rw[if_neg h1];rw[hy,show ((y:Int)).toNat=y from by omega];rcases Q1 (r.F c) (64*n) y with ⟨e1,_⟩ | ⟨m,e1,e2,_⟩
  ·rw[e1,if_neg (by omega)];refine(j4s h hB hG hp ht hc (by omega) hy e1).mono ?_;rintro e w' ⟨tb',rfl,h2,h3,h4⟩;by_cases h5:tcE T n (c:Int)=0
   ·rw[if_pos h5] at h2 ⊢;rw[h5];exact⟨tb',rfl,h2,h3,h4⟩
   ·rw[if_neg h5] at h2 ⊢;exact⟨tb',by rw[show (tcE T n (c:Int) == 0)=false from by simpa using h5],h2,h3,h4⟩
  ·rw[e1,if_pos (by omega)];refine(j5o h hp hc (by omega) hy e1 e2).mono ?_;rintro e w' ⟨rfl,h2,h3⟩;exact⟨tb,rfl,h2,ht.kept h3,h3.wide hG (by have:=h3.size;omega)⟩
def plT (n:Nat) (r:Raw) (T:Nat->Int × Int × Int) (fr fs:Nat->Int) (z:Int):Bool × (Nat->Int × Int × Int) × (Nat->Int) × (Nat->Int):=
 if 0<J4 z then (trE T n (J4 z) == 0,trS T n (J4 z),fr,fs)
 else if 0<=ofV z then plB n r T fr fs (ofV z).toNat
 else (false,T,fr,fs)
theorem j4c (z:Int) (hp:¬ 0<J4 z) (h:0<=ofV z):∃ c:Nat,ofV z=(c:Int)/\c<8:=by
 have hz:z<=32\/1024<z:=by
  by_cases hh:32<z/\z<=1024
  ·unfold J4 at hp;rw[if_pos hh] at hp;omega
  ·omega
 have:ofV z<=7:=by
  unfold ofV;repeat' split
  all_goals omega
 exact⟨(ofV z).toNat,by omega,by omega⟩
theorem q2f (h:RawAt w lo hi s n cap r) (hB:hi<=B) (hG:B<=G) (hp:Row w G 115 18 (plF (s 14) tb fr fs)) (ht:TbAt w B G n r.S T tb) (hk:PlOk n fr fs) (z:Int) :
  Calls Tryz.prog 71 #[.pointer (some ⟨G,0,none⟩),.int .i64 z] w fun e w'=>∃ tb',e=.returned (.bool (plT n r T fr fs z).1)/\Row w' G 115 18 (plF (s 14) tb' (plT n r T fr fs z).2.2.1 (plT n r T fr fs z).2.2.2)/\TbAt w' B G n r.S (plT n r T fr fs z).2.1 tb'/\Out B w'.heap.size w w':=by
 have HP:=Z0 hp;have HR:=Z0 h;have HTb:=Z0 ht;have HK:=Z0 hk;have HD:Hid (hi<=B/\B<=G/\4<=lo/\lo<=hi):=⟨hB,hG,h.glob,by have:=h.inn 14 (by omega);simp[ln] at this;omega⟩
 have HPz:=Z0 (U5 (z3x z w) (Out.refl 0 0 w));have HOf:=Z0 (fun w'=>U5 (q1c z w') (Out.refl 0 0 w'));unfold plT;clear h hB hG hp ht hk;by_cases h1:0<J4 z
 ·rw[if_pos h1];obtain⟨m,hm⟩:∃ m,J4 z=m:=⟨_,rfl⟩
  rw[hm] at h1 HPz ⊢;obtain⟨E,hE⟩:∃ E,trE T n m=E:=⟨_,rfl⟩
  have HE:=Z0 hE;rw[hE];clear hm hE;go_enter Tryz.func71,Tryz.ntmps71
  go_wp2_with (first
   | (go_at_call 95;refine HPz.out.mono ?_;rintro e w4 ⟨rfl,hoo⟩;have HP4:=Z0 (HP.out.kept hoo z0);have HR4:=Z0 (HR.out.quiet hoo);have HPg:=Z0 (z4c (HR.out.quiet hoo) HD.out.1 HD.out.2.1 HP4.out (HTb.out.quiet hoo));have HOO:=Z0 hoo;clear hoo)
   | (go_at_call 122;refine HPg.out.mono ?_;rintro e w5 ⟨b,bw,rfl,hT5,h51,h52,h53,h54,hp5,ho5⟩;have HT5:=Z0 hT5;have HB5:Hid (B<=b/\B<=bw/\b ≠ G/\bw ≠ G):=⟨h51,h52,h53,h54⟩;have HP5:=Z0 hp5;have HR5:=Z0 (HR4.out.kept ho5 (.inl (by have:=HD.out;omega)) (.inl (by have:=HD.out;omega)));have HO5:=Z0 ho5;clear hT5 h51 h52 h53 h54 hp5 ho5)
   | (go_at_call 123;refine(z7a HT5.out HR5.out.tab m).mono ?_;rintro e w6 ⟨rfl,hT6,ho6⟩;have HT6:=Z0 hT6;have HO6:=Z0 ho6;have HP6:=Z0 (HP5.out.kept ho6 (by have:=HB5.out;omega));rw[HE.out];clear hT6 ho6))
  go_ret;have hd:=HD.out;have hb:=HB5.out;have z5:=Row.lt HP5.out;have z6:=HO6.out.size;have zb:=Row.lt HT6.out.row;refine⟨_,?_,HP6.out,.inr ⟨b,bw,rfl,HT6.out,by omega,by omega,by omega,by omega⟩,?_⟩
  ·exact K8 rfl
  ·exact((HOO.out.any _ _).trans (HO5.out.wide (by omega) (by omega))).trans (HO6.out.wide (by omega) (by omega))
 ·rw[if_neg h1];obtain⟨m,hm⟩:∃ m,J4 z=m:=⟨_,rfl⟩
  have h1':m<=0:=by omega
  by_cases h2:0<=ofV z
  ·rw[if_pos h2];obtain⟨c,hc,hc8⟩:=j4c z h1 h2;rw[hc] at HOf ⊢;rw[show ((c:Int)).toNat=c from by omega];rw[hm] at HPz;have k0:(0:Int)<=(c:Int):=by omega
   have HC:=Z0 hc8;obtain⟨⟨ok,T',fr',fs'⟩,hq⟩:∃ q,plB n r T fr fs c=q:=⟨_,rfl⟩
   have HQ:=Z0 hq;rw[hq];clear h1 h2 hm hc hc8 hq;dsimp only;go_enter Tryz.func71,Tryz.ntmps71
   go_wp2_with (first
    | (go_at_call 95;refine HPz.out.mono ?_;rintro e w4 ⟨rfl,hoo⟩;have HOO:=Z0 hoo;clear hoo)
    | (go_at_call 98;refine(HOf.out _).mono ?_;rintro e w5 ⟨rfl,ho5⟩;have HO5:=Z0 (HOO.out.trans ho5);clear ho5;have HBk:=Z0 (z9y (HR.out.quiet HO5.out) HD.out.1 HD.out.2.1 (HP.out.kept HO5.out z0) (HTb.out.quiet HO5.out) HK.out HC.out);rw[HQ.out] at HBk)
    | (go_at_call 124;refine HBk.out.mono ?_;rintro e w6 ⟨tb',rfl,hp6,ht6,ho6⟩;have HP6:=Z0 hp6;have HT6:=Z0 ht6;have HO6:=Z0 ho6;clear hp6 ht6 ho6;dsimp only))
   go_ret;exact⟨_,rfl,HP6.out,HT6.out,(HO5.out.any _ _).trans HO6.out⟩
  ·rw[if_neg h2];obtain⟨o,ho⟩:∃ o,ofV z=o:=⟨_,rfl⟩
   rw[ho] at HOf h2;rw[hm] at HPz;have h2':o<0:=by omega
   clear h1 h2 hm ho;dsimp only;go_enter Tryz.func71,Tryz.ntmps71
   go_wp2_with (first
    | (go_at_call 95;refine HPz.out.mono ?_;rintro e w4 ⟨rfl,hoo⟩;have HOO:=Z0 hoo;clear hoo)
    | (go_at_call 98;refine(HOf.out _).mono ?_;rintro e w5 ⟨rfl,ho5⟩;have HO5:=Z0 (HOO.out.trans ho5);clear ho5))
   go_ret;exact⟨rfl,_,HP.out.kept HO5.out z0,HTb.out.quiet HO5.out,HO5.out.any _ _⟩
end
end Go.Proofs.YtjbbkeoolodeaabGreatDoor
