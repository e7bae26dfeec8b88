import Derived.Test.YtjbbkeoolodeaabGreatDoorB21
import Derived.Test.YtjbbkeoolodeaabGreatDoorB22
import Derived.Test.YtjbbkeoolodeaabGreatDoorB09
import Derived.Test.YtjbbkeoolodeaabGreatDoorB03
import Derived.Test.YtjbbkeoolodeaabGreatDoorB00
import Derived.Deep.DeepAppendRoom
namespace Go.Proofs.YtjbbkeoolodeaabGreatDoor
open Go.RowKit
set_option linter.unusedVariables false
set_option maxRecDepth 100000
set_option maxHeartbeats 16000000
set_option linter.unusedSimpArgs false
def ivs (l:List Int):List Value:=l.map fun x=>.int .i64 x
section
variable {w:World} {lo hi n cap:Nat} {s:Nat->Nat} {r:Raw}
def wrW (r:Raw) (a i v:Int):Nat->Int:=if z4v r a i=0 then z5b r.W (a+i).toNat v else r.W
theorem wrd0 {r:Raw} {n:Nat} {a i:Int} (hM:z5a n r) (h:z4v r a i=0):z3w r a=0/\∃ j:Nat,a+i=j/\j<64*n/\0<=a/\1<=i:=by
 unfold z4v at h;unfold z3w;cases hm:r.M a with
 | none=>rw[hm] at h;simp at h
 | some b=>
  rw[hm] at h;simp only at h ⊢;obtain⟨m1,m2,m3,m4⟩:=hM a b hm;by_cases hv:r.W a.toNat=X9 a b.1 b.2.1
  ·rw[if_pos hv] at h ⊢;by_cases hi:i<1\/b.2.1<=i
   ·rw[if_pos hi] at h;omega
   ·exact⟨rfl,(a+i).toNat,by omega,by omega,m1,by omega⟩
  ·rw[if_neg hv] at h;omega
theorem j0j (h:RawAt w lo hi s n cap r) (hM:z5a n r) (a i v:Int):Calls Tryz.prog 19 #[.pointer (some ⟨s 14,0,none⟩),.int .i64 a,.int .i64 i,.int .i64 v] w fun e w'=>e=.returned (z3l (z4v r a i) (z3w r a))/\RawAt w' lo hi s n cap { r with W:=wrW r a i v }/\Out lo hi w w':=by
 have h0:Out 0 0 w (w.alloc (.cells #[.int .i64 0,.int .i64 0] 39)):=(Out.refl 0 0 w).alloc _;have hz:(w.alloc (.cells #[.int .i64 0,.int .i64 0] 39)).heap[w.heap.size]? = some (.cells #[.int .i64 0,.int .i64 0] 39 (0,0)):=heap_alloc_new _ _;have HZ:=Z0 hz;have H0:=Z0 h0;have HR:=Z0 (fun w' (o:Out 0 0 w w')=>h.quiet o);have HT:Hid (hi<=w.heap.size):=h.top;have HC:=Z0 (z4u (h.quiet h0) hM a i);unfold z3l at HC;by_cases hc:z4v r a i=0
 ·obtain⟨e2,j,hj,j1,j2,j3⟩:=wrd0 hM hc;have e3:wrW r a i v=z5b r.W (a+i).toNat v:=by unfold wrW;rw[if_pos hc]
  rw[hc,e2] at HC;rw[hc,e2,e3];have hn:=h.n2;have b1:(0:Int)<=a+i:=by omega
  have b2:a+i<((64*n:Nat):Int):=by omega
  have b3:((64*n:Nat):Int)<=262144:=by omega
  have J1:Hid ((a+i).toNat<64*n):=by show _<_;omega
  have NG:Hid (4<=w.heap.size):=h.tab.lt;have h11:s 11<w.heap.size:=by have:=(h.inn 11 (by omega)).2;have:=h.top;simp[ln] at *;omega
  generalize hm:64*n=m at *
  clear h hM h0 hz hc e2 e3 hj j1 hn;go_enter Tryz.func19,Tryz.ntmps19
  go_wp2_with (first
   | (go_at_call 61;refine HC.out.mono ?_;rintro e w1 ⟨rfl,ho⟩;obtain⟨q4,q5,q6,q7⟩:=Z7 ((ho.alloc (.cells #[.int .i64 0,.int .i64 0] 39)).heap HZ.out z0);obtain⟨q0,q1,q2,q3⟩:=Z7 (heap_alloc_new w1 (.cells #[.int .i64 0,.int .i64 0] 39));have HO:=Z0 (ho.alloc (.cells #[.int .i64 0,.int .i64 0] 39));obtain⟨c0,c1,c2,c3,c4,c5⟩:=(HR.out _ (H0.out.trans HO.out)).cells;have hcell:=(HR.out _ (H0.out.trans HO.out)).words.cell (i:=(a+i).toNat) (by rw[hm];exact J1.out);have hfz:=(HR.out _ (H0.out.trans HO.out)).words.frozen (a+i).toNat;have n1:s 11 ≠ w1.heap.size:=(by have:=(H0.out.trans ho).size;omega);have n2:s 11 ≠ w.heap.size:=(by omega);have n3:w1.heap.size ≠ s 11:=(Ne.symm n1);have n4:w.heap.size ≠ s 11:=(Ne.symm n2);rw[hm] at c0;clear ho))
  have HP:=Z0 ((HR.out _ (H0.out.trans HO.out)).poke (a+i).toNat v);have HW:=Z0 ((HR.out _ (H0.out.trans HO.out)).wide (i:=11) (by omega) HP.out.2);have hlt:s 11+1<=w.heap.size:=h11;refine z4g Tryz.results19 rfl rfl (W7 (HP.out.2.heap (HO.out.heap HZ.out z0) (by omega))) ⟨rfl,HP.out.1.kept ((Out.refl w.heap.size (w.heap.size+1) _).set2 z1 _ _) (.inl HT.out) (.inl NG.out),(((H0.out.trans HO.out).any lo hi).trans HW.out).set2 (.inr (Nat.le_refl _)) _ _⟩
 ·have e3:wrW r a i v=r.W:=by unfold wrW;rw[if_neg hc]
  rw[e3];have e4:(z4v r a i == 0)=false:=by simpa using hc
  generalize z4v r a i=u at *
  generalize z3w r a=y at *
  clear h hM h0 hz hc;go_enter Tryz.func19,Tryz.ntmps19
  go_wp2_with (first
   | (go_at_call 61;refine HC.out.mono ?_;rintro e w1 ⟨rfl,ho⟩;obtain⟨q4,q5,q6,q7⟩:=Z7 ((ho.alloc (.cells #[.int .i64 u,.int .i64 y] 39)).heap HZ.out z0);obtain⟨q0,q1,q2,q3⟩:=Z7 (heap_alloc_new w1 (.cells #[.int .i64 u,.int .i64 y] 39));have HO:=Z0 (ho.alloc (.cells #[.int .i64 u,.int .i64 y] 39));clear ho))
  refine z4g Tryz.results19 rfl rfl (W7 (HO.out.heap HZ.out z0)) ⟨rfl,(HR.out _ ((H0.out.trans HO.out).set2 (.inr (Nat.le_refl _)) _ _)),((H0.out.trans HO.out).set2 (.inr (Nat.le_refl _)) _ _).any _ _⟩
end
theorem z7e {n:Nat} {st:Sp} (hi:Inv n st):z5a n (Z6 n st):=by
 intro a b h;obtain⟨j,rfl,hj⟩:=j2l hi a b h;obtain⟨rfl,hh⟩:=z3q h;have h1:=q1d hi hh;have h2:=J8 (hi.objs j hh).2.1;exact⟨by omega,by omega,h2.2.2.1,h2.2.2.2⟩
structure OpQ where
 k:Int
 a:Int
 b:Int
 c:Int
 L:List Int
def ScrAt (w:World) (b:Nat) (p:Option Addr) (os:List OpQ):Prop:=
 (∀ o ∈ os,-9223372036854775808<=o.a/\o.a<=9223372036854775807/\-9223372036854775808<=o.b/\o.b<=9223372036854775807) ∧
 (os=[]\/∃ g off,p=some ⟨g,off,none⟩/\g<b/\∀ j o,os[j]? = some o->∃ (x:Int) (lp:Option Addr) (lc:Nat),w.cell? ⟨g,off+j*6,none⟩=some (.int .i64 x)/\w.cell? ⟨g,off+j*6+1,none⟩=some (.int .i64 o.k)/\w.cell? ⟨g,off+j*6+2,none⟩=some (.int .i64 o.a)/\w.cell? ⟨g,off+j*6+3,none⟩=some (.int .i64 o.b)/\w.cell? ⟨g,off+j*6+4,none⟩=some (.int .i64 o.c)/\w.cell? ⟨g,off+j*6+5,none⟩=some (.slice lp o.L.length lc)/\SlI w b lp o.L)
theorem ScrAt.kept {w w':World} {b x y:Nat} {p:Option Addr} {os:List OpQ} (h:ScrAt w b p os) (o:Out x y w w') (hx:b<=x\/y=0):ScrAt w' b p os:=by
 refine⟨h.1,?_⟩;rcases h.2 with h | ⟨g,off,h1,h2,h3⟩
 ·exact .inl h
 ·refine .inr ⟨g,off,h1,h2,fun j q hq=>?_⟩;obtain⟨x',lp,lc,c0,c1,c2,c3,c4,c5,c6⟩:=h3 j q hq;have hg:g<x\/y<=g:=by omega
  exact⟨x',lp,lc,o.cell c0 hg,o.cell c1 hg,o.cell c2 hg,o.cell c3 hg,o.cell c4 hg,o.cell c5 hg,c6.kept o hx⟩
def ElAt (w:World) (v:Value) (n k:Nat) (f:Nat->Nat->Int):Prop:=∃ o c,v=.slice o n c/\(0<n->∃ g,o=some ⟨g,0,none⟩/\∀ j i,j<n->i<k->w.cell? ⟨g,j*k+i,none⟩=some (.int .i64 (f j i)))
theorem ElAt.quiet {w w':World} {v:Value} {n k:Nat} {f:Nat->Nat->Int} (h:ElAt w v n k f) (o:Out 0 0 w w'):ElAt w' v n k f:=by
 obtain⟨a,c,e,h⟩:=h;refine⟨a,c,e,fun hn=>?_⟩;obtain⟨g,hg,hc⟩:=h hn;exact⟨g,hg,fun j i hj hi=>o.cell (hc j i hj hi) z0⟩
theorem z1k {w:World} {n:Nat} {v1 v2:Value} {f:Nat->Nat->Int} (h1:ElAt w v1 n 1 f) (h2:ElAt w v2 n 1 f) (hn:(n:Int)<=100000):Calls Tryz.prog 84 #[v1,v2] w fun e w'=>e=.returned (.bool true)/\Out 0 0 w w':=by
 obtain⟨o1,c1,rfl,h1⟩:=h1;obtain⟨o2,c2,rfl,h2⟩:=h2;have H1:=Z0 h1;have H2:=Z0 h2;have n0:(0:Int)<=(n:Int):=by omega
 have nn:((n:Int) != (n:Int))=false:=by simp
 obtain⟨nb,hnb⟩:∃ q:Int,(n:Int)<=q/\q<=4611686018427387904:=⟨n,by omega,by omega⟩
 clear h1 h2 hn;go_enter Tryz.func84,Tryz.ntmps84
 go_wp2_with fail;go_loopw [5] (fun u wr=>∃ j:Nat,u=.int .i64 (j:Int)/\j<=n/\Out 0 0 w wr) (fun u _=>n-(intOf u).toNat)
 case atStart=>exact⟨0,rfl,Nat.zero_le _,Out.refl _ _ _⟩
 case round=>
  obtain⟨j,rfl,j1,ro⟩:=hrel;have j0:(0:Int)<=(j:Int):=by omega
  have j4:(j:Int)<=(n:Int):=by omega
  by_cases hj:j<n
  ·have j2:(j:Int)<(n:Int):=by omega
   obtain⟨g1,hg1,hc1⟩:=H1.out (by omega);obtain⟨g2,hg2,hc2⟩:=H2.out (by omega);subst hg1 hg2;have p0:=ro.cell (hc1 j 0 hj (by omega)) (.inr (Nat.zero_le _));rw[show j*1+0=j from by omega] at p0;have q0:=ro.cell (hc2 j 0 hj (by omega)) (.inr (Nat.zero_le _));rw[show j*1+0=j from by omega] at q0;generalize f j 0=x0 at p0 q0
   have z0:(x0 == x0)=true:=by simp
   have y0:(x0 != x0)=false:=by simp
   have HO:=Z0 ro;clear ro hc1 hc2;go_wp2_with fail;refine wp_region_held_drew (S:=fun w'=>w'.cell? ⟨g1,j,none⟩=some (.int .i64 x0)/\w'.cell? ⟨g2,j,none⟩=some (.int .i64 x0)) (by kernel_rfl) ?hS11 (fun hHeld=>?rest11)
   case hS11=>exact⟨p0,q0⟩
   refine tk 0 ?_;refine tk 1 ?_;refine tk 2 ?_;refine tk 3 ?_;refine tk 4 ?_;refine tk 5 ?_;refine tk 6 ?_;refine tk 7 ?_;refine tk 8 ?_;refine dn ?_;clear hHeld;go_wp2;go_roundw
   case rel=>exact⟨j+1,by go_num,by omega,HO.out.drew⟩
   case measure=>simp[intOf];omega
  ·have e:n=j:=by omega
   subst e;have e2:decide ((n:Int)<(n:Int))=false:=by simp
   go_wp2;go_ret;exact⟨rfl,ro⟩
theorem z0r {w:World} {n:Nat} {v1 v2:Value} {f:Nat->Nat->Int} (h1:ElAt w v1 n 3 f) (h2:ElAt w v2 n 3 f) (hn:(n:Int)<=100000):Calls Tryz.prog 85 #[v1,v2] w fun e w'=>e=.returned (.bool true)/\Out 0 0 w w':=by
 obtain⟨o1,c1,rfl,h1⟩:=h1;obtain⟨o2,c2,rfl,h2⟩:=h2;have H1:=Z0 h1;have H2:=Z0 h2;have n0:(0:Int)<=(n:Int):=by omega
 have nn:((n:Int) != (n:Int))=false:=by simp
 obtain⟨nb,hnb⟩:∃ q:Int,(n:Int)<=q/\q<=4611686018427387904:=⟨n,by omega,by omega⟩
 clear h1 h2 hn;go_enter Tryz.func85,Tryz.ntmps85
 go_wp2_with fail;go_loopw [5] (fun u wr=>∃ j:Nat,u=.int .i64 (j:Int)/\j<=n/\Out 0 0 w wr) (fun u _=>n-(intOf u).toNat)
 case atStart=>exact⟨0,rfl,Nat.zero_le _,Out.refl _ _ _⟩
 case round=>
  obtain⟨j,rfl,j1,ro⟩:=hrel;have j0:(0:Int)<=(j:Int):=by omega
  have j4:(j:Int)<=(n:Int):=by omega
  by_cases hj:j<n
  ·have j2:(j:Int)<(n:Int):=by omega
   obtain⟨g1,hg1,hc1⟩:=H1.out (by omega);obtain⟨g2,hg2,hc2⟩:=H2.out (by omega);subst hg1 hg2;have p0:=ro.cell (hc1 j 0 hj (by omega)) (.inr (Nat.zero_le _));rw[show j*3+0=j*3 from by omega] at p0;have q0:=ro.cell (hc2 j 0 hj (by omega)) (.inr (Nat.zero_le _));rw[show j*3+0=j*3 from by omega] at q0;have p1:=ro.cell (hc1 j 1 hj (by omega)) (.inr (Nat.zero_le _));have q1:=ro.cell (hc2 j 1 hj (by omega)) (.inr (Nat.zero_le _));have p2:=ro.cell (hc1 j 2 hj (by omega)) (.inr (Nat.zero_le _));have q2:=ro.cell (hc2 j 2 hj (by omega)) (.inr (Nat.zero_le _));generalize f j 0=x0 at p0 q0
   generalize f j 1=x1 at p1 q1
   generalize f j 2=x2 at p2 q2
   have z0:(x0 == x0)=true:=by simp
   have z1:(x1 == x1)=true:=by simp
   have z2:(x2 == x2)=true:=by simp
   have y0:(x0 != x0)=false:=by simp
   have y1:(x1 != x1)=false:=by simp
   have y2:(x2 != x2)=false:=by simp
   have HO:=Z0 ro;clear ro hc1 hc2;go_wp2_with fail;refine wp_region_held_drew (S:=fun w'=>w'.cell? ⟨g1,j*3,none⟩=some (.int .i64 x0)/\w'.cell? ⟨g1,j*3+1,none⟩=some (.int .i64 x1)/\w'.cell? ⟨g1,j*3+2,none⟩=some (.int .i64 x2)/\w'.cell? ⟨g2,j*3,none⟩=some (.int .i64 x0)/\w'.cell? ⟨g2,j*3+1,none⟩=some (.int .i64 x1)/\w'.cell? ⟨g2,j*3+2,none⟩=some (.int .i64 x2)) (by kernel_rfl) ?hS31 (fun hHeld=>?rest31)
   case hS31=>exact⟨p0,p1,p2,q0,q1,q2⟩
   refine tk 0 ?_;refine tk 1 ?_;refine tk 2 ?_;refine tk 3 ?_;refine tk 4 ?_;refine tk 5 ?_;refine tk 6 ?_;refine tk 7 ?_;refine tk 8 ?_;refine dn ?_;clear hHeld;go_wp2;go_roundw
   case rel=>exact⟨j+1,by go_num,by omega,HO.out.drew⟩
   case measure=>simp[intOf];omega
  ·have e:n=j:=by omega
   subst e;have e2:decide ((n:Int)<(n:Int))=false:=by simp
   go_wp2;go_ret;exact⟨rfl,ro⟩
theorem z0e {w:World} {n:Nat} {v1 v2:Value} {f:Nat->Nat->Int} (h1:ElAt w v1 n 5 f) (h2:ElAt w v2 n 5 f) (hn:(n:Int)<=100000):Calls Tryz.prog 73 #[v1,v2] w fun e w'=>e=.returned (.bool true)/\Out 0 0 w w':=by
 obtain⟨o1,c1,rfl,h1⟩:=h1;obtain⟨o2,c2,rfl,h2⟩:=h2;have H1:=Z0 h1;have H2:=Z0 h2;have n0:(0:Int)<=(n:Int):=by omega
 have nn:((n:Int) != (n:Int))=false:=by simp
 obtain⟨nb,hnb⟩:∃ q:Int,(n:Int)<=q/\q<=4611686018427387904:=⟨n,by omega,by omega⟩
 clear h1 h2 hn;go_enter Tryz.func73,Tryz.ntmps73
 go_wp2_with fail;go_loopw [5] (fun u wr=>∃ j:Nat,u=.int .i64 (j:Int)/\j<=n/\Out 0 0 w wr) (fun u _=>n-(intOf u).toNat)
 case atStart=>exact⟨0,rfl,Nat.zero_le _,Out.refl _ _ _⟩
 case round=>
  obtain⟨j,rfl,j1,ro⟩:=hrel;have j0:(0:Int)<=(j:Int):=by omega
  have j4:(j:Int)<=(n:Int):=by omega
  by_cases hj:j<n
  ·have j2:(j:Int)<(n:Int):=by omega
   obtain⟨g1,hg1,hc1⟩:=H1.out (by omega);obtain⟨g2,hg2,hc2⟩:=H2.out (by omega);subst hg1 hg2;have p0:=ro.cell (hc1 j 0 hj (by omega)) (.inr (Nat.zero_le _));rw[show j*5+0=j*5 from by omega] at p0;have q0:=ro.cell (hc2 j 0 hj (by omega)) (.inr (Nat.zero_le _));rw[show j*5+0=j*5 from by omega] at q0;have p1:=ro.cell (hc1 j 1 hj (by omega)) (.inr (Nat.zero_le _));have q1:=ro.cell (hc2 j 1 hj (by omega)) (.inr (Nat.zero_le _));have p2:=ro.cell (hc1 j 2 hj (by omega)) (.inr (Nat.zero_le _));have q2:=ro.cell (hc2 j 2 hj (by omega)) (.inr (Nat.zero_le _));have p3:=ro.cell (hc1 j 3 hj (by omega)) (.inr (Nat.zero_le _));have q3:=ro.cell (hc2 j 3 hj (by omega)) (.inr (Nat.zero_le _));have p4:=ro.cell (hc1 j 4 hj (by omega)) (.inr (Nat.zero_le _));have q4:=ro.cell (hc2 j 4 hj (by omega)) (.inr (Nat.zero_le _));generalize f j 0=x0 at p0 q0
   generalize f j 1=x1 at p1 q1
   generalize f j 2=x2 at p2 q2
   generalize f j 3=x3 at p3 q3
   generalize f j 4=x4 at p4 q4
   have z0:(x0 == x0)=true:=by simp
   have z1:(x1 == x1)=true:=by simp
   have z2:(x2 == x2)=true:=by simp
   have z3:(x3 == x3)=true:=by simp
   have z4:(x4 == x4)=true:=by simp
   have y0:(x0 != x0)=false:=by simp
   have y1:(x1 != x1)=false:=by simp
   have y2:(x2 != x2)=false:=by simp
   have y3:(x3 != x3)=false:=by simp
   have y4:(x4 != x4)=false:=by simp
   have HO:=Z0 ro;clear ro hc1 hc2;go_wp2_with fail;refine wp_region_held_drew (S:=fun w'=>w'.cell? ⟨g1,j*5,none⟩=some (.int .i64 x0)/\w'.cell? ⟨g1,j*5+1,none⟩=some (.int .i64 x1)/\w'.cell? ⟨g1,j*5+2,none⟩=some (.int .i64 x2)/\w'.cell? ⟨g1,j*5+3,none⟩=some (.int .i64 x3)/\w'.cell? ⟨g1,j*5+4,none⟩=some (.int .i64 x4)/\w'.cell? ⟨g2,j*5,none⟩=some (.int .i64 x0)/\w'.cell? ⟨g2,j*5+1,none⟩=some (.int .i64 x1)/\w'.cell? ⟨g2,j*5+2,none⟩=some (.int .i64 x2)/\w'.cell? ⟨g2,j*5+3,none⟩=some (.int .i64 x3)/\w'.cell? ⟨g2,j*5+4,none⟩=some (.int .i64 x4)) (by kernel_rfl) ?hS51 (fun hHeld=>?rest51)
   case hS51=>exact⟨p0,p1,p2,p3,p4,q0,q1,q2,q3,q4⟩
   refine tk 0 ?_;refine tk 1 ?_;refine tk 2 ?_;refine tk 3 ?_;refine tk 4 ?_;refine tk 5 ?_;refine tk 6 ?_;refine tk 7 ?_;refine tk 8 ?_;refine dn ?_;clear hHeld;go_wp2;go_roundw
   case rel=>exact⟨j+1,by go_num,by omega,HO.out.drew⟩
   case measure=>simp[intOf];omega
  ·have e:n=j:=by omega
   subst e;have e2:decide ((n:Int)<(n:Int))=false:=by simp
   go_wp2;go_ret;exact⟨rfl,ro⟩
theorem OwnF.el {B:Nat} {w:World} {t n:Nat} {v:Value} {f:Nat->Nat->Int} (h:OwnF B w t v n f):ElAt w v n (szK t) f:=by
 obtain⟨a,cap,rfl⟩:=h.shape;refine⟨a,cap,rfl,fun h0=>?_⟩;obtain⟨g,cap',e,_,_,_,hc⟩:=h.open h0;cases e;exact⟨g,rfl,hc⟩
theorem WereC.el {w:World} {col:Nat->Nat} {v:Value} {n sz:Nat} {f:Nat->Nat->Int} (h:WereC w col v n sz f):ElAt w v n sz f:=by
 obtain⟨a,cap,rfl,hr⟩:=h;refine⟨a,cap,rfl,fun h0=>?_⟩;obtain⟨g,g0,_,_,g3⟩:=hr h0;exact⟨g,g0,g3⟩
def x0v (X:Nat->List Value) (N0 N2 F0 F1 F2:Nat):Prop:=((X 2).length=N0/\(X 3).length=N0/\(X 4).length=N0/\(X 5).length=N0/\(X 6).length=N2/\(X 7).length=N2)/\((X 8).length=F0/\(X 11).length=F0)/\((X 9).length=F1/\(X 12).length=F1)/\((X 10).length=F2/\(X 13).length=F2)
section
variable {P:Program} {ops:Array Oper} {Q:Exit->Act->World->Prop} {md:Region.Mode} {S:World->Prop} {z:Nat}
def z1j (P:Program) (md:Region.Mode) (ops:Array Oper) (Q:Exit->Act->World->Prop) (S:World->Prop) (z:Nat):Nat->Array Bool->Act->World->Prop
 | 0,listed,a,w=>Region.ready md ops listed=[]/\Q .normal a w
 | fuel+1,listed,a,w=>
  (Region.ready md ops listed=[]->Q .normal a w) ∧
  ∀ i ∈ Region.ready md ops listed,wpOp P ops Q i (fun a' w'=>(i ≠ z->S w')/\z1j P md ops Q S z fuel (listed.setIfInBounds i true) a' w') a w
theorem z8w:∀ (fuel:Nat) (listed:Array Bool) (a:Act) (w:World),z1j P md ops Q S z fuel listed a w->wpAny P md ops Q fuel listed a w
 | 0,_,_,_,h=>h
 | fuel+1,_,_,_,h=>⟨h.1,fun i hi=>wpOp_mono (fun a' w' h'=>z8w fuel _ a' w' h'.2) (h.2 i hi)⟩
def z6k (md:Region.Mode) (ops:Array Oper) (z i:Nat):Bool:=match ops[z]? with
 | some oz=>oz.after.any fun e=>Region.binds md e && e.on == i
 | none=>false
theorem q8p {i:Nat} (h:z6k md ops z i=true):∃ oz,ops[z]? = some oz/\∃ e ∈ oz.after,Region.binds md e=true/\e.on=i:=by
 unfold z6k at h;cases hz:ops[z]? with
 | none=>rw[hz] at h;cases h
 | some oz=>
  rw[hz] at h;refine⟨oz,rfl,?_⟩;dsimp only at h;rw[Array.any_eq_true'] at h;obtain⟨e,he,h2⟩:=h;simp at h2;exact⟨e,he,h2.1,h2.2⟩
theorem q1g {i:Nat} {oi:Oper} {v:Value} (hi:ops[i]? = some oi) (hsel:∀ (j:Nat) (o:Oper) cs b,ops[j]? = some o->o.op ≠ .select cs b)
  (hQ:∀ c a w,Q (.panic c) (a.put oi.dst v) w->Q (.panic c) a w) (hz:∃ oz,ops[z]? = some oz/\∃ e ∈ oz.after,Region.binds md e=true/\e.on=i) :
  ∀ (fuel:Nat) (listed:Array Bool) (a:Act) (w:World),
   (∀ j oj,ops[j]? = some oj->j ≠ i->listed.getD j true=false->(∀ e ∈ oj.after,Region.binds md e=true->e.on ≠ i)->oi.apart ops oj=true) ->
   i ∈ Region.ready md ops listed->YieldsIf P ops S oi v a->S w ->
   z1j P md ops Q S z fuel (listed.setIfInBounds i true) (a.put oi.dst v) w->z1j P md ops Q S z (fuel+1) listed a w:=by
 intro fuel;induction fuel with
 | zero=>
  intro listed a w _ hr hy hS H;refine⟨fun h=>(by rw[h] at hr;cases hr),fun j hj=>?_⟩;by_cases hji:j=i
  ·subst hji;exact hy.wpOp hi hS ⟨fun _=>hS,H⟩
  ·have:=ready_mono hj hji;rw[H.1] at this;cases this
 | succ fuel ih=>
  intro listed a w hfree hr hy hS H;refine⟨fun h=>(by rw[h] at hr;cases hr),fun j hj=>?_⟩;by_cases hji:j=i
  ·subst hji;exact hy.wpOp hi hS ⟨fun _=>hS,H⟩
  ·have h1:=H.2 j (ready_mono hj hji);obtain⟨hjun,oj,hoj,hall⟩:=mem_ready.1 hj;have hnot:∀ e ∈ oj.after,Region.binds md e=true->e.on ≠ i:=fun e he hb heq=>by
    have h1:=hall e he hb;have h0:=(mem_ready.1 hr).1;rw[heq] at h1;rcases Nat.lt_or_ge i listed.size with h' | h'
    ·simp[h'] at h0 h1;rw[h0] at h1;cases h1
    ·simp[Array.getElem?_eq_none h'] at h1
   have hjz:j ≠ z:=by
    intro e;subst e;obtain⟨oz,hoz,e,he,he2,he3⟩:=hz;rw[hoj] at hoz;cases hoz;exact hnot e he he2 he3
   have h2:=wpOp_putIf hoj (hfree j oj hoj hji hjun hnot) (fun cs b=>hsel i oi cs b hi) (fun cs b=>hsel j oj cs b hoj) hQ hy h1;have hfree':∀ k ok,ops[k]? = some ok->k ≠ i->(listed.setIfInBounds j true).getD k true=false ->
     (∀ e ∈ ok.after,Region.binds md e=true->e.on ≠ i)->oi.apart ops ok=true:=fun k ok hk hki hun hno=>by
    refine hfree k ok hk hki ?_ hno;by_cases hjk:j=k
    ·subst hjk;exact hjun
    ·rw[getD_set_ne true hjk] at hun;exact hun
   refine wpOp_mono (fun a' w' h3=>⟨h3.2.1,ih (listed.setIfInBounds j true) a' w' hfree' (ready_mono hr (Ne.symm hji)) h3.1 (h3.2.1 hjz) ?_⟩) h2;rw[Array.setIfInBounds_comm _ _ hji];exact h3.2.2
theorem q3p {i:Nat} {oi:Oper} {v:Value} {fuel:Nat} {listed:Array Bool} {a:Act} {w:World} (hi:ops[i]? = some oi)
  (hs:Region.noSelect ops=true) (hf:Region.free md ops listed i=true) (hr:(Region.ready md ops listed).contains i=true) (hz:z6k md ops z i=true)
  (hQ:∀ c a w,Q (.panic c) (a.put oi.dst v) w->Q (.panic c) a w) (hy:YieldsIf P ops S oi v a) (hS:S w)
  (h:z1j P md ops Q S z fuel (listed.setIfInBounds i true) (a.put oi.dst v) w):z1j P md ops Q S z (fuel+1) listed a w:=
 q1g hi (Region.noSelect_spec hs) hQ (q8p hz) fuel listed a w (Region.free_spec hi hf) (by simpa using hr) hy hS h
theorem tkT (i:Nat) {oi:Oper} {v:Value} {fuel:Nat} {listed l':Array Bool} {a a':Act} {w:World}
  (h:z1j P md ops Q S z fuel l' a' w) (hi:ops[i]? = some oi:=by exact rfl) (hs:Region.noSelect ops=true:=by kernel_rfl) (hf:Region.free md ops listed i=true:=by kernel_rfl) (hr:(Region.ready md ops listed).contains i=true:=by kernel_rfl) (hz:z6k md ops z i=true:=by kernel_rfl)
  (hw:Region.wanted oi (yielded ops a.tmps)=true:=by rfl)
  (hy:∀ w,S w->(execOp a.eval oi).run P w=.ok (.value v) w:=by intro w hSw;(try dsimp only at hSw);simp only[xa,xb,xc];go_simp;(try with_reducible rfl))
  (hS:S w:=by assumption)
  (hl:listed.setIfInBounds i true=l':=by (try simp only[List.setIfInBounds_toArray,List.set_cons_zero,List.set_cons_succ]);exact rfl)
  (ha:a.put oi.dst v=a':=by (try simp only[Act.put,xa,xb,xc,xd,xe,xf]);exact rfl)
  (hQ:∀ c a w,Q (.panic c) (a.put oi.dst v) w->Q (.panic c) a w:=by exact fun _ _ _ h=>h):z1j P md ops Q S z (fuel+1) listed a w:=by
 subst hl ha;exact q3p hi hs hf hr hz hQ (Or.inl ⟨hw,hy⟩) hS h
theorem X7 {i:Nat} {o:Oper} {fuel:Nat} {listed:Array Bool} {a:Act} {w:World} (hr:Region.ready md ops listed=[i]) (ho:ops[i]? = some o)
  (h:∀ K':Act->World->Prop,Shut (∀ a w,S w->(S w->z1j P md ops Q S z fuel (listed.setIfInBounds i true) a w)->K' a w)->if Region.wanted o (yielded ops a.tmps)=true then Oper.wp P o a w K' Q else K' (a.put o.dst undef) w):z1j P md ops Q S z (fuel+1) listed a w:=by
 refine⟨fun h0=>(by rw[hr] at h0;cases h0),fun j hj=>?_⟩;rw[hr] at hj;simp at hj;subst hj;exact wpOp_step ho (fun K' hK=>h K' (fun a w hS hW=>hK a w ⟨fun _=>hS,hW hS⟩))
theorem H8 {o:Oper} {fuel:Nat} {listed:Array Bool} {a:Act} {w:World} (hr:Region.ready md ops listed=[z]) (ho:ops[z]? = some o)
  (h:∀ K':Act->World->Prop,Shut (∀ a w,z1j P md ops Q S z fuel (listed.setIfInBounds z true) a w->K' a w)->if Region.wanted o (yielded ops a.tmps)=true then Oper.wp P o a w K' Q else K' (a.put o.dst undef) w):z1j P md ops Q S z (fuel+1) listed a w:=by
 refine⟨fun h0=>(by rw[hr] at h0;cases h0),fun j hj=>?_⟩;rw[hr] at hj;simp at hj;subst hj;exact wpOp_step ho (fun K' hK=>h K' (fun a w hW=>hK a w ⟨fun e=>absurd rfl e,hW⟩))
theorem G8 {listed:Array Bool} {a:Act} {w:World} (hr:Region.ready md ops listed=[]) (h:Q .normal a w) :
  ∀ fuel,z1j P md ops Q S z fuel listed a w
 | 0=>⟨hr,h⟩
 | _+1=>⟨fun _=>h,by rw[hr];simp⟩
theorem H9 {id:Nat} {a:Act} {w:World} (hm:P.follows .mixedOrders=true) (hS:S w.drew)
  (h:S w.drew->z1j P .any ops Q S z ops.size (Array.replicate ops.size false) a w.drew):(Code.region id ops true).wp P Q a w:=
 wp_region_any hm (z8w _ _ _ _ (h hS))
end
section
variable {B:Nat} {w w':World} {b:Nat} {V:Nat->Value} {X:Nat->List Value} {C:Nat->Nat->Nat × (Nat->Nat->Int)} {col col':Nat->Nat} {cur:Option (Nat × Nat)} {p:Nat->Nat}
theorem FullC.recol7 {t m:Nat} {v:Value} (h:FullC w col cur t v m) (e:∀ x,x<w.heap.size->col x ≠ 9->col x ≠ 7->col' x=col x):FullC w col' cur t v m:=by
 obtain⟨a,n,cap,e1,hn,hr⟩:=h;refine⟨a,n,cap,e1,hn,fun h0=>?_⟩;obtain⟨g,g0,g1,g2,g3⟩:=hr h0;refine⟨g,g0,g1,?_,g3⟩;have:col' g=col g:=e g g1 (by rcases g2 with g2 | g2 <;> omega) (by rcases g2 with g2 | g2 <;> omega);rw[this];exact g2
theorem WereC.recol7 {n sz:Nat} {v:Value} {f:Nat->Nat->Int} (h:WereC w col v n sz f) (e:∀ x,x<w.heap.size->col x ≠ 9->col x ≠ 7->col' x=col x):WereC w col' v n sz f:=by
 obtain⟨a,cap,e1,hr⟩:=h;refine⟨a,cap,e1,fun h0=>?_⟩;obtain⟨g,g0,g1,g2,g3⟩:=hr h0;exact⟨g,g0,g1,by rw[e g g1 (by omega) (by omega)];exact g2,g3⟩
theorem LeftC.recol7 {t i n:Nat} {v:Value} {f:Nat->Nat->Int} (h:LeftC B w col t i v n f) (e:∀ x,x<w.heap.size->col x ≠ 9->col x ≠ 7->col' x=col x):LeftC B w col' t i v n f:=by
 obtain⟨⟨xs,h1,h2⟩,h3,h4⟩:=h;exact⟨⟨xs,h1,h2⟩,h3,fun x hx=>by rw[e x (q1o h1 hx) (by rw[h4 x hx];omega) (by rw[h4 x hx];omega)];exact h4 x hx⟩
theorem Kp.recol7 (h:Kp B w b V X C col cur p) (e:∀ x,x<w.heap.size->col x ≠ 9->col x ≠ 7->col' x=col x):Kp B w b V X C col' cur p:=
 ⟨h.hB,h.hb,by rw[e b (Q4 h.hb) (by rw[h.cb];omega) (by rw[h.cb];omega)];exact h.cb,h.own,fun i h1 h2 x hx=>by rw[e x (q1o (h.own i h1 h2) hx) (by rw[h.co i h1 h2 x hx];omega) (by rw[h.co i h1 h2 x hx];omega)];exact h.co i h1 h2 x hx,
  fun t i v ht hp hv=>(h.lf t i v ht hp hv).recol7 e,fun t i v ht hv=>(h.wr t i v ht hv).recol7 e,fun t i v z ht hv hz=>by
   obtain⟨m,e1,e2⟩:=h.fl t i v z ht hv hz;exact⟨m,e1,e2.recol7 e⟩⟩
theorem Fix.re2 {c0 c1 c2:Nat->Nat} {a b:World} (h:Fix c0 c1 a b) (e:∀ k,k<a.heap.size->c0 k=7->c1 k=7->c2 k=7):Fix c0 c2 a b:=
 ⟨h.1,fun k hk h7=>e k hk h7 (h.2 k hk h7)⟩
theorem Kp.setC (h:Kp B w b V X C col cur p) {C':Nat->Nat->Nat × (Nat->Nat->Int)} (e:∀ t i,t<3->(i<(X (2+2*t)).length\/i<(X (3+2*t)).length)->C' t i=C t i):Kp B w b V X C' col cur p:=
 { h with
  lf:=fun t i v ht hp hv=>by rw[e t i ht (.inl (List.getElem?_eq_some_iff.1 hv).1)];exact h.lf t i v ht hp hv
  wr:=fun t i v ht hv=>by rw[e t i ht (.inr (List.getElem?_eq_some_iff.1 hv).1)];exact h.wr t i v ht hv }
theorem WereC.pushed {n sz i:Nat} {v:Value} {f:Nat->Nat->Int} (h:WereC w col v n sz f) (e:∀ y,y<w.heap.size->col' y=col y) (i2:2<=i) (o:Chg col (fun c=>c=0\/c=10+i) w w'):WereC w' col' v n sz f:=
 (h.recol (col':=col') fun y hy _=>e y hy).chg (o.recol fun k hk hp=>by rw[<-e k hk];exact hp) (by omega)
theorem LeftC.pushed {t i0 n i:Nat} {v:Value} {f:Nat->Nat->Int} (h:LeftC B w col t i0 v n f) (e:∀ y,y<w.heap.size->col' y=col y) (i2:2<=i) (i14:i<14) (o:Chg col (fun c=>c=0\/c=10+i) w w'):LeftC B w' col' t i0 v n f:=
 (h.recol (col':=col') fun y hy _=>e y hy).chg (o.recol fun k hk hp=>by rw[<-e k hk];exact hp) (by omega)
end
def DSt (B b:Nat) (V:Nat->Value) (X:Nat->List Value) (C:Nat->Nat->Nat × (Nat->Nat->Int)) (p:Nat->Nat) (M:Nat->Nat) (x:Nat->Value) (col:Nat->Nat) (w:World) (k:Nat) (W:World) (V':Nat->Value) (X':Nat->List Value) (col':Nat->Nat):Prop:=
 Kp B W b V' X' C col' none p/\(∀ t,t<3->LeftC B W col' t (M t) (x (2+2*t)) (C t (M t)).1 (C t (M t)).2/\WereC W col' (x (3+2*t)) (C t (M t)).1 (szK t) (C t (M t)).2)/\(∀ j,2<=j->j<2+k->(X' j).length=(X j).length+1)/\(∀ j,(j<2\/2+k<=j)->V' j=V j/\X' j=X j)/\Fix col col' w W
section
variable {B b:Nat} {V:Nat->Value} {X:Nat->List Value} {C:Nat->Nat->Nat × (Nat->Nat->Int)} {p:Nat->Nat} {M:Nat->Nat} {x:Nat->Value} {col:Nat->Nat} {w:World} {k:Nat} {W:World} {V':Nat->Value} {X':Nat->List Value} {col':Nat->Nat}
theorem DSt.push (h:DSt B b V X C p M x col w k W V' X' col') (hk:k<6) (hM:∀ t,t<3->(X (2+2*t)).length=M t/\(X (3+2*t)).length=M t) {W1 W2:World} {g cap n:Nat} (hn:(X (2+k)).length=n) (o1:Out 0 0 W W1) (own:W2.ownsRow B (tyS (2+k)) 1 (.slice (some ⟨g,0,none⟩) (n+1) cap) (n+1) (X (2+k) ++ [x (2+k)])) (gr:z5o W1 W2 (V (2+k)) g) :
  W2.heap[b]? = some (.cells #[V' 0,V' 1,V' 2,V' 3,V' 4,V' 5,V' 6,V' 7,V' 8,V' 9,V' 10,V' 11,V' 12,V' 13] 54 (0,0)) ∧
  ∃ V'' X'' col'',DSt B b V X C p M x col w (k+1) (W2.setCell ⟨b,2+k,none⟩ (.slice (some ⟨g,0,none⟩) (n+1) cap)) V'' X'' col'':=by
 obtain⟨hK,hL,hlen,hsame,hfix⟩:=h;subst hn;obtain⟨s1,s2⟩:=hsame (2+k) (.inr (Nat.le_refl _));rw[<-s2] at own;rw[<-s1] at gr;obtain⟨hb2,V2,X2,col2,a1,a2,a3,a4,a5,a6⟩:=hK.push (i:=2+k) (by omega) (by omega) o1 own gr (fun t ht e hp=>by
   rw[show (X' (2+k)).length=M t from by rw[s2,e];exact(hM t ht).1,e];exact(hL t ht).1) (fun t ht e=>by
   rw[show (X' (2+k)).length=M t from by rw[s2,e];exact(hM t ht).2,e];exact(hL t ht).2) (fun t ht e=>by omega) (fun t ht e=>by omega)
 rw[s2] at a4 a6;refine⟨hb2,V2,X2,col2,a4,fun t ht=>⟨(hL t ht).1.pushed a5 (by omega) (by omega) a6,(hL t ht).2.pushed a5 (by omega) a6⟩,fun j j1 j2=>?_,fun j hj=>?_,hfix.trans (Fix.of a6 (by omega) fun k hk h7=>by rw[a5 k hk];exact h7)⟩
 ·by_cases e:j=2+k
  ·subst e;rw[a2,s2];simp
  ·rw[(a3 j e).2];exact hlen j j1 (by omega)
 ·obtain⟨q1,q2⟩:=a3 j (by omega);rw[q1,q2];exact hsame j (by omega)
end
theorem j8r (w:World) (t ty:TypeId) (base:Nat) (e:TypeId) (i:TypeInfo) (z:Value) (bytes:Nat) (ht:Tryz.prog.underlying t=some (.slice e)) (hi:Tryz.prog.info? e=some i) (hz:i.zero=some z)
  (hsize:i.size=1) (hby:i.bytes=bytes) (hzs:z.cells.size=1) (v:Value) (n:Nat) (xs:List Value) (hown:w.ownsRow base e 1 v n xs)
  (ad:Addr) (m c:Nat) (news:List Value) (hl:news.length=m*1) (hnews:∀ j u,news[j]? = some u->w.cell? (ad.add j)=some u) (h1:∀ u ∈ news,u.oneCell'=true)
  (hm:0<m) (h63:n+m<=maxLen) (hbytes:(n+m)*bytes<=140737488355328) (hbase:base<=w.heap.size) :
  ∃ g cap w',(Builtin.append_ #[t,t] ty #[v,.slice (some ad) m c]).run Tryz.prog w=.ok (.slice (some ⟨g,0,none⟩) (n+m) cap) w'/\w'.ownsRow base e 1 (.slice (some ⟨g,0,none⟩) (n+m) cap) (n+m) (xs ++ news)/\z5o w w' v g:=by
 have hown':=hown;obtain⟨hlen,hcase⟩:=hown;rcases hcase with ⟨rfl,rfl⟩ | ⟨g,cap,cur,rfl,hg1,hg2,hg3,hg4,hg5,hg6⟩
 ·obtain rfl:xs=[]:=List.eq_nil_of_length_eq_zero (by simpa using hlen);obtain⟨v',w',hrun,r1,r2,_⟩:=run_append_own (P:=Tryz.prog) w w.heap.size t ty e i z 1 bytes ht hi hz hsize hby hzs (by decide) (.slice none 0 0) 0 [] (World.ownsRow_nil w _ e 1) ad m c news hl hnews h1 h63 hbytes (Nat.le_refl _);obtain⟨g,cap,rfl,hg,_⟩:=r1.form (by omega);exact⟨g,cap,w',hrun,z3d r1 hbase,.inl ⟨r2,hg⟩⟩
 ·by_cases hr:n+m<=cap
  ·obtain⟨w',hrun,r1,r2⟩:=run_append_own_spare (P:=Tryz.prog) w base t ty e i 1 ht hi hsize g n cap xs hown' ad m c news hl hnews h1 hr;exact⟨g,cap,w',hrun,r1,.inr ⟨rfl,r2⟩⟩
  ·obtain⟨v',w',hrun,r1,r2⟩:=run_append_arg_grows (P:=Tryz.prog) w t ty e i z 1 bytes ht hi hz hsize hby hzs (by decide) ⟨g,0,none⟩ n cap xs hlen (q1n hown') ad m c news hl hnews (by omega) h63 hbytes;obtain⟨g',cap',rfl,hg,_⟩:=r1.form (by omega);exact⟨g',cap',w',hrun,z3d r1 hbase,.inl ⟨r2,hg⟩⟩
theorem z1s {ops:Array Oper} {o:Oper} {a:Go.Act} {w:World} {K:Go.Act->World->Prop} {Q:Exit->Go.Act->World->Prop} {E:Prop} (hgd:o.guard=none) (s x:Operand) (t:TypeId)
  (ho:o.op=.call { callee:=.builtin .append,args:=#[s,x],argTypes:=#[t,t] })
  (base:Nat) (e:TypeId) (i:TypeInfo) (z:Value) (bytes:Nat) (ht:Tryz.prog.underlying t=some (.slice e)) (hi:Tryz.prog.info? e=some i) (hz:i.zero=some z)
  (hsize:i.size=1) (hby:i.bytes=bytes) (hzs:z.cells.size=1)
  (v:Value) (n:Nat) (xs:List Value) (hs:a.eval s=v) (hown:w.ownsRow base e 1 v n xs)
  (ad:Addr) (m c:Nat) (news:List Value) (hx:a.eval x=.slice (some ad) m c) (hl:news.length=m*1) (hnews:∀ j u,news[j]? = some u->w.cell? (ad.add j)=some u) (h1:∀ u ∈ news,u.oneCell'=true)
  (hm:0<m) (h63:n+m<=maxLen) (hbytes:(n+m)*bytes<=140737488355328) (hbase:base<=w.heap.size)
  (h:∀ g cap w',w'.ownsRow base e 1 (.slice (some ⟨g,0,none⟩) (n+m) cap) (n+m) (xs ++ news)->z5o w w' v g->K (a.put o.dst (.slice (some ⟨g,0,none⟩) (n+m) cap)) w') :
  if Region.wanted o (yielded ops a.tmps)=true then Oper.wp Tryz.prog o a w K Q else E:=by
 have hw:Region.wanted o (yielded ops a.tmps)=true:=by simp[Region.wanted,hgd]
 rw[if_pos hw];obtain⟨g,cap,w',hrun,r1,r2⟩:=j8r w t o.type base e i z bytes ht hi hz hsize hby hzs v n xs hown ad m c news hl hnews h1 hm h63 hbytes hbase;unfold Oper.wp;simp[execOp,ho,resolve,invoke,builtin,hs,hx,hrun,Result.andThen];exact h g cap w' r1 r2
end Go.Proofs.YtjbbkeoolodeaabGreatDoor
