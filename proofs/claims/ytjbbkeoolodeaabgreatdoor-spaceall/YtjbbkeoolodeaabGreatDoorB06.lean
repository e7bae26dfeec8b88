import Derived.Test.YtjbbkeoolodeaabGreatDoorB05
import Derived.Deep.QuietTactic
import Derived.BigQuiet
namespace Go.Proofs.YtjbbkeoolodeaabGreatDoor
open Go.RowKit
set_option linter.unusedVariables false
set_option maxRecDepth 100000
set_option maxHeartbeats 16000000
set_option linter.unusedSimpArgs false
theorem j5q:(Tryz.prog.info? 162).map (fun i=>(i.zero,i.size,i.bytes))=some (some (.int .u64 0),1,8):=by kernel_rfl
theorem z7o (i:Nat):pk (fun _=>false) i=0:=(z9f fun j=>by simp).symm
theorem j2f (n:Nat) (w:World) (h:n<=262144) (hT:Tab w):MapAt ((w.alloc (.cells (madeCells #[.int .u64 0] (nw n)) 162)).alloc (.cells #[.int .i64 n,.slice (some ⟨w.heap.size,0,none⟩) (nw n) (nw n)] 165))
  w.heap.size ((w.alloc (.cells (madeCells #[.int .u64 0] (nw n)) 162)).alloc (.cells #[.int .i64 n,.slice (some ⟨w.heap.size,0,none⟩) (nw n) (nw n)] 165)).heap.size (w.heap.size+1) n (fun _=>false):=by
 have g:Out 0 0 w ((w.alloc (.cells (madeCells #[.int .u64 0] (nw n)) 162)).alloc (.cells #[.int .i64 n,.slice (some ⟨w.heap.size,0,none⟩) (nw n) (nw n)] 165)):=((Out.refl _ _ _).alloc _).alloc _;refine⟨_,_,heap_alloc2_new _ _ _,by omega,by simp,Nat.le_refl _,hT.lt,h,Nat.le_refl _,fun _ _=>rfl,hT.kept g (.inr rfl),Nat.le_refl _,by simp;omega,by omega,?_⟩;obtain⟨c,hb,hn,hc⟩:=(World.rowIs_made w (.int .u64 0) (nw n) 162).alloc (.cells #[.int .i64 n,.slice (some ⟨w.heap.size,0,none⟩) (nw n) (nw n)] 165);exact⟨c,hb,by omega,fun i hi=>by rw[hc i hi];show some (Value.int IntKind.u64 0)=some (Value.int IntKind.u64 ↑(pk (fun _=>false) i));rw[z7o];rfl⟩
theorem MapAt.words {w:World} {lo hi b n:Nat} {S:Nat->Bool} (h:MapAt w lo hi b n S) :
  ∃ bw cap,w.heap[b]? = some (.cells #[.int .i64 n,.slice (some ⟨bw,0,none⟩) (nw n) cap] 165 (0,0))/\nw n<=cap/\lo<=bw/\bw<hi/\bw ≠ b/\Row w bw 162 (nw n) (fun i=>.int .u64 (pk S i)):=by
 obtain⟨bw,cap,hb,h1,h2,h3,h4,h5,h6,h7,h8,l1,l2,l3,hr⟩:=h;exact⟨bw,cap,hb,h6,l1,l2,l3,hr⟩
theorem MapAt.store {w:World} {lo hi b n bw cap:Nat} {S S':Nat->Bool} (h:MapAt w lo hi b n S) (hb:w.heap[b]? = some (.cells #[.int .i64 n,.slice (some ⟨bw,0,none⟩) (nw n) cap] 165 (0,0)))
  (hr:Row w bw 162 (nw n) (fun i=>.int .u64 (pk S i))) (l1:lo<=bw) (l2:bw<hi) (l3:bw ≠ b) (k:Nat) (v:Int) (hv:v=pk S' k) (ho:∀ i,i<nw n->i ≠ k->pk S i=pk S' i) (hS:∀ j,n<=j->S' j=false) :
  MapAt (w.setCell ⟨bw,k,none⟩ (.int .u64 v)) lo hi b n S':=by
 obtain⟨bw',cap',hb',h1,h2,h3,h4,h5,h6,h7,h8,h9⟩:=h;have e:=hb.symm.trans hb';simp at e;obtain⟨e1,e2⟩:=e;subst e1 e2;have g:Out lo hi w (w.setCell ⟨bw,k,none⟩ (.int .u64 v)):=(Out.refl _ _ _).setCell (.inl ⟨l1,l2⟩) _;refine⟨_,_,?_,h1,h2,Nat.le_trans h3 g.size,h4,h5,h6,hS,h8.kept g (.inl h4),l1,l2,l3,?_⟩
 ·rw[Below.heap_setCell _ _ _ _ (Ne.symm l3)];exact hb
 ·refine(hr.set k _).congr fun i hi=>?_
  by_cases e:i=k
  ·subst e;simp only[if_true];rw[hv]
  ·simp only[if_neg e];rw[ho i hi e]
theorem z5n {i n:Nat} (h:i<n):i / 64<nw n:=by unfold nw;omega
theorem j8u {w:World} {lo hi b n:Nat} {S:Nat->Bool} (h:MapAt w lo hi b n S) (i:Nat) (hi':i<n) :
  Calls Tryz.prog 99 #[.pointer (some ⟨b,0,none⟩),.int .i64 i] w fun e w'=>e=.returned (.int .i64 0)/\MapAt w' lo hi b n (upd S i true)/\Out lo hi w w':=by
 have hb5:=h.bounds;obtain⟨bw,cap,hb,hcap,l1,l2,l3,hr⟩:=h.words;have c1:w.cell? ⟨b,1,none⟩=some (.slice (some ⟨bw,0,none⟩) (nw n) cap):=by simp[World.cell?,hb]
 have c2:=hr.cell (z5n hi');have c3:=hr.frozen (i / 64);have HH:=Z0 (z4y h i);have e0:inB n i=true:=by simp[inB];omega
 rw[e0] at HH;have HB:=Z0 (fun w=>z9n i w (by omega));have HF:=Z0 (h.store (S':=upd S i true) hb hr l1 l2 l3 (i / 64) (bits .or .u64 (pk S (i / 64)) (q3n i)) (by rw[bits_or_u64_nat _ _ (z9s _ _) (z6w _)];unfold q3n;rw[x2b]) (fun j _ hj=>(z5p S i j true hj).symm) (fun j hj=>by unfold upd;rw[if_neg (by omega)];exact hb5.2.2.2.2.2 j hj));have i1:(0:Int)<=(i:Int):=by omega
 have i2:(i:Int)<262144:=by omega
 obtain⟨k,hk⟩:∃ k,i / 64=k:=⟨_,rfl⟩
 have i3:(k:Int)<(nw n:Int):=by have:=z5n hi';omega
 have i4:(0:Int)<=(k:Int):=by omega
 have hk':(i:Int) / 64=(k:Int):=by omega
 have hk2:(i:Int).tdiv 64=(k:Int):=by rw[Int.tdiv_eq_ediv_of_nonneg i1];exact hk'
 have hk3:IntKind.i64.wrap (k:Int)=(k:Int):=by simp[IntKind.wrap,IntKind.signed,IntKind.bits];omega
 rw[hk] at c2 c3 HF;clear hk;have HO:=Z0 l1;have HP:=Z0 l2;clear h hb hr l3 e0 hb5 hcap l1 l2;go_enter Tryz.func99,Tryz.ntmps99
 go_wp2_with (first | (go_at_call 139;refine Z5 HH.out ?_) | (go_at_call 140;refine Z5 (HB.out _) ?_));go_region_with (go_at_call 140;refine Z5 (HB.out _) ?_)
 all_goals (try go_wp2)
 all_goals go_ret
 all_goals exact⟨rfl,HF.out.drew,((Out.refl _ _ _).setCell (.inl ⟨HO.out,HP.out⟩) _).drew⟩
def x0g (n:Nat) (i:Int):Int:=if inB n i=true then 0 else 10
def q1r (S:Nat->Bool) (n:Nat) (i:Int) (v:Bool):Nat->Bool:=if inB n i=true then upd S i.toNat v else S
theorem x0m {w:World} {lo hi b n:Nat} {S:Nat->Bool} (h:MapAt w lo hi b n S) (i:Int) (hi':inB n i=false) :
  Calls Tryz.prog 99 #[.pointer (some ⟨b,0,none⟩),.int .i64 i] w fun e w'=>e=.returned (.int .i64 10)/\w'=w:=by
 have HH:=Z0 (z4y h i);rw[hi'] at HH;clear hi';go_enter Tryz.func99,Tryz.ntmps99
 go_wp2_with (go_at_call 139;refine Z5 HH.out ?_);go_ret;exact⟨rfl,rfl⟩
theorem z7z {n:Nat} {i:Int} (h:inB n i=true):∃ k:Nat,i=k/\k<n/\i.toNat=k:=by
 simp[inB] at h;exact⟨i.toNat,by omega,by omega,rfl⟩
theorem q3t {w:World} {lo hi b n:Nat} {S:Nat->Bool} (h:MapAt w lo hi b n S) (i:Int) :
  Calls Tryz.prog 99 #[.pointer (some ⟨b,0,none⟩),.int .i64 i] w fun e w'=>e=.returned (.int .i64 (x0g n i))/\MapAt w' lo hi b n (q1r S n i true)/\Out lo hi w w':=by
 by_cases hi':inB n i=true
 ·unfold x0g q1r;rw[if_pos hi',if_pos hi'];obtain⟨k,rfl,hk,e⟩:=z7z hi';rw[e];exact j8u h k hk
 ·unfold x0g q1r;rw[if_neg hi',if_neg hi'];exact(x0m h i (by simpa using hi')).mono fun e w' ⟨h1,h2⟩=>⟨h1,by rw[h2];exact h,by rw[h2];exact Out.refl _ _ _⟩
theorem q1m (w:World) (m:Nat):Out 0 0 w (w.drewN m):=⟨rfl,rfl,rfl,Nat.le_refl _,fun _ _ _=>rfl⟩
def j4t (S:Nat->Bool) (n:Nat) (i:Int):Bool:=inB n i && S i.toNat
theorem j9t {w:World} {lo hi b n:Nat} {S:Nat->Bool} (h:MapAt w lo hi b n S) (i:Nat) (hi':i<n) :
  Calls Tryz.prog 115 #[.pointer (some ⟨b,0,none⟩),.int .i64 i] w fun e w'=>e=.returned (.bool (S i))/\Out 0 0 w w':=by
 have hb5:=h.bounds;obtain⟨bw,cap,hb,hcap,l1,l2,l3,hr⟩:=h.words;have c1:w.cell? ⟨b,1,none⟩=some (.slice (some ⟨bw,0,none⟩) (nw n) cap):=by simp[World.cell?,hb]
 have c2:=hr.cell (z5n hi');have HH:=Z0 (fun w (h:MapAt w lo hi b n S)=>z4y h i);have e0:inB n i=true:=by simp[inB];omega
 rw[e0] at HH;have HM:=Z0 h;have HB:=Z0 (fun w=>z9n i w (by omega));have HV:Hid ((bits .and .u64 (pk S (i / 64)) (q3n i) != 0)=S i):=by
  show (bits .and .u64 (pk S (i / 64)) (q3n i) != 0)=S i
  rw[bits_and_u64_nat _ _ (z9s _ _) (z6w _)];have hp:=q6b i;unfold q3n at *;rw[x1x];generalize 2 ^ (i % 64)=p at *
  cases hs:S i
  ·simp
  ·simp;omega
 have i1:(0:Int)<=(i:Int):=by omega
 have i2:(i:Int)<262144:=by omega
 obtain⟨k,hk⟩:∃ k,i / 64=k:=⟨_,rfl⟩
 have i3:(k:Int)<(nw n:Int):=by have:=z5n hi';omega
 have i4:(0:Int)<=(k:Int):=by omega
 have hk':(i:Int) / 64=(k:Int):=by omega
 have hk2:(i:Int).tdiv 64=(k:Int):=by rw[Int.tdiv_eq_ediv_of_nonneg i1];exact hk'
 have hk3:IntKind.i64.wrap (k:Int)=(k:Int):=by simp[IntKind.wrap,IntKind.signed,IntKind.bits];omega
 rw[hk] at c2 HV;clear hk;clear h hb hr l3 e0 hb5 hcap l1 l2;go_enter Tryz.func115,Tryz.ntmps115
 go_wp2_with fail;go_region_held3 (fun w'=>w'.cell? ⟨b,1,none⟩=some (.slice (some ⟨bw,0,none⟩) (nw n) cap)/\w'.cell? ⟨bw,k,none⟩=some (.int .u64 (pk S k))) (go_keep)
  (first | (go_at_call 139;refine Z5 (HH.out _ (by exact HM.out.drew)) ?_) | (go_at_call 140;refine Z5 (HB.out _) ?_))
 all_goals (try go_wp2)
 all_goals go_ret
 all_goals exact⟨K8 HV.out,(Out.refl _ _ _).drew⟩
theorem x0l {w:World} {lo hi b n:Nat} {S:Nat->Bool} (h:MapAt w lo hi b n S) (i:Int) (hi':inB n i=false) :
  Calls Tryz.prog 115 #[.pointer (some ⟨b,0,none⟩),.int .i64 i] w fun e w'=>e=.returned (.bool false)/\Out 0 0 w w':=by
 have HH:=Z0 (fun w (h:MapAt w lo hi b n S)=>z4y h i);rw[hi'] at HH;have HM:=Z0 h;clear h hi';go_enter Tryz.func115,Tryz.ntmps115
 go_wp2_with fail;go_quiet ((go_at_call 139;exact Calls.quiet_of_same (HH.out _ (HM.out.quiet (q1m _ _)))))
 all_goals (try go_wp2)
 all_goals go_ret
 all_goals exact⟨rfl,q1m _ _⟩
theorem j1n {w:World} {lo hi b n:Nat} {S:Nat->Bool} (h:MapAt w lo hi b n S) (i:Int) :
  Calls Tryz.prog 115 #[.pointer (some ⟨b,0,none⟩),.int .i64 i] w fun e w'=>e=.returned (.bool (j4t S n i))/\Out 0 0 w w':=by
 unfold j4t;by_cases hi':inB n i=true
 ·rw[hi'];obtain⟨k,rfl,hk,e⟩:=z7z hi';rw[e];exact j9t h k hk
 ·rw[Bool.eq_false_iff.mpr hi'];exact x0l h i (by simpa using hi')
theorem j1s {w:World} {lo hi b n:Nat} {S:Nat->Bool} (h:MapAt w lo hi b n S) (i:Nat) (hi':i<n) :
  Calls Tryz.prog 137 #[.pointer (some ⟨b,0,none⟩),.int .i64 i] w fun e w'=>e=.returned (.int .i64 0)/\MapAt w' lo hi b n (upd S i false)/\Out lo hi w w':=by
 have hb5:=h.bounds;obtain⟨bw,cap,hb,hcap,l1,l2,l3,hr⟩:=h.words;have c1:w.cell? ⟨b,1,none⟩=some (.slice (some ⟨bw,0,none⟩) (nw n) cap):=by simp[World.cell?,hb]
 have c2:=hr.cell (z5n hi');have c3:=hr.frozen (i / 64);have HH:=Z0 (z4y h i);have e0:inB n i=true:=by simp[inB];omega
 rw[e0] at HH;have HB:=Z0 (fun w=>z9n i w (by omega));have HF:=Z0 (h.store (S':=upd S i false) hb hr l1 l2 l3 (i / 64) (bits .andNot .u64 (pk S (i / 64)) (q3n i)) (by rw[F9 _ _ (z9s _ _) (z6w _)];unfold q3n;rw[j5z]) (fun j _ hj=>(z5p S i j false hj).symm) (fun j hj=>by unfold upd;rw[if_neg (by omega)];exact hb5.2.2.2.2.2 j hj));have i1:(0:Int)<=(i:Int):=by omega
 have i2:(i:Int)<262144:=by omega
 obtain⟨k,hk⟩:∃ k,i / 64=k:=⟨_,rfl⟩
 have i3:(k:Int)<(nw n:Int):=by have:=z5n hi';omega
 have i4:(0:Int)<=(k:Int):=by omega
 have hk':(i:Int) / 64=(k:Int):=by omega
 have hk2:(i:Int).tdiv 64=(k:Int):=by rw[Int.tdiv_eq_ediv_of_nonneg i1];exact hk'
 have hk3:IntKind.i64.wrap (k:Int)=(k:Int):=by simp[IntKind.wrap,IntKind.signed,IntKind.bits];omega
 rw[hk] at c2 c3 HF;clear hk;have HO:=Z0 l1;have HP:=Z0 l2;clear h hb hr l3 e0 hb5 hcap l1 l2;go_enter Tryz.func137,Tryz.ntmps137
 go_wp2_with (go_at_call 139;refine Z5 HH.out ?_);go_region_with (go_at_call 140;refine Z5 (HB.out _) ?_)
 all_goals (try go_wp2)
 all_goals go_ret
 all_goals exact⟨rfl,HF.out.drew,((Out.refl _ _ _).setCell (.inl ⟨HO.out,HP.out⟩) _).drew⟩
theorem j5a {w:World} {lo hi b n:Nat} {S:Nat->Bool} (h:MapAt w lo hi b n S) (i:Int) (hi':inB n i=false) :
  Calls Tryz.prog 137 #[.pointer (some ⟨b,0,none⟩),.int .i64 i] w fun e w'=>e=.returned (.int .i64 10)/\w'=w:=by
 have HH:=Z0 (z4y h i);rw[hi'] at HH;clear hi';go_enter Tryz.func137,Tryz.ntmps137
 go_wp2_with (go_at_call 139;refine Z5 HH.out ?_);go_ret;exact⟨rfl,rfl⟩
theorem z7i {w:World} {lo hi b n:Nat} {S:Nat->Bool} (h:MapAt w lo hi b n S) (i:Int) :
  Calls Tryz.prog 137 #[.pointer (some ⟨b,0,none⟩),.int .i64 i] w fun e w'=>e=.returned (.int .i64 (x0g n i))/\MapAt w' lo hi b n (q1r S n i false)/\Out lo hi w w':=by
 by_cases hi':inB n i=true
 ·unfold x0g q1r;rw[if_pos hi',if_pos hi'];obtain⟨k,rfl,hk,e⟩:=z7z hi';rw[e];exact j1s h k hk
 ·unfold x0g q1r;rw[if_neg hi',if_neg hi'];exact(j5a h i (by simpa using hi')).mono fun e w' ⟨h1,h2⟩=>⟨h1,by rw[h2];exact h,by rw[h2];exact Out.refl _ _ _⟩
theorem j5b {w:World} {lo hi b n:Nat} {S:Nat->Bool} (h:MapAt w lo hi b n S) (a:Int) (x:Int) (ha:(n:Int)<=a) :
  Calls Tryz.prog 133 #[.pointer (some ⟨b,0,none⟩),.int .i64 a,.int .u64 x] w fun e w'=>e=.returned (.int .i64 n)/\w'=w:=by
 have H:=Z0 (z8h h);clear h;go_enter Tryz.func133,Tryz.ntmps133
 go_wp2_with (go_at_call 134;refine Z5 H.out ?_);go_ret;exact⟨rfl,rfl⟩
def flp (S:Nat->Bool) (fl:Bool):Nat->Bool:=fun j=>S j != fl
def flv (fl:Bool):Nat:=if fl then 18446744073709551615 else 0
theorem x1h (fl:Bool):flv fl<18446744073709551616:=by cases fl <;> decide
theorem x0h (S:Nat->Bool) (fl:Bool) (s:Nat):bits .xor .u64 (pk S s) (flv fl)=pk (flp S fl) s:=by
 rw[bits_xor_u64_nat _ _ (z9s _ _) (x1h _)];cases fl
 ·show ((pk S s ^^^ 0:Nat):Int)=_
  rw[j3h];rw[z6q (S:=flp S false) (T:=S) fun j _=>by simp[flp]]
 ·show ((pk S s ^^^ 18446744073709551615:Nat):Int)=_
  rw[j5u];rw[z6q (S:=flp S true) (T:=fun j=>!S j) fun j _=>by simp[flp]]
theorem j9n (T:Nat->Bool) (a:Nat):bits .andNot .u64 (pk T (a / 64)) (IntKind.u64.wrap ((q3n a:Int)-1))=pk (Y9 T a) (a / 64):=by
 have h1:=z6w a;have h2:=q6b a;have e:IntKind.u64.wrap ((q3n a:Int)-1)=((q3n a-1:Nat):Int):=by rw[IntKind.wrap_u64];omega
 rw[e,F9 _ _ (z9s _ _) (by omega)];unfold q3n;rw[j7q]
theorem j7y {w:World} {lo hi b n:Nat} {S:Nat->Bool} (h:MapAt w lo hi b n S) (a x:Nat) (fl:Bool) (hx:x=flv fl) (ha:a<n) :
  Calls Tryz.prog 133 #[.pointer (some ⟨b,0,none⟩),.int .i64 a,.int .u64 x] w fun e w'=>e=.returned (.int .i64 (nx (flp S fl) n a))/\Out 0 0 w w':=by
 have hb5:=h.bounds;have c0:=h.len;obtain⟨bw,cap,hb,hcap,l1,l2,l3,hr⟩:=h.words;have c1:w.cell? ⟨b,1,none⟩=some (.slice (some ⟨bw,0,none⟩) (nw n) cap):=by simp[World.cell?,hb]
 have c2:=hr.cell (z5n ha);have HR:=Z0 hr;have HH:=Z0 (z8h h);have HT:=Z0 h.tab;have HB:=Z0 (fun w=>z9n a w (by omega));have HX:=Z0 (x0h S fl);rw[<-hx] at HX;clear hx;have HE:=Z0 (j9n (flp S fl) a);have HN:Hid (nw n*64<n+64/\n<=nw n*64/\nw n<=4096):=by show _/\_/\_;unfold nw;omega
 have HA:=Z0 (z5n ha);have i1:(0:Int)<=(a:Int):=by omega
 have i5:(a:Int)<(n:Int):=by omega
 obtain⟨k,hk⟩:∃ k,a / 64=k:=⟨_,rfl⟩
 have i3:(k:Int)<(nw n:Int):=by have:=z5n ha;omega
 have i4:(0:Int)<=(k:Int):=by omega
 have i7:(k:Int)<4096:=by omega
 have hk':(a:Int) / 64=(k:Int):=by omega
 have HK:=Z0 hk;rw[hk] at c2 HE HA;clear hk h hb hr l3 hb5 hcap l1 l2;go_enter Tryz.func133,Tryz.ntmps133
 go_wp2_with (go_at_call 134;refine Z5 HH.out ?_);go_region_held3 (fun w'=>w'.cell? ⟨b,1,none⟩=some (.slice (some ⟨bw,0,none⟩) (nw n) cap)/\w'.cell? ⟨bw,k,none⟩=some (.int .u64 (pk S k))) (go_keep)
  (first | (go_at_call 140;refine Z5 (HB.out _) ?_))
 rw[HX.out,HE.out];clear hk' c2;go_wp2_with fail;go_loop [7,8] (fun t r=>∃ s:Nat,k<=s/\s<nw n/\t=.int .i64 s/\r=.int .u64 (pk (Y9 (flp S fl) a) s)/\∀ j,a<=j->j<64*s->flp S fl j=false) (fun t _=>nw n-(intOf t).toNat)
 case atStart=>exact⟨k,Nat.le_refl _,HA.out,rfl,rfl,fun j h1 h2=>by have:=HK.out;omega⟩
 case round=>
  obtain⟨s,hs1,hs2,rfl,rfl,hz⟩:=hrel;have HZ:=Z0 hz;have j1:(s:Int)<(nw n:Int):=by omega
  have j2:(0:Int)<=(s:Int):=by omega
  have j3:(s:Int)<4096:=by have:=HN.out;omega
  obtain⟨r,hr⟩:∃ r,pk (Y9 (flp S fl) a) s=r:=⟨_,rfl⟩
  have hrl:r<18446744073709551616:=by rw[<-hr];exact z9s _ _
  rw[hr];have HQ:=Z0 hr;have HL:=Z0 hrl;have HG:=Z0 ha;have HS:=Z0 hs1;have HS2:=Z0 hs2;clear hz hr hrl ha hs1 hs2;by_cases h0:r=0
  ·subst h0;by_cases h1:s+1=nw n
   ·have h2:(((s:Int)+1) == (nw n:Int))=true:=by rw[beq_iff_eq];omega
    have HR1:=Z0 h1;clear h1 i3 j1;go_wp2;go_ret;refine⟨U3 ?_,(Out.refl _ _ _).drew⟩;rw[j0l (q2z HZ.out HQ.out) (by have:=HN.out;have:=HR1.out;omega)]
   ·have h2:(((s:Int)+1) == (nw n:Int))=false:=by rw[beq_eq_false_iff_ne];omega
    have h3:(s:Int)+1<(nw n:Int):=by omega
    have c3:w.cell? ⟨bw,s+1,none⟩=some (.int .u64 (pk S (s+1))):=HR.out.cell (by omega);have HR1:=Z0 h1;clear h1;go_wp2;rw[HX.out,<-j9r (flp S fl) a (s+1) (by have:=HS.out;have:=HK.out;omega)];go_round
    case rel=>exact⟨s+1,by have:=HS.out;omega,by have:=HS2.out;have:=HR1.out;omega,by go_num,rfl,q2z HZ.out HQ.out⟩
    case measure=>simp[intOf];omega
  ·have h2:((r:Int) == 0)=false:=by rw[beq_eq_false_iff_ne];omega
   have HC:=Z0 (fun w (hT:Tab w)=>x1k r HL.out h0 hT);have HV:=Z0 (q7q (n:=n) HG.out (by rw[HK.out];exact HS.out) HZ.out (by rw[HQ.out];exact h0));rw[HQ.out] at HV;have hc6:(Lib.ctz 64 r:Int)<64:=by have:=(q7a r h0 HL.out).1;omega
   generalize Lib.ctz 64 r=c at *
   have hw1:IntKind.i64.wrap ((s:Int)*64)=(s:Int)*64:=by simp[IntKind.wrap,IntKind.signed,IntKind.bits];omega
   have hw2:IntKind.i64.wrap ((s:Int)*64+(c:Int))=(s:Int)*64+(c:Int):=by simp[IntKind.wrap,IntKind.signed,IntKind.bits];omega
   by_cases hm:(n:Int)<(s:Int)*64+(c:Int)
   ·go_wp2_with fail;go_region_held3 (fun w'=>w'.cell? ⟨b,0,none⟩=some (.int .i64 n)) (go_keep)
     (first | (go_at_call 160;refine Z5 (HC.out _ (by exact HT.out)) ?_))
    all_goals (try go_wp2)
    all_goals go_ret
    all_goals exact⟨U3 (by have:=HV.out;omega),(Out.refl _ _ _).drew.drew⟩
   ·go_wp2_with fail;go_region_held3 (fun w'=>w'.cell? ⟨b,0,none⟩=some (.int .i64 n)) (go_keep)
     (first | (go_at_call 160;refine Z5 (HC.out _ (by exact HT.out)) ?_))
    all_goals (try go_wp2)
    all_goals go_ret
    all_goals exact⟨U3 (by have:=HV.out;omega),(Out.refl _ _ _).drew.drew⟩
theorem x0x (S:Nat->Bool):flp S false=S:=by funext j;simp[flp]
theorem j3p {w:World} {lo hi b n:Nat} {S:Nat->Bool} (h:MapAt w lo hi b n S) (a:Int) (x:Nat) (fl:Bool) (hx:x=flv fl) (ha:0<=a) :
  Calls Tryz.prog 133 #[.pointer (some ⟨b,0,none⟩),.int .i64 a,.int .u64 x] w fun e w'=>e=.returned (.int .i64 (nx (flp S fl) n a.toNat))/\Out 0 0 w w':=by
 by_cases hn:a<n
 ·obtain⟨k,rfl⟩:=Int.eq_ofNat_of_zero_le ha;rw[Int.toNat_natCast];exact j7y h k x fl hx (by omega)
 ·rw[q3b _ _ _ (by omega)];exact(j5b h a x (by omega)).mono fun e w' ⟨h1,h2⟩=>⟨h1,by rw[h2];exact Out.refl _ _ _⟩
theorem z2a {w:World} {lo hi b n:Nat} {S:Nat->Bool} (h:MapAt w lo hi b n S) (a:Int) :
  Calls Tryz.prog 90 #[.pointer (some ⟨b,0,none⟩),.int .i64 a] w fun e w'=>e=.returned (.int .i64 (nxr S n a.toNat))/\Out 0 0 w w':=by
 have hS:=j3p h (max a 0) 0 false rfl (by omega);rw[x0x,show (max a 0).toNat=a.toNat from by omega] at hS;have HL:=Z0 (fun w (h:MapAt w lo hi b n S)=>z8h h);have HM:=Z0 h;have hle:=j0m S n a.toNat;unfold nxr;generalize nx S n a.toNat=r at *
 by_cases h0:0<=a
 ·rw[show max a 0=a from by omega] at hS;have HS:=Z0 hS;clear hS h;by_cases hr:r<n
  ·rw[if_pos hr];have e:((r:Int) == (n:Int))=false:=by rw[beq_eq_false_iff_ne];omega
   go_enter Tryz.func90,Tryz.ntmps90
   go_wp2_with fail;refine HS.out.mono ?_;rintro e' w1 ⟨rfl,hg⟩;have HG:=Z0 hg;clear hg;go_wp2_with (go_at_call 134;refine Z5 (HL.out _ (HM.out.quiet HG.out)) ?_);go_ret;exact⟨rfl,HG.out⟩
  ·rw[if_neg hr];obtain rfl:r=n:=by omega
   have e:((r:Int) == (r:Int))=true:=by simp
   go_enter Tryz.func90,Tryz.ntmps90
   go_wp2_with fail;refine HS.out.mono ?_;rintro e' w1 ⟨rfl,hg⟩;have HG:=Z0 hg;clear hg;go_wp2_with (go_at_call 134;refine Z5 (HL.out _ (HM.out.quiet HG.out)) ?_);go_ret;exact⟨rfl,HG.out⟩
 ·rw[show max a 0=0 from by omega] at hS;have HS:=Z0 hS;clear hS h;by_cases hr:r<n
  ·rw[if_pos hr];have e:((r:Int) == (n:Int))=false:=by rw[beq_eq_false_iff_ne];omega
   go_enter Tryz.func90,Tryz.ntmps90
   go_wp2_with fail;refine HS.out.mono ?_;rintro e' w1 ⟨rfl,hg⟩;have HG:=Z0 hg;clear hg;go_wp2_with (go_at_call 134;refine Z5 (HL.out _ (HM.out.quiet HG.out)) ?_);go_ret;exact⟨rfl,HG.out⟩
  ·rw[if_neg hr];obtain rfl:r=n:=by omega
   have e:((r:Int) == (r:Int))=true:=by simp
   go_enter Tryz.func90,Tryz.ntmps90
   go_wp2_with fail;refine HS.out.mono ?_;rintro e' w1 ⟨rfl,hg⟩;have HG:=Z0 hg;clear hg;go_wp2_with (go_at_call 134;refine Z5 (HL.out _ (HM.out.quiet HG.out)) ?_);go_ret;exact⟨rfl,HG.out⟩
end Go.Proofs.YtjbbkeoolodeaabGreatDoor
