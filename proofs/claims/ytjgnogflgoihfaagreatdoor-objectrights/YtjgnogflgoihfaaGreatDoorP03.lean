import Derived.Test.YtjgnogflgoihfaaGreatDoorP02
import Derived.Shelf.Spec.TrailingZeros
import Derived.BigQuiet
namespace Go.Proofs.YtjgnogflgoihfaaGreatDoor
open Go.RowKit
set_option linter.unusedVariables false
set_option maxRecDepth 100000
set_option maxHeartbeats 16000000
set_option linter.unusedSimpArgs false
theorem z9w {w:World} {lo hi b n:Nat} {S:Nat->Bool} (h:MapAt w lo hi b n S) :
  Kz 150 #[Pq b] w fun e w'=>e=.returned (Iz n)/\w'=w:=by
 have c0:=h.len;go_enter Tryz.func150,Tryz.ntmps150
 go_wp2;go_ret;exact⟨rfl,rfl⟩
theorem z7c {w:World} {lo hi b n:Nat} {S:Nat->Bool} (h:MapAt w lo hi b n S) (i:Int) :
  Kz 182 #[Pq b,Iz i] w fun e w'=>e=.returned (.bool (inB n i))/\w'=w:=by
 have H:=Q3 (z9w h);by_cases h0:0<=i
 ·by_cases h1:i<n
  ·have e:inB n i=true:=by simp[inB,h0,h1]
   rw[e];go_enter Tryz.func182,Tryz.ntmps182
   go_wp2_with (go_at_call 150;refine Q4 H.out ?_)
   all_goals go_ret
   all_goals exact⟨rfl,rfl⟩
  ·have e:inB n i=false:=by simp[inB,h1]
   rw[e];go_enter Tryz.func182,Tryz.ntmps182
   go_wp2_with (go_at_call 150;refine Q4 H.out ?_)
   all_goals go_ret
   all_goals exact⟨B7 (by simp;omega),rfl⟩
 ·have e:inB n i=false:=by simp[inB,h0]
  rw[e];go_enter Tryz.func182,Tryz.ntmps182
  go_wp2_with (go_at_call 150;refine Q4 H.out ?_)
  all_goals go_ret
  all_goals exact⟨rfl,rfl⟩
def q6u (i:Nat):Nat:=2 ^ (i % 64)
theorem z9f (i:Nat):q6u i<18446744073709551616:=Nat.pow_lt_pow_right (a:=2) (by omega) (show i % 64<64 by omega)
theorem q9w (i:Nat):0<q6u i:=Nat.two_pow_pos _
theorem q2i (i:Nat) (w:World) (hi:i<1000000) :
  Kz 183 #[Iz i] w fun e w'=>e=.returned (.int .u64 (q6u i))/\w'=w:=by
 have h0:(0:Int)<=(i:Int):=by omega
 have h1:(i:Int)<1000000:=by omega
 go_enter Tryz.func183,Tryz.ntmps183
 go_wp2;go_ret;refine⟨G8 ?_,rfl⟩;rw[IntKind.wrap_u64];have h2:=z9f i;have h3:((q6u i:Nat):Int)=2 ^ (i % 64):=by unfold q6u;simp
 show (2:Int) ^ (i % 64) % 18446744073709551616=_
 rw[<-h3];omega
theorem x5s (x k idx:Nat) (w:World) (hx0:((x:Int) == 0)=false)
  (key:IntKind.u64.wrap (bits BinOp.and IntKind.u64 (x:Int) (IntKind.u64.wrap (-(x:Int)))*285870213051353865) / 288230376151711744=(idx:Int))
  (hi:idx<64) (hk:k<64) (eE:cq w 3 idx=some (.int .u8 k)) :
  Kz 193 #[.int .u64 x] w fun e w'=>e=.returned (Iz k)/\w'=w:=by
 go_enter Tryz.func193,Tryz.ntmps193
 go_wp2_with (simp only[key]);go_ret;exact⟨rfl,rfl⟩
theorem x8a (x:Nat) (hx:x<18446744073709551616) (hx0:x ≠ 0) {w:World} (hT:Tab w) :
  Calls Tryz.prog 193 #[.int .u64 x] w fun e w'=>e=.returned (.int .i64 (Lib.ctz 64 x))/\w'=w:=by
 obtain⟨aL,hk⟩:=Lib.lowest_bit 64 x hx0 hx;obtain⟨hi,htab⟩:=Lib.deBruijn64_at _ hk;have eE:=hT.2.2 _ hi;rw[htab] at eE;exact x5s x _ _ w (by simp;omega) (tz64_key x _ hx hx0 aL) hi hk eE
theorem j3y (a c:Nat) (ha:a<18446744073709551616) (hc:c<18446744073709551616) (x y:Int) (hx:x=(a:Int)) (hy:y=(c:Int)):bits .and .u64 x y=((a &&& c:Nat):Int):=by
 rw[hx,hy];exact bits_and_u64_nat a c ha hc
theorem x7h (x:Nat) (hx:x<18446744073709551616):IntKind.u64.wrap (bits BinOp.and IntKind.u64 ((x:Int) / 2) 6148914691236517205+bits BinOp.and IntKind.u64 (x:Int) 6148914691236517205)=((ocA x:Nat):Int)/\ocA x<=12297829382473034410:=by
 have h1:=j3y (x / 2) 6148914691236517205 (by omega) (by omega) ((x:Int) / 2) 6148914691236517205 (by omega) rfl;have h2:=j3y x 6148914691236517205 (by omega) (by omega) (x:Int) 6148914691236517205 rfl rfl;have l1:x / 2 &&& 6148914691236517205<=6148914691236517205:=Nat.and_le_right;have l2:x &&& 6148914691236517205<=6148914691236517205:=Nat.and_le_right;rw[h1,h2,IntKind.wrap_u64];unfold ocA;generalize x / 2 &&& 6148914691236517205=p at *
 generalize x &&& 6148914691236517205=q at *
 omega
theorem x7i (x:Nat) (hx:x<18446744073709551616):IntKind.u64.wrap (bits BinOp.and IntKind.u64 ((x:Int) / 4) 3689348814741910323+bits BinOp.and IntKind.u64 (x:Int) 3689348814741910323)=((ocB x:Nat):Int)/\ocB x<=7378697629483820646:=by
 have h1:=j3y (x / 4) 3689348814741910323 (by omega) (by omega) ((x:Int) / 4) 3689348814741910323 (by omega) rfl;have h2:=j3y x 3689348814741910323 (by omega) (by omega) (x:Int) 3689348814741910323 rfl rfl;have l1:x / 4 &&& 3689348814741910323<=3689348814741910323:=Nat.and_le_right;have l2:x &&& 3689348814741910323<=3689348814741910323:=Nat.and_le_right;rw[h1,h2,IntKind.wrap_u64];unfold ocB;generalize x / 4 &&& 3689348814741910323=p at *
 generalize x &&& 3689348814741910323=q at *
 omega
theorem x7j (x:Nat) (hx:x<=7378697629483820646):bits BinOp.and IntKind.u64 (IntKind.u64.wrap ((x:Int) / 16+(x:Int))) 1085102592571150095=((ocC x:Nat):Int):=by
 refine j3y (x / 16+x) 1085102592571150095 (by omega) (by omega) _ _ ?_ rfl;rw[IntKind.wrap_u64];omega
theorem sum_a (y:Nat) (h:y+y / 256<18446744073709551616):IntKind.u64.wrap ((y:Int)+(y:Int) / 256)=((y+y / 256:Nat):Int):=by
 rw[IntKind.wrap_u64];omega
theorem sum_b (y:Nat) (h:y+y / 65536<18446744073709551616):IntKind.u64.wrap ((y:Int)+(y:Int) / 65536)=((y+y / 65536:Nat):Int):=by
 rw[IntKind.wrap_u64];omega
theorem sum_c (y:Nat) (h:y+y / 4294967296<18446744073709551616):IntKind.u64.wrap ((y:Int)+(y:Int) / 4294967296)=((y+y / 4294967296:Nat):Int):=by
 rw[IntKind.wrap_u64];omega
theorem x6t (v:Nat):bits BinOp.and IntKind.i64 (wrap64 (v:Int)) 127=((v % 128:Nat):Int):=by
 rw[i64_and127];unfold wrap64;omega
theorem x0v (x:Nat) (hx:x<18446744073709551616) (w:World) :
  Kz 218 #[.int .u64 x] w fun e w'=>e=.returned (Iz (pop x))/\w'=w:=by
 obtain⟨y,hy,y1,y2,y3,y4⟩:=x7k x;have HY:=Q3 hy;have H1:=Q3 y1;have H2:=Q3 y2;have H3:=Q3 y3;have H4:=Q3 y4;clear hy y1 y2 y3 y4;have hx':(x:Int)<18446744073709551616:=by omega
 have hx0:(0:Int)<=(x:Int):=by omega
 go_enter Tryz.func218,Tryz.ntmps218
 go_wp2;go_ret;refine⟨G8 ?_,rfl⟩;obtain⟨a1,a2⟩:=x7h x hx;rw[a1];obtain⟨b1,b2⟩:=x7i (ocA x) (by omega);rw[b1,x7j _ b2,HY.out];rw[sum_a y H1.out,sum_b _ H2.out,sum_c _ H3.out,x6t,H4.out]
theorem j9z:(Tryz.prog.info? 195).map (fun i=>(i.zero,i.size,i.bytes))=some (some (.int .u64 0),1,8):=by kernel_rfl
theorem q0b (i:Nat):pk (fun _=>false) i=0:=(q1r fun j=>by simp).symm
theorem j6h (n:Nat) (w:World) (h:n<=262144) (hT:Tab w):MapAt ((w.alloc (.cells (madeCells #[.int .u64 0] (nw n)) 195)).alloc (.cells #[.int .i64 n,.slice (some ⟨w.heap.size,0,none⟩) (nw n) (nw n)] 211))
  w.heap.size ((w.alloc (.cells (madeCells #[.int .u64 0] (nw n)) 195)).alloc (.cells #[.int .i64 n,.slice (some ⟨w.heap.size,0,none⟩) (nw n) (nw n)] 211)).heap.size (w.heap.size+1) n (fun _=>false):=by
 have g:Out 0 0 w ((w.alloc (.cells (madeCells #[.int .u64 0] (nw n)) 195)).alloc (.cells #[.int .i64 n,.slice (some ⟨w.heap.size,0,none⟩) (nw n) (nw n)] 211)):=((Out.refl _ _ _).alloc _).alloc _;refine⟨_,_,heap_alloc2_new _ _ _,by omega,by simp,Nat.le_refl _,hT.lt,h,Nat.le_refl _,fun _ _=>rfl,hT.kept g (.inr rfl),Nat.le_refl _,by simp;omega,by omega,?_⟩;obtain⟨c,hb,hn,hc⟩:=(World.rowIs_made w (.int .u64 0) (nw n) 195).alloc (.cells #[.int .i64 n,.slice (some ⟨w.heap.size,0,none⟩) (nw n) (nw n)] 211);exact⟨c,hb,by omega,fun i hi=>by rw[hc i hi];show some (Value.int IntKind.u64 0)=some (Value.int IntKind.u64 ↑(pk (fun _=>false) i));rw[q0b];rfl⟩
theorem MapAt.words {w:World} {lo hi b n:Nat} {S:Nat->Bool} (h:MapAt w lo hi b n S) :
  ∃ bw cap,w.heap[b]? = some (.cells #[.int .i64 n,.slice (some ⟨bw,0,none⟩) (nw n) cap] 211 (0,0))/\nw n<=cap/\lo<=bw/\bw<hi/\bw ≠ b/\Row w bw 195 (nw n) (fun i=>.int .u64 (pk S i)):=by
 obtain⟨bw,cap,hb,h1,h2,h3,h4,h5,h6,h7,h8,l1,l2,l3,hr⟩:=h;exact⟨bw,cap,hb,h6,l1,l2,l3,hr⟩
theorem MapAt.store {w:World} {lo hi b n bw cap:Nat} {S S':Nat->Bool} (h:MapAt w lo hi b n S) (hb:w.heap[b]? = some (.cells #[.int .i64 n,.slice (some ⟨bw,0,none⟩) (nw n) cap] 211 (0,0)))
  (hr:Row w bw 195 (nw n) (fun i=>.int .u64 (pk S i))) (l1:lo<=bw) (l2:bw<hi) (l3:bw ≠ b) (k:Nat) (v:Int) (hv:v=pk S' k) (ho:∀ i,i<nw n->i ≠ k->pk S i=pk S' i) (hS:∀ j,n<=j->S' j=false) :
  MapAt (w.setCell ⟨bw,k,none⟩ (.int .u64 v)) lo hi b n S':=by
 obtain⟨bw',eD,kW,h1,h2,h3,h4,h5,h6,h7,h8,h9⟩:=h;have e:=hb.symm.trans kW;simp at e;obtain⟨e1,e2⟩:=e;subst e1 e2;have g:Out lo hi w (w.setCell ⟨bw,k,none⟩ (.int .u64 v)):=(Out.refl _ _ _).setCell (.inl ⟨l1,l2⟩) _;refine⟨_,_,?_,h1,h2,Nat.le_trans h3 g.size,h4,h5,h6,hS,h8.kept g (.inl h4),l1,l2,l3,?_⟩
 ·rw[Below.heap_setCell _ _ _ _ (Ne.symm l3)];exact hb
 ·refine(hr.set k _).congr fun i hi=>?_
  by_cases e:i=k
  ·subst e;simp only[if_true];rw[hv]
  ·simp only[if_neg e];rw[ho i hi e]
theorem z7g {i n:Nat} (h:i<n):i / 64<nw n:=by unfold nw;omega
theorem x5m {w:World} {lo hi b n:Nat} {S:Nat->Bool} (h:MapAt w lo hi b n S) (i:Nat) (bV:i<n) :
  Kz 136 #[Pq b,Iz i] w fun e w'=>e=.returned (Iz 0)/\MapAt w' lo hi b n (upd S i true)/\Out lo hi w w':=by
 have hb5:=h.bounds;obtain⟨bw,cap,hb,mK,l1,l2,l3,hr⟩:=h.words;have c1:cq w b 1=some (Sz bw (nw n) cap):=by simp[World.cell?,hb]
 have c2:=hr.cell (z7g bV);have c3:=hr.frozen (i / 64);have HH:=Q3 (z7c h i);have e0:inB n i=true:=by simp[inB];omega
 rw[e0] at HH;have HB:=Q3 (fun w=>q2i i w (by omega));have HF:=Q3 (h.store (S':=upd S i true) hb hr l1 l2 l3 (i / 64) (bits .or .u64 (pk S (i / 64)) (q6u i)) (by rw[bits_or_u64_nat _ _ (q3h _ _) (z9f _)];unfold q6u;rw[x7t]) (fun j _ hj=>(z7x S i j true hj).symm) (fun j hj=>by unfold upd;rw[if_neg (by omega)];exact hb5.2.2.2.2.2 j hj));have i1:(0:Int)<=(i:Int):=by omega
 have i2:(i:Int)<262144:=by omega
 obtain⟨k,hk⟩:∃ k,i / 64=k:=⟨_,rfl⟩
 have i3:(k:Int)<(nw n:Int):=by have:=z7g bV;omega
 have i4:(0:Int)<=(k:Int):=by omega
 have hk':(i:Int) / 64=(k:Int):=by omega
 have kP:(i:Int).tdiv 64=(k:Int):=by rw[Int.tdiv_eq_ediv_of_nonneg i1];exact hk'
 have hk3:IntKind.i64.wrap (k:Int)=(k:Int):=by simp[IntKind.wrap,IntKind.signed,IntKind.bits];omega
 rw[hk] at c2 c3 HF;clear hk;have HO:=Q3 l1;have HP:=Q3 l2;clear h hb hr l3 e0 hb5 mK l1 l2;go_enter Tryz.func136,Tryz.ntmps136
 go_wp2_with (first | (go_at_call 182;refine Q4 HH.out ?_) | (go_at_call 183;refine Q4 (HB.out _) ?_));go_region_with (go_at_call 183;refine Q4 (HB.out _) ?_)
 all_goals (try go_wp2)
 all_goals go_ret
 all_goals exact⟨rfl,HF.out.drew,((Out.refl _ _ _).setCell (.inl ⟨HO.out,HP.out⟩) _).drew⟩
def x6b (n:Nat) (i:Int):Int:=if inB n i=true then 0 else 10
def q6c (S:Nat->Bool) (n:Nat) (i:Int) (v:Bool):Nat->Bool:=if inB n i=true then upd S i.toNat v else S
theorem x7x {w:World} {lo hi b n:Nat} {S:Nat->Bool} (h:MapAt w lo hi b n S) (i:Int) (bV:inB n i=false) :
  Kz 136 #[Pq b,Iz i] w fun e w'=>e=.returned (Iz 10)/\w'=w:=by
 have HH:=Q3 (z7c h i);rw[bV] at HH;clear bV;go_enter Tryz.func136,Tryz.ntmps136
 go_wp2_with (go_at_call 182;refine Q4 HH.out ?_);go_ret;exact⟨rfl,rfl⟩
theorem z7d {n:Nat} {i:Int} (h:inB n i=true):∃ k:Nat,i=k/\k<n/\i.toNat=k:=by
 simp[inB] at h;exact⟨i.toNat,by omega,by omega,rfl⟩
theorem q9c {w:World} {lo hi b n:Nat} {S:Nat->Bool} (h:MapAt w lo hi b n S) (i:Int) :
  Calls Tryz.prog 136 #[.pointer (some ⟨b,0,none⟩),.int .i64 i] w fun e w'=>e=.returned (.int .i64 (x6b n i))/\MapAt w' lo hi b n (q6c S n i true)/\Out lo hi w w':=by
 by_cases bV:inB n i=true
 ·unfold x6b q6c;rw[if_pos bV,if_pos bV];obtain⟨k,rfl,hk,e⟩:=z7d bV;rw[e];exact x5m h k hk
 ·unfold x6b q6c;rw[if_neg bV,if_neg bV];exact(x7x h i (by simpa using bV)).mono fun e w' ⟨h1,h2⟩=>⟨h1,by rw[h2];exact h,by rw[h2];exact Out.refl _ _ _⟩
theorem q5n (w:World) (m:Nat):Out 0 0 w (w.drewN m):=⟨rfl,rfl,rfl,Nat.le_refl _,fun _ _ _=>rfl⟩
def j9v (S:Nat->Bool) (n:Nat) (i:Int):Bool:=inB n i && S i.toNat
theorem x4b {w:World} {lo hi b n:Nat} {S:Nat->Bool} (h:MapAt w lo hi b n S) (i:Nat) (bV:i<n) :
  Kz 138 #[Pq b,Iz i] w fun e w'=>e=.returned (.bool (S i))/\Out 0 0 w w':=by
 have hb5:=h.bounds;obtain⟨bw,cap,hb,mK,l1,l2,l3,hr⟩:=h.words;have c1:cq w b 1=some (Sz bw (nw n) cap):=by simp[World.cell?,hb]
 have c2:=hr.cell (z7g bV);have HH:=Q3 (fun w (h:MapAt w lo hi b n S)=>z7c h i);have e0:inB n i=true:=by simp[inB];omega
 rw[e0] at HH;have HM:=Q3 h;have HB:=Q3 (fun w=>q2i i w (by omega));have HV:Hid ((bits .and .u64 (pk S (i / 64)) (q6u i) != 0)=S i):=by
  show (bits .and .u64 (pk S (i / 64)) (q6u i) != 0)=S i
  rw[bits_and_u64_nat _ _ (q3h _ _) (z9f _)];have hp:=q9w i;unfold q6u at *;rw[x7s];generalize 2 ^ (i % 64)=p at *
  cases hs:S i
  ·simp
  ·simp;omega
 have i1:(0:Int)<=(i:Int):=by omega
 have i2:(i:Int)<262144:=by omega
 obtain⟨k,hk⟩:∃ k,i / 64=k:=⟨_,rfl⟩
 have i3:(k:Int)<(nw n:Int):=by have:=z7g bV;omega
 have i4:(0:Int)<=(k:Int):=by omega
 have hk':(i:Int) / 64=(k:Int):=by omega
 have kP:(i:Int).tdiv 64=(k:Int):=by rw[Int.tdiv_eq_ediv_of_nonneg i1];exact hk'
 have hk3:IntKind.i64.wrap (k:Int)=(k:Int):=by simp[IntKind.wrap,IntKind.signed,IntKind.bits];omega
 rw[hk] at c2 HV;clear hk h hb hr l3 e0 hb5 mK l1 l2;go_enter Tryz.func138,Tryz.ntmps138
 go_wp2_with fail;go_region_held3 (fun w'=>cq w' b 1=some (Sz bw (nw n) cap)/\cq w' bw k=some (.int .u64 (pk S k))) (go_keep)
  (first | (go_at_call 182;refine Q4 (HH.out _ (by exact HM.out.drew)) ?_) | (go_at_call 183;refine Q4 (HB.out _) ?_))
 all_goals (try go_wp2)
 all_goals go_ret
 all_goals exact⟨B7 HV.out,(Out.refl _ _ _).drew⟩
theorem x6n {w:World} {lo hi b n:Nat} {S:Nat->Bool} (h:MapAt w lo hi b n S) (i:Int) (bV:inB n i=false) :
  Kz 138 #[Pq b,Iz i] w fun e w'=>e=.returned (.bool false)/\Out 0 0 w w':=by
 have HH:=Q3 (fun w (h:MapAt w lo hi b n S)=>z7c h i);rw[bV] at HH;have HM:=Q3 h;clear h bV;go_enter Tryz.func138,Tryz.ntmps138
 go_wp2_with fail;go_quiet ((go_at_call 182;exact Calls.quiet_of_same (HH.out _ (HM.out.quiet (q5n _ _)))))
 all_goals (try go_wp2)
 all_goals go_ret
 all_goals exact⟨rfl,q5n _ _⟩
theorem j5n {w:World} {lo hi b n:Nat} {S:Nat->Bool} (h:MapAt w lo hi b n S) (i:Int) :
  Calls Tryz.prog 138 #[.pointer (some ⟨b,0,none⟩),.int .i64 i] w fun e w'=>e=.returned (.bool (j9v S n i))/\Out 0 0 w w':=by
 unfold j9v;by_cases bV:inB n i=true
 ·rw[bV];obtain⟨k,rfl,hk,e⟩:=z7d bV;rw[e];exact x4b h k hk
 ·rw[Bool.eq_false_iff.mpr bV];exact x6n h i (by simpa using bV)
theorem j4i {w:World} {lo hi b n:Nat} {S:Nat->Bool} (h:MapAt w lo hi b n S) (i:Nat) (bV:i<n) :
  Kz 186 #[Pq b,Iz i] w fun e w'=>e=.returned (Iz 0)/\MapAt w' lo hi b n (upd S i false)/\Out lo hi w w':=by
 have hb5:=h.bounds;obtain⟨bw,cap,hb,mK,l1,l2,l3,hr⟩:=h.words;have c1:cq w b 1=some (Sz bw (nw n) cap):=by simp[World.cell?,hb]
 have c2:=hr.cell (z7g bV);have c3:=hr.frozen (i / 64);have HH:=Q3 (z7c h i);have e0:inB n i=true:=by simp[inB];omega
 rw[e0] at HH;have HB:=Q3 (fun w=>q2i i w (by omega));have HF:=Q3 (h.store (S':=upd S i false) hb hr l1 l2 l3 (i / 64) (bits .andNot .u64 (pk S (i / 64)) (q6u i)) (by rw[z0p _ _ (q3h _ _) (z9f _)];unfold q6u;rw[x1b]) (fun j _ hj=>(z7x S i j false hj).symm) (fun j hj=>by unfold upd;rw[if_neg (by omega)];exact hb5.2.2.2.2.2 j hj));have i1:(0:Int)<=(i:Int):=by omega
 have i2:(i:Int)<262144:=by omega
 obtain⟨k,hk⟩:∃ k,i / 64=k:=⟨_,rfl⟩
 have i3:(k:Int)<(nw n:Int):=by have:=z7g bV;omega
 have i4:(0:Int)<=(k:Int):=by omega
 have hk':(i:Int) / 64=(k:Int):=by omega
 have kP:(i:Int).tdiv 64=(k:Int):=by rw[Int.tdiv_eq_ediv_of_nonneg i1];exact hk'
 have hk3:IntKind.i64.wrap (k:Int)=(k:Int):=by simp[IntKind.wrap,IntKind.signed,IntKind.bits];omega
 rw[hk] at c2 c3 HF;clear hk;have HO:=Q3 l1;have HP:=Q3 l2;clear h hb hr l3 e0 hb5 mK l1 l2;go_enter Tryz.func186,Tryz.ntmps186
 go_wp2_with (go_at_call 182;refine Q4 HH.out ?_);go_region_with (go_at_call 183;refine Q4 (HB.out _) ?_)
 all_goals (try go_wp2)
 all_goals go_ret
 all_goals exact⟨rfl,HF.out.drew,((Out.refl _ _ _).setCell (.inl ⟨HO.out,HP.out⟩) _).drew⟩
theorem j9a {w:World} {lo hi b n:Nat} {S:Nat->Bool} (h:MapAt w lo hi b n S) (i:Int) (bV:inB n i=false) :
  Kz 186 #[Pq b,Iz i] w fun e w'=>e=.returned (Iz 10)/\w'=w:=by
 have HH:=Q3 (z7c h i);rw[bV] at HH;clear bV;go_enter Tryz.func186,Tryz.ntmps186
 go_wp2_with (go_at_call 182;refine Q4 HH.out ?_);go_ret;exact⟨rfl,rfl⟩
theorem z9i {w:World} {lo hi b n:Nat} {S:Nat->Bool} (h:MapAt w lo hi b n S) (i:Int) :
  Calls Tryz.prog 186 #[.pointer (some ⟨b,0,none⟩),.int .i64 i] w fun e w'=>e=.returned (.int .i64 (x6b n i))/\MapAt w' lo hi b n (q6c S n i false)/\Out lo hi w w':=by
 by_cases bV:inB n i=true
 ·unfold x6b q6c;rw[if_pos bV,if_pos bV];obtain⟨k,rfl,hk,e⟩:=z7d bV;rw[e];exact j4i h k hk
 ·unfold x6b q6c;rw[if_neg bV,if_neg bV];exact(j9a h i (by simpa using bV)).mono fun e w' ⟨h1,h2⟩=>⟨h1,by rw[h2];exact h,by rw[h2];exact Out.refl _ _ _⟩
theorem x1o {w:World} {lo hi b n:Nat} {S:Nat->Bool} (h:MapAt w lo hi b n S) (a:Int) (x:Int) (ha:(n:Int)<=a) :
  Kz 149 #[Pq b,Iz a,.int .u64 x] w fun e w'=>e=.returned (Iz n)/\w'=w:=by
 have H:=Q3 (z9w h);clear h;go_enter Tryz.func149,Tryz.ntmps149
 go_wp2_with (go_at_call 150;refine Q4 H.out ?_);go_ret;exact⟨rfl,rfl⟩
def flp (S:Nat->Bool) (fl:Bool):Nat->Bool:=fun j=>S j != fl
def flv (fl:Bool):Nat:=if fl then 18446744073709551615 else 0
theorem x6k (fl:Bool):flv fl<18446744073709551616:=by cases fl <;> decide
theorem x7r (S:Nat->Bool) (fl:Bool) (s:Nat):bits .xor .u64 (pk S s) (flv fl)=pk (flp S fl) s:=by
 rw[bits_xor_u64_nat _ _ (q3h _ _) (x6k _)];cases fl
 ·show ((pk S s ^^^ 0:Nat):Int)=_
  rw[x1d];rw[z8t (S:=flp S false) (T:=S) fun j _=>by simp[flp]]
 ·show ((pk S s ^^^ 18446744073709551615:Nat):Int)=_
  rw[x1e];rw[z8t (S:=flp S true) (T:=fun j=>!S j) fun j _=>by simp[flp]]
theorem x4d (T:Nat->Bool) (a:Nat):bits .andNot .u64 (pk T (a / 64)) (IntKind.u64.wrap ((q6u a:Int)-1))=pk (z6z T a) (a / 64):=by
 have h1:=z9f a;have h2:=q9w a;have e:IntKind.u64.wrap ((q6u a:Int)-1)=((q6u a-1:Nat):Int):=by rw[IntKind.wrap_u64];omega
 rw[e,z0p _ _ (q3h _ _) (by omega)];unfold q6u;rw[x5a]
theorem x5l {w:World} {lo hi b n:Nat} {S:Nat->Bool} (h:MapAt w lo hi b n S) (a x:Nat) (fl:Bool) (hx:x=flv fl) (ha:a<n) :
  Kz 149 #[Pq b,Iz a,.int .u64 x] w fun e w'=>e=.returned (Iz (nx (flp S fl) n a))/\Out 0 0 w w':=by
 have hb5:=h.bounds;have c0:=h.len;obtain⟨bw,cap,hb,mK,l1,l2,l3,hr⟩:=h.words;have c1:cq w b 1=some (Sz bw (nw n) cap):=by simp[World.cell?,hb]
 have c2:=hr.cell (z7g ha);have HR:=Q3 hr;have HH:=Q3 (z9w h);have HT:=Q3 h.tab;have HB:=Q3 (fun w=>q2i a w (by omega));have HX:=Q3 (x7r S fl);rw[<-hx] at HX;clear hx;have HE:=Q3 (x4d (flp S fl) a);have HN:Hid (nw n*64<n+64/\n<=nw n*64/\nw n<=4096):=by show _/\_/\_;unfold nw;omega
 have HA:=Q3 (z7g ha);have i1:(0:Int)<=(a:Int):=by omega
 have i5:(a:Int)<(n:Int):=by omega
 obtain⟨k,hk⟩:∃ k,a / 64=k:=⟨_,rfl⟩
 have i3:(k:Int)<(nw n:Int):=by have:=z7g ha;omega
 have i4:(0:Int)<=(k:Int):=by omega
 have i7:(k:Int)<4096:=by omega
 have hk':(a:Int) / 64=(k:Int):=by omega
 have HK:=Q3 hk;rw[hk] at c2 HE HA;clear hk h hb hr l3 hb5 mK l1 l2;go_enter Tryz.func149,Tryz.ntmps149
 go_wp2_with (go_at_call 150;refine Q4 HH.out ?_);go_region_held3 (fun w'=>cq w' b 1=some (Sz bw (nw n) cap)/\cq w' bw k=some (.int .u64 (pk S k))) (go_keep)
  (first | (go_at_call 183;refine Q4 (HB.out _) ?_))
 rw[HX.out,HE.out];clear hk' c2;go_wp2_with fail;go_loop [7,8] (fun t r=>∃ s:Nat,k<=s/\s<nw n/\t=Iz s/\r=.int .u64 (pk (z6z (flp S fl) a) s)/\∀ j,a<=j->j<64*s->flp S fl j=false) (fun t _=>nw n-(intOf t).toNat)
 case atStart=>exact⟨k,Nat.le_refl _,HA.out,rfl,rfl,fun j h1 h2=>by have:=HK.out;omega⟩
 case round=>
  obtain⟨s,hs1,gU,rfl,rfl,hz⟩:=hrel;have HZ:=Q3 hz;have j1:(s:Int)<(nw n:Int):=by omega
  have j2:(0:Int)<=(s:Int):=by omega
  have j3:(s:Int)<4096:=by have:=HN.out;omega
  obtain⟨r,hr⟩:∃ r,pk (z6z (flp S fl) a) s=r:=⟨_,rfl⟩
  have hrl:r<18446744073709551616:=by rw[<-hr];exact q3h _ _
  rw[hr];have HQ:=Q3 hr;have HL:=Q3 hrl;have HG:=Q3 ha;have HS:=Q3 hs1;have kZ:=Q3 gU;clear hz hr hrl ha hs1 gU;by_cases h0:r=0
  ·subst h0;by_cases h1:s+1=nw n
   ·have h2:(((s:Int)+1) == (nw n:Int))=true:=by rw[beq_iff_eq];omega
    have dD:=Q3 h1;clear h1 i3 j1;go_wp2;go_ret;refine⟨G8 ?_,(Out.refl _ _ _).drew⟩;rw[j7r (q5y HZ.out HQ.out) (by have:=HN.out;have:=dD.out;omega)]
   ·have h2:(((s:Int)+1) == (nw n:Int))=false:=by rw[beq_eq_false_iff_ne];omega
    have h3:(s:Int)+1<(nw n:Int):=by omega
    have c3:cq w bw (s+1)=some (.int .u64 (pk S (s+1))):=HR.out.cell (by omega);have dD:=Q3 h1;clear h1;go_wp2;rw[HX.out,<-x5c (flp S fl) a (s+1) (by have:=HS.out;have:=HK.out;omega)];go_round
    case rel=>exact⟨s+1,by have:=HS.out;omega,by have:=kZ.out;have:=dD.out;omega,by go_num,rfl,q5y HZ.out HQ.out⟩
    case measure=>simp[intOf];omega
  ·have h2:((r:Int) == 0)=false:=by rw[beq_eq_false_iff_ne];omega
   have HC:=Q3 (fun w (hT:Tab w)=>x8a r HL.out h0 hT);have HV:=Q3 (j3e (n:=n) HG.out (by rw[HK.out];exact HS.out) HZ.out (by rw[HQ.out];exact h0));rw[HQ.out] at HV;have hc6:(Lib.ctz 64 r:Int)<64:=by have:=(j0a r h0 HL.out).1;omega
   generalize Lib.ctz 64 r=c at *
   have hw1:IntKind.i64.wrap ((s:Int)*64)=(s:Int)*64:=by simp[IntKind.wrap,IntKind.signed,IntKind.bits];omega
   have hw2:IntKind.i64.wrap ((s:Int)*64+(c:Int))=(s:Int)*64+(c:Int):=by simp[IntKind.wrap,IntKind.signed,IntKind.bits];omega
   by_cases hm:(n:Int)<(s:Int)*64+(c:Int)
   ·go_wp2_with fail;go_region_held3 (fun w'=>cq w' b 0=some (Iz n)) (go_keep)
     (first | (go_at_call 193;refine Q4 (HC.out _ (by exact HT.out)) ?_))
    all_goals (try go_wp2)
    all_goals go_ret
    all_goals exact⟨G8 (by have:=HV.out;omega),(Out.refl _ _ _).drew.drew⟩
   ·go_wp2_with fail;go_region_held3 (fun w'=>cq w' b 0=some (Iz n)) (go_keep)
     (first | (go_at_call 193;refine Q4 (HC.out _ (by exact HT.out)) ?_))
    all_goals (try go_wp2)
    all_goals go_ret
    all_goals exact⟨G8 (by have:=HV.out;omega),(Out.refl _ _ _).drew.drew⟩
theorem x6j (S:Nat->Bool):flp S false=S:=by funext j;simp[flp]
theorem x1n {w:World} {lo hi b n:Nat} {S:Nat->Bool} (h:MapAt w lo hi b n S) (a:Int) (x:Nat) (fl:Bool) (hx:x=flv fl) (ha:0<=a) :
  Calls Tryz.prog 149 #[.pointer (some ⟨b,0,none⟩),.int .i64 a,.int .u64 x] w fun e w'=>e=.returned (.int .i64 (nx (flp S fl) n a.toNat))/\Out 0 0 w w':=by
 by_cases hn:a<n
 ·obtain⟨k,rfl⟩:=Int.eq_ofNat_of_zero_le ha;rw[Int.toNat_natCast];exact x5l h k x fl hx (by omega)
 ·rw[x2u _ _ _ (by omega)];exact(x1o h a x (by omega)).mono fun e w' ⟨h1,h2⟩=>⟨h1,by rw[h2];exact Out.refl _ _ _⟩
theorem z6h {w:World} {lo hi b n:Nat} {S:Nat->Bool} (h:MapAt w lo hi b n S) (a:Int) :
  Kz 89 #[Pq b,Iz a] w fun e w'=>e=.returned (Iz (nxr S n a.toNat))/\Out 0 0 w w':=by
 have hS:=x1n h (max a 0) 0 false rfl (by omega);rw[x6j,show (max a 0).toNat=a.toNat from by omega] at hS;have HL:=Q3 (fun w (h:MapAt w lo hi b n S)=>z9w h);have HM:=Q3 h;have hle:=x4u S n a.toNat;unfold nxr;generalize nx S n a.toNat=r at *
 by_cases h0:0<=a
 ·rw[show max a 0=a from by omega] at hS;have HS:=Q3 hS;clear hS h;by_cases hr:r<n
  ·rw[if_pos hr];have e:((r:Int) == (n:Int))=false:=by rw[beq_eq_false_iff_ne];omega
   go_enter Tryz.func89,Tryz.ntmps89
   go_wp2_with fail;refine HS.out.mono ?_;rintro e' w1 ⟨rfl,hg⟩;have HG:=Q3 hg;clear hg;go_wp2_with (go_at_call 150;refine Q4 (HL.out _ (HM.out.quiet HG.out)) ?_);go_ret;exact⟨rfl,HG.out⟩
  ·rw[if_neg hr];obtain rfl:r=n:=by omega
   have e:((r:Int) == (r:Int))=true:=by simp
   go_enter Tryz.func89,Tryz.ntmps89
   go_wp2_with fail;refine HS.out.mono ?_;rintro e' w1 ⟨rfl,hg⟩;have HG:=Q3 hg;clear hg;go_wp2_with (go_at_call 150;refine Q4 (HL.out _ (HM.out.quiet HG.out)) ?_);go_ret;exact⟨rfl,HG.out⟩
 ·rw[show max a 0=0 from by omega] at hS;have HS:=Q3 hS;clear hS h;by_cases hr:r<n
  ·rw[if_pos hr];have e:((r:Int) == (n:Int))=false:=by rw[beq_eq_false_iff_ne];omega
   go_enter Tryz.func89,Tryz.ntmps89
   go_wp2_with fail;refine HS.out.mono ?_;rintro e' w1 ⟨rfl,hg⟩;have HG:=Q3 hg;clear hg;go_wp2_with (go_at_call 150;refine Q4 (HL.out _ (HM.out.quiet HG.out)) ?_);go_ret;exact⟨rfl,HG.out⟩
  ·rw[if_neg hr];obtain rfl:r=n:=by omega
   have e:((r:Int) == (r:Int))=true:=by simp
   go_enter Tryz.func89,Tryz.ntmps89
   go_wp2_with fail;refine HS.out.mono ?_;rintro e' w1 ⟨rfl,hg⟩;have HG:=Q3 hg;clear hg;go_wp2_with (go_at_call 150;refine Q4 (HL.out _ (HM.out.quiet HG.out)) ?_);go_ret;exact⟨rfl,HG.out⟩
def Box (w:World) (g:Nat) (T:TypeId) (v:Value):Prop:=w.heap[g]? = some (.cells #[v] T (0,0))
theorem Box.cell {w:World} {g:Nat} {T:TypeId} {v:Value} (h:Box w g T v):w.cell? ⟨g,0,none⟩=some v:=by
 unfold Box at h;simp[World.cell?,h]
theorem Box.frozen {w:World} {g:Nat} {T:TypeId} {v:Value} (h:Box w g T v):w.frozen? ⟨g,0,none⟩=false:=by
 unfold Box at h;simp[World.frozen?,h]
theorem Box.lt {w:World} {g:Nat} {T:TypeId} {v:Value} (h:Box w g T v):g<w.heap.size:=Q8 h
theorem Box.kept {w w':World} {g lo hi:Nat} {T:TypeId} {v:Value} (h:Box w g T v) (o:Out lo hi w w') (h2:g<lo\/hi<=g):Box w' g T v:=o.heap h h2
theorem Box.new (w:World) (T:TypeId) (v:Value):Box (w.alloc (.cells #[v] T)) w.heap.size T v:=heap_alloc_new _ _
theorem Box.alloc {w:World} {g:Nat} {T:TypeId} {v:Value} (h:Box w g T v) (o:Obj):Box (w.alloc o) g T v:=by
 unfold Box;rw[heap_alloc_old _ _ h.lt];exact h
theorem Box.set {w:World} {g:Nat} {T:TypeId} {v:Value} (h:Box w g T v) (u:Value):Box (w.setCell ⟨g,0,none⟩ u) g T u:=by
 unfold Box at *;simp only[World.setCell,Array.getElem?_modify,if_true,h];rfl
theorem j1u {w:World} {lo hi b n g c:Nat} {S:Nat->Bool} {v:Int} (h:MapAt w lo hi b n S) (kW:Box w g 137 (Pq b)) (hc:Box w c 3 (Iz v)) (v1:0<=v) (v2:v<1000000) (hn:0<n) (s:Nat) (hs:s<nw n) (x:Nat) (hx:x<18446744073709551616) :
  Kz 217 #[Iz s,.int .u64 x,Pq c,Pq g] w fun e w'=>e=.returned (.tuple #[])/\Box w' c 3 (Iz (v+pop (pk S s &&& x)))/\Out c (c+1) w w':=by
 obtain⟨bw,cap,hb,mK,l1,l2,l3,hr⟩:=h.words;have c0:=kW.cell;have c1:cq w b 1=some (Sz bw (nw n) cap):=by simp[World.cell?,hb]
 have c2:=hr.cell hs;have c3:=hc.cell;have c4:=hc.frozen;have HA:=Q3 (bits_and_u64_nat (pk S s) x (q3h _ _) hx);have hl:pk S s &&& x<18446744073709551616:=Nat.lt_of_le_of_lt Nat.and_le_left (q3h _ _);have HC:=Q3 (fun w=>x0v (pk S s &&& x) hl w);have hp:((pop (pk S s &&& x):Nat):Int)<=64:=by have:=x7u (pk S s &&& x);omega
 have HB:=Q3 hc;have hw:IntKind.i64.wrap (v + ↑(pop (pk S s &&& x)))=v + ↑(pop (pk S s &&& x)):=by simp[IntKind.wrap,IntKind.signed,IntKind.bits];omega
 have i1:(0:Int)<=(s:Int):=by omega
 have i2:(s:Int)<(nw n:Int):=by omega
 clear h kW hb hr l3 mK l1 l2 hc hl;go_enter Tryz.func217,Tryz.ntmps217
 go_wp2_with fail;go_region_with (go_at_call 218;rw[HA.out];refine Q4 (HC.out _) ?_)
 all_goals (try go_wp2)
 all_goals exact bodyPost_end (results_none Tryz.results217 _ _ _) rfl ⟨rfl,HB.out.set _,((Out.refl _ _ _).setCell z1 _).drew⟩
theorem q0k (L:Nat) (h:L<=64):IntKind.u64.wrap (18446744073709551615*2 ^ min L 64)=((up L:Nat):Int):=by
 rw[show min L 64=L from by omega,IntKind.wrap_u64];unfold up;have hp:=Nat.two_pow_pos L;have e:((2 ^ L:Nat):Int)=(2:Int) ^ L:=by simp
 by_cases h6:L<64
 ·rw[if_pos h6,<-e];have hl:2 ^ L<2 ^ 64:=Nat.pow_lt_pow_right (a:=2) (by omega) h6;rw[show (2:Nat) ^ 64=18446744073709551616 from rfl] at hl;generalize 2 ^ L=p at *
  omega
 ·rw[if_neg h6];obtain rfl:L=64:=by omega
  rfl
theorem j7u:IntKind.u64.wrap 340282366920938463444927863358058659840=((up 64:Nat):Int):=by rw[IntKind.wrap_u64];rfl
theorem x5n:IntKind.u64.wrap 18446744073709551615=((up 0:Nat):Int):=by rw[IntKind.wrap_u64];rfl
theorem z0v (L H:Nat):bits .andNot .u64 ((up L:Nat):Int) ((up H:Nat):Int)=((msk L H:Nat):Int):=by
 rw[z0p _ _ (x5w _) (x5w _),x8b]
theorem z7m (L:Nat) (h:L<=64):IntKind.u64.wrap (18446744073709551615*2 ^ L)=((up L:Nat):Int):=by
 have:=q0k L h;rwa [show min L 64=L from by omega] at this
theorem q8k (c g:Nat) (I:Nat->World->Prop) (hd:∀ s w,I s w->I s w.drew) (a:Nat) (t:Int) (ha:a<9223372036854775808) (ht:t<=262144)
  (hI:∀ s w,a / 64<=s->64*(s:Int)<t->I s w->Kz 217 #[Iz s,.int .u64 (msk (a-64*s) (min (t.toNat-64*s) 64)),Pq c,Pq g] w fun e w'=>e=.returned (.tuple #[])/\I (s+1) w')
  {w:World} (h:I (a / 64) w) :
  Kz 216 #[Iz a,Iz t,.func (.func 217) #[] #[Pq c,Pq g]] w fun e w'=>e=.returned (.tuple #[])/\∃ s,a / 64<=s/\t<=64*(s:Int)/\(s=a / 64\/64*(s:Int)<t+64)/\I s w':=by
 have HD:=Q3 hd;have HI:=Q3 hI;have HW:=Q3 h;have HA:=Q3 ha;have HT:=Q3 ht;have i1:(0:Int)<=(a:Int):=by omega
 clear hd hI h ha ht;go_enter Tryz.func216,Tryz.ntmps216
 go_wp2_with fail;go_loopw [6] (fun x wr=>∃ s:Nat,a / 64<=s/\x=Iz (64*(s:Int))/\(s=a / 64\/64*(s:Int)<t+64)/\I s wr) (fun x _=>(t-intOf x).toNat)
 case atStart=>exact⟨a / 64,Nat.le_refl _,by congr 1;unfold wrap64;have:=HA.out;omega,.inl rfl,HW.out⟩
 case round=>
  obtain⟨s,hs1,rfl,gU,hw⟩:=hrel;by_cases eR:64*(s:Int)<t
  ·have j1:(0:Int)<=(s:Int):=by omega
   have j2:(s:Int)<4096:=by have:=HT.out;omega
   have HS:=Q3 hs1;have HV:=Q3 hw;obtain⟨q,hq1,hq2⟩:∃ q:Int,t<=64*q/\q<=4096:=⟨4096,by have:=HT.out;omega,by omega⟩
   have HX:Hid (a / 64=s\/a / 64<s):=by show _\/_;omega
   clear hs1 gU hw;have hws:IntKind.i64.wrap (s:Int)=(s:Int):=by simp[IntKind.wrap,IntKind.signed,IntKind.bits];omega
   have HC:=Q3 (HI.out s wr.drew HS.out eR (HD.out _ _ HV.out));have HR:Hid ((64*(s:Int)<t/\64*((s+1:Nat):Int)<t+64)):=by show _/\_;omega
   rcases HX.out with hA | hA
   ·obtain⟨L,hL⟩:∃ L:Nat,(a:Int)-64*(s:Int)=(L:Int):=⟨a-64*s,by omega⟩
    have a1:(0:Int)<=(a:Int)-64*(s:Int):=by omega
    have a2:(a:Int)-64*(s:Int)<64:=by omega
    have hL':a-64*s=L:=by omega
    have HL:Hid (L<=64):=by show _<=_;omega
    rw[hL'] at HC;have HE:=Q3 hL;clear hA hL hL';by_cases hB:64<t-64*(s:Int)
    ·have gO:min (t.toNat-64*s) 64=64:=by omega
     rw[gO] at HC;clear gO;go_wp2_with fail;rw[HE.out] at *;go_region_with (go_at_call 217;(first | rw[q0k L HL.out,j7u,z0v] | rw[z7m L HL.out,j7u,z0v]);refine HC.out.mono ?_;rintro e w2 ⟨rfl,hw2⟩)
     all_goals (try go_wp2)
     all_goals go_roundw
     case rel=>exact⟨s+1,by have:=HS.out;omega,by go_num,.inr HR.out.2,by assumption⟩
     case measure=>simp[intOf];omega
    ·obtain⟨H,hH⟩:∃ H:Nat,t-64*(s:Int)=(H:Int):=⟨(t-64*s).toNat,by omega⟩
     have b2:(0:Int)<=t-64*(s:Int):=by omega
     have gO:min (t.toNat-64*s) 64=H:=by omega
     have HH:Hid (H<=64):=by show _<=_;omega
     rw[gO] at HC;have HF:=Q3 hH;clear hH gO;go_wp2_with fail;rw[HE.out,HF.out] at *;go_region_with (go_at_call 217;(first | rw[q0k L HL.out,q0k H HH.out,z0v] | rw[q0k L HL.out,z7m H HH.out,z0v] | rw[z7m L HL.out,q0k H HH.out,z0v] | rw[z7m L HL.out,z7m H HH.out,z0v]);refine HC.out.mono ?_;rintro e w2 ⟨rfl,hw2⟩)
     all_goals (try go_wp2)
     all_goals go_roundw
     case rel=>exact⟨s+1,by have:=HS.out;omega,by go_num,.inr HR.out.2,by assumption⟩
     case measure=>simp[intOf];omega
   ·have a1:(a:Int)-64*(s:Int)<0:=by omega
    have hL':a-64*s=0:=by omega
    rw[hL'] at HC;clear hA hL';by_cases hB:64<t-64*(s:Int)
    ·have gO:min (t.toNat-64*s) 64=64:=by omega
     rw[gO] at HC;clear gO;go_wp2_with fail;go_region_with (go_at_call 217;(first | rw[x5n,j7u,z0v]);refine HC.out.mono ?_;rintro e w2 ⟨rfl,hw2⟩)
     all_goals (try go_wp2)
     all_goals go_roundw
     case rel=>exact⟨s+1,by have:=HS.out;omega,by go_num,.inr HR.out.2,by assumption⟩
     case measure=>simp[intOf];omega
    ·obtain⟨H,hH⟩:∃ H:Nat,t-64*(s:Int)=(H:Int):=⟨(t-64*s).toNat,by omega⟩
     have b2:(0:Int)<=t-64*(s:Int):=by omega
     have gO:min (t.toNat-64*s) 64=H:=by omega
     have HH:Hid (H<=64):=by show _<=_;omega
     rw[gO] at HC;have HF:=Q3 hH;clear hH gO;go_wp2_with fail;rw[HF.out] at *;go_region_with (go_at_call 217;(first | rw[x5n,q0k H HH.out,z0v] | rw[x5n,z7m H HH.out,z0v]);refine HC.out.mono ?_;rintro e w2 ⟨rfl,hw2⟩)
     all_goals (try go_wp2)
     all_goals go_roundw
     case rel=>exact⟨s+1,by have:=HS.out;omega,by go_num,.inr HR.out.2,by assumption⟩
     case measure=>simp[intOf];omega
  ·go_wp2;exact bodyPost_end (results_none Tryz.results216 _ _ _) rfl ⟨rfl,s,hs1,by omega,gU,hw⟩
theorem q0u {w:World} {lo hi b n:Nat} {S:Nat->Bool} (h:MapAt w lo hi b n S) (a t:Int) (ha:a<9223372036854775808) :
  Kz 208 #[Pq b,Iz a,Iz t] w fun e w'=>e=.returned (Iz (z8k S a.toNat (min t n).toNat))/\Out 0 0 w w':=by
 have hb5:=h.bounds;have hM:=(h.alloc (.cells #[Pq b] 137)).alloc (.cells #[Iz 0] 3);have hB:=(Box.new w 137 (Pq b)).alloc (.cells #[Iz 0] 3);have hC:Box ((w.alloc (.cells #[Pq b] 137)).alloc (.cells #[Iz 0] 3)) (w.heap.size+1) 3 (Iz 0):=heap_alloc2_new _ _ _;have hO:Out 0 0 w ((w.alloc (.cells #[Pq b] 137)).alloc (.cells #[Iz 0] 3)):=((Out.refl _ _ _).alloc _).alloc _;have HL:=Q3 (z9w hM);obtain⟨x,hx,hx2⟩:∃ x:Nat,a.toNat=x/\x<9223372036854775808:=⟨a.toNat,rfl,by omega⟩
 obtain⟨y,hy,hy2⟩:∃ y:Int,min t n=y/\y<=n:=⟨_,rfl,by omega⟩
 have HP:=Q3 (q8k (w.heap.size+1) w.heap.size (fun s w'=>MapAt w' lo hi b n S/\Box w' w.heap.size 137 (Pq b)/\Box w' (w.heap.size+1) 3 (Iz (z8k S x (min (64*s) y.toNat)))/\Out 0 0 w w')
  (fun s w' ⟨x1,x2,x3,x4⟩=>⟨x1.drew,x2,x3,x4.drew⟩) x y hx2 (by omega)
  (fun s w' hs hl ⟨x1,x2,x3,x4⟩=>(j1u x1 x2 x3 (by omega) (by have:=x3j S x (min (64*s) y.toNat);omega) (by omega) s (by unfold nw;omega) _ (x6y _ _)).mono
   fun e w2 ⟨y1,y2,y3⟩=>⟨y1,x1.kept y3 (.inl (by omega)) (.inl (by omega)),x2.kept y3 (.inl (by omega)),by
    have:=j6t S x y.toNat s;rw[show 64*(s+1)=64*s+64 from by omega,<-this];simpa using y2,x4.past y3 (by omega)⟩)
  (w:=(w.alloc (.cells #[Pq b] 137)).alloc (.cells #[Iz 0] 3)) ⟨hM,hB,by rw[j9b _ _ _ (by omega)];exact hC,hO⟩)
 have c0:=hB.cell;have c1:=hC.cell;have c2:=hC.frozen;rw[hx,hy];clear h hM hB hO hb5 hC;by_cases h0:0<=a
 ·obtain rfl:a=x:=by omega
  by_cases h1:t<=n
  ·obtain rfl:y=t:=by omega
   clear hy hx ha hx2;go_enter Tryz.func208,Tryz.ntmps208
   go_wp2_with (first
    | (go_at_call 150;refine Q4 HL.out ?_)
    | (go_at_call 216;refine HP.out.mono ?_;rintro e w2 ⟨rfl,s,z1,z2,z3,z4,z5,z6,z7⟩;have z8:=z6.cell;clear c0 c1 c2))
   go_ret;exact⟨G8 (by first | rfl | (congr 2;omega)),by assumption⟩
  ·obtain rfl:y=n:=by omega
   have h2:(n:Int)<t:=by omega
   clear hy hx ha hx2 h1;go_enter Tryz.func208,Tryz.ntmps208
   go_wp2_with (first
    | (go_at_call 150;refine Q4 HL.out ?_)
    | (go_at_call 216;refine HP.out.mono ?_;rintro e w2 ⟨rfl,s,z1,z2,z3,z4,z5,z6,z7⟩;have z8:=z6.cell;clear c0 c1 c2))
   go_ret;exact⟨G8 (by first | rfl | (congr 2;omega)),by assumption⟩
 ·obtain rfl:x=0:=by omega
  have h3:a<0:=by omega
  rw[show ((0:Nat):Int)=0 from rfl] at HP;by_cases h1:t<=n
  ·obtain rfl:y=t:=by omega
   clear hy hx ha hx2 h0;go_enter Tryz.func208,Tryz.ntmps208
   go_wp2_with (first
    | (go_at_call 150;refine Q4 HL.out ?_)
    | (go_at_call 216;refine HP.out.mono ?_;rintro e w2 ⟨rfl,s,z1,z2,z3,z4,z5,z6,z7⟩;have z8:=z6.cell;clear c0 c1 c2))
   go_ret;exact⟨G8 (by first | rfl | (congr 2;omega)),by assumption⟩
  ·obtain rfl:y=n:=by omega
   have h2:(n:Int)<t:=by omega
   clear hy hx ha hx2 h1 h0;go_enter Tryz.func208,Tryz.ntmps208
   go_wp2_with (first
    | (go_at_call 150;refine Q4 HL.out ?_)
    | (go_at_call 216;refine HP.out.mono ?_;rintro e w2 ⟨rfl,s,z1,z2,z3,z4,z5,z6,z7⟩;have z8:=z6.cell;clear c0 c1 c2))
   go_ret;exact⟨G8 (by first | rfl | (congr 2;omega)),by assumption⟩
theorem Row.fillAll {b k:Nat} {T:TypeId} (v:Value) (m:Nat):∀ (o:Nat) (w:World) (f:Nat->Value),Row w b T k f->Row (w.setCells b o (List.replicate m v)) b T k (fun i=>if o<=i/\i<o+m then v else f i):=by
 induction m with
 | zero=>intro o w f h;exact h.congr fun i hi=>by rw[if_neg (by omega)]
 | succ m ih=>
  intro o w f h
  show Row ((w.setCell ⟨b,o,none⟩ v).setCells b (o+1) (List.replicate m v)) b T k _
  refine(ih (o+1) _ _ (h.set o v)).congr fun i hi=>?_
  by_cases h1:i=o
  ·subst h1;simp
  ·by_cases h2:o+1<=i/\i<o+1+m
   ·rw[if_pos h2,if_pos (by omega)]
   ·have h3:¬ (o<=i/\i<o+(m+1)):=by omega
    simp only[if_neg h2,if_neg h3,if_neg h1]
theorem Out.setAll {b lo hi:Nat} (hb:lo<=b/\b<hi) (v:Value) (m:Nat):∀ (o:Nat) (a w:World),Out lo hi a w->Out lo hi a (w.setCells b o (List.replicate m v)):=by
 induction m with
 | zero=>intro o a w h;exact h
 | succ m ih=>intro o a w h;exact ih (o+1) a _ (h.setCell (.inl hb) v)
theorem q7v {b c:Nat} (h:c ≠ b) (v:Value) (m:Nat):∀ (o:Nat) (w:World),(w.setCells b o (List.replicate m v)).heap[c]? = w.heap[c]? :=by
 induction m with
 | zero=>intro o w;rfl
 | succ m ih=>intro o w;exact(ih (o+1) _).trans (Below.heap_setCell _ _ _ _ h)
theorem x1y (w:World):(zeroValue 195).run Tryz.prog w=.ok (.int .u64 0) w:=by kernel_rfl
theorem j7g {w:World} {lo hi b n:Nat} {S:Nat->Bool} (h:MapAt w lo hi b n S) :
  Kz 188 #[Pq b] w fun e w'=>e=.returned (.tuple #[])/\MapAt w' lo hi b n (fun _=>false)/\Out lo hi w w':=by
 obtain⟨bw,cap,hb,h1,h2,h3,h4,h5,h6,h7,h8,l1,l2,l3,hr⟩:=h;have c1:cq w b 1=some (Sz bw (nw n) cap):=by simp[World.cell?,hb]
 have hO:Out lo hi w (w.setCells bw 0 (List.replicate (nw n) (.int .u64 0))):=Out.setAll ⟨l1,l2⟩ _ _ _ _ _ (Out.refl _ _ _);have HF:Hid (MapAt (w.setCells bw 0 (List.replicate (nw n) (.int .u64 0))) lo hi b n (fun _=>false)):=by
  refine⟨bw,cap,by rw[q7v (Ne.symm l3)];exact hb,h1,h2,Nat.le_trans h3 hO.size,h4,h5,h6,fun _ _=>rfl,h8.kept hO (.inl h4),l1,l2,l3,(Row.fillAll _ _ _ _ _ hr).congr fun i hi=>?_⟩;rw[if_pos (by omega),q0b];rfl
 have HO:=Q3 hO;by_cases hn:0<nw n
 ·have mJ:∀ ty,(Builtin.clear_ #[209] ty #[Sz bw (nw n) cap]).run Tryz.prog w=.ok (.tuple #[]) (w.setCells bw 0 (List.replicate (nw n) (.int .u64 0))):=
   fun ty=>Lib.run_clear_slice w 209 195 ty (.int .u64 0) Tryz.underlying209 x1y rfl rfl bw 0 (nw n) cap hn (fun j hj=>by rw[Nat.zero_add,hr.cell hj];rfl) (fun j hj=>hr.frozen _)
  clear hb hr h7 h8 hO;go_enter Tryz.func188,Tryz.ntmps188
  go_wp2_with (simp only[mJ]);exact bodyPost_end (results_none Tryz.results188 _ _ _) rfl ⟨rfl,HF.out,HO.out⟩
 ·have h0:nw n=0:=by omega
  rw[h0] at HF HO c1;have mJ:∀ ty,(Builtin.clear_ #[209] ty #[Sz bw 0 cap]).run Tryz.prog w=.ok (.tuple #[]) w:=fun ty=>by
   simp[Builtin.clear_,run_underlying Tryz.underlying209]
  clear hb hr h7 h8 hO;go_enter Tryz.func188,Tryz.ntmps188
  go_wp2_with (simp only[mJ]);exact bodyPost_end (results_none Tryz.results188 _ _ _) rfl ⟨rfl,HF.out,HO.out⟩
theorem q2h (b:Nat) (w:World) :
  Kz 185 #[Pq b] w fun e w'=>e=.returned (.func (.func 205) #[] #[Pq w.heap.size])/\w'=w.alloc (.cells #[Pq b] 137):=by
 go_enter Tryz.func185,Tryz.ntmps185
 go_wp2;go_ret;exact⟨rfl,rfl⟩
end Go.Proofs.YtjgnogflgoihfaaGreatDoor
namespace Go.Proofs.YtjgnogflgoihfaaGreatDoor
open Go.ChangeShapes Go.WideShapes Go.ChangeAt Go.RowKit
set_option linter.unusedVariables false
set_option maxRecDepth 100000
set_option maxHeartbeats 16000000
set_option linter.unusedSimpArgs false
theorem j5q (a k n:Int) (w:World):Kz 203 #[Iz a,Iz k,Iz n] w fun e w'=>e=.returned (.bool (q0w a k n))/\w'=w:=by
 go_enter Tryz.func203,Tryz.ntmps203
 go_wp2
 all_goals go_ret
 all_goals refine⟨B7 ?_,rfl⟩
 all_goals (unfold q0w;rw[Bool.eq_iff_iff];simp;try omega)
theorem x1p (a k n:Int) (w:World) (h:z1v a k n):Kz 204 #[Iz a,Iz k,Iz n] w fun e w'=>e=.returned (Iz (z2p (xV a k n)))/\w'=w:=by
 have H:=Q3 (x5o h);clear h;generalize z2p (xV a k n)=s at *
 go_enter Tryz.func204,Tryz.ntmps204
 go_wp2;go_ret;exact⟨G8 H.out,rfl⟩
theorem q4y (a k n:Int) (w:World):Kz 180 #[Iz a,Iz k,Iz n] w fun e w'=>e=.returned (Iz (F0 a k n))/\w'=w:=by
 have G:=Q3 (j5q a k n);by_cases h:z1v a k n
 ·have H:=Q3 (x4q h);have S:=Q3 (fun w=>x1p a k n w h);rw[z9s h] at G;clear h;generalize F0 a k n=r at *
  generalize z2p (xV a k n)=s at *
  go_enter Tryz.func180,Tryz.ntmps180
  go_wp2_with (first
   | (go_at_call 203;refine Q4 (G.out _) ?_)
   | (go_at_call 204;refine Q4 (S.out _) ?_))
  go_ret;exact⟨G8 H.out,rfl⟩
 ·rw[z8o h];rw[z7b h] at G;clear h;go_enter Tryz.func180,Tryz.ntmps180
  go_wp2_with (go_at_call 203;refine Q4 (G.out _) ?_);go_ret;exact⟨rfl,rfl⟩
end Go.Proofs.YtjgnogflgoihfaaGreatDoor
namespace Go.Proofs.YtjgnogflgoihfaaGreatDoor
open Go.RowKit
set_option linter.unusedVariables false
set_option maxRecDepth 100000
set_option maxHeartbeats 16000000
set_option linter.unusedSimpArgs false
structure Raw where
 W:Nat->Int
 S:Nat->Int × Int × Int
 F:Nat->Nat->Bool
 P:Nat->Bool
 M:Int->Option Blk
 R:Int->Option Int
 last:Int
def j1q (a:Int) (b:Blk):Value:=.agg #[.int .i64 a,.int .i64 b.1,.int .i64 b.2.1,.int .i64 b.2.2.1,.int .i64 b.2.2.2]
def ln (i:Nat):Nat:=if i<9 then 2 else 1
def q0m (s:Nat->Nat) (n cap:Nat) (last:Int):Array Value:=
 #[.slice (some ⟨s 11,0,none⟩) (64*n) cap,.pointer (some ⟨s 9,0,none⟩),.map (some (s 12)),.pointer (some ⟨s 8+1,0,none⟩),.pointer (some ⟨s 0+1,0,none⟩),.pointer (some ⟨s 1+1,0,none⟩),.pointer (some ⟨s 2+1,0,none⟩),
  .pointer (some ⟨s 3+1,0,none⟩),.pointer (some ⟨s 4+1,0,none⟩),.pointer (some ⟨s 5+1,0,none⟩),.pointer (some ⟨s 6+1,0,none⟩),.pointer (some ⟨s 7+1,0,none⟩),.map (some (s 13)),.int .i64 last]
def z7u (M:Int->Option Blk) (a:Int):Option Value:=(M a).map (j1q a)
def j8n (R:Int->Option Int) (a:Int):Option Value:=(R a).map (fun x=>.int .i64 x)
structure RawAt (w:World) (lo hi:Nat) (s:Nat->Nat) (n cap:Nat) (r:Raw):Prop where
 glob:4<=lo
 top:hi<=w.heap.size
 inn:∀ i,i<15->lo<=s i/\s i+ln i<=hi
 apart:∀ i j,i<15->j<15->i ≠ j->s i+ln i<=s j\/s j+ln j<=s i
 n1:1<=n
 n2:n<=4096
 capn:64*n<=cap
 tab:Tab w
 self:w.heap[s 14]? = some (.cells (q0m s n cap r.last) 141 (0,0))
 words:Row w (s 11) 3 (64*n) (fun i=>.int .i64 (r.W i))
 tbl:TblAt 197 w (s 9) (s 10) n r.S
 objs:MpAt w (s 12) (z7u r.M)
 sers:MpAt w (s 13) (j8n r.R)
 places:MapAt w (s 8) (s 8+2) (s 8+1) (64*n) r.P
 free:∀ c,c<8->MapAt w (s c) (s c+2) (s c+1) (64*n) (r.F c)
section
variable {w w':World} {lo hi n cap:Nat} {s:Nat->Nat} {r:Raw}
theorem RawAt.kept {x y:Nat} (h:RawAt w lo hi s n cap r) (o:Out x y w w') (hd:hi<=x\/y<=lo) (hg:4<=x\/y=0):RawAt w' lo hi s n cap r:=by
 have ini:=fun i hi=>h.inn i hi
 have h8:=ini 8 (by omega);have h9:=ini 9 (by omega);have h10:=ini 10 (by omega);have h11:=ini 11 (by omega);have h12:=ini 12 (by omega);have h13:=ini 13 (by omega);have h14:=ini 14 (by omega);simp[ln] at h8 h9 h10 h11 h12 h13 h14;refine⟨h.glob,Nat.le_trans h.top o.size,h.inn,h.apart,h.n1,h.n2,h.capn,h.tab.kept o hg,o.heap h.self (by omega),h.words.kept o (by omega),h.tbl.kept o (by omega) (by omega),h.objs.kept o (by omega),h.sers.kept o (by omega),h.places.kept o (by omega) hg,fun c hc=>(h.free c hc).kept o ?_ hg⟩;have:=ini c (by omega);simp[ln,show c<9 from by omega] at this;omega
theorem RawAt.quiet (h:RawAt w lo hi s n cap r) (o:Out 0 0 w w'):RawAt w' lo hi s n cap r:=h.kept o z0 (.inr rfl)
theorem RawAt.wide (h:RawAt w lo hi s n cap r) {i:Nat} (bV:i<15) (o:Out (s i) (s i+ln i) w w'):Out lo hi w w':=o.wide (h.inn i bV).1 (h.inn i bV).2
theorem RawAt.but (h:RawAt w lo hi s n cap r) {i:Nat} (bV:i<15) (o:Out (s i) (s i+ln i) w w') :
  4<=s i/\hi<=w'.heap.size/\Tab w'/\(i ≠ 14->w'.heap[s 14]? = some (.cells (q0m s n cap r.last) 141 (0,0)))/\(i ≠ 11->Row w' (s 11) 3 (64*n) (fun i=>.int .i64 (r.W i))) ∧
   (i ≠ 9->i ≠ 10->TblAt 197 w' (s 9) (s 10) n r.S)/\(i ≠ 12->MpAt w' (s 12) (z7u r.M))/\(i ≠ 13->MpAt w' (s 13) (j8n r.R)) ∧
   (i ≠ 8->MapAt w' (s 8) (s 8+2) (s 8+1) (64*n) r.P)/\(∀ c,c<8->i ≠ c->MapAt w' (s c) (s c+2) (s c+1) (64*n) (r.F c)):=by
 have hg:4<=s i:=by have:=(h.inn i bV).1;have:=h.glob;omega
 have ap:=fun j hj iF=>h.apart i j bV hj iF
 have l1:∀ j,9<=j->ln j=1:=fun j hj=>by unfold ln;rw[if_neg (by omega)]
 have l2:∀ j,j<9->ln j=2:=fun j hj=>by unfold ln;rw[if_pos hj]
 refine⟨hg,Nat.le_trans h.top o.size,h.tab.kept o (.inl hg),fun e=>o.heap h.self ?_,fun e=>h.words.kept o ?_,fun e e'=>h.tbl.kept o ?_ ?_,fun e=>h.objs.kept o ?_,fun e=>h.sers.kept o ?_,fun e=>h.places.kept o ?_ (.inl hg),fun c hc e=>(h.free c hc).kept o ?_ (.inl hg)⟩
 ·have:=ap 14 (by omega) e;rw[l1 14 (by omega)] at this;omega
 ·have:=ap 11 (by omega) e;rw[l1 11 (by omega)] at this;omega
 ·have:=ap 9 (by omega) e;rw[l1 9 (by omega)] at this;omega
 ·have:=ap 10 (by omega) e';rw[l1 10 (by omega)] at this;omega
 ·have:=ap 12 (by omega) e;rw[l1 12 (by omega)] at this;omega
 ·have:=ap 13 (by omega) e;rw[l1 13 (by omega)] at this;omega
 ·have:=ap 8 (by omega) e;rw[l2 8 (by omega)] at this;omega
 ·have:=ap c (by omega) e;rw[l2 c (by omega)] at this;omega
theorem RawAt.setF (h:RawAt w lo hi s n cap r) {c:Nat} (hc:c<8) {S':Nat->Bool} (o:Out (s c) (s c+2) w w') (hm:MapAt w' (s c) (s c+2) (s c+1) (64*n) S') :
  RawAt w' lo hi s n cap { r with F:=fun d=>if d=c then S' else r.F d }:=by
 obtain⟨b0,b1,b2,b3,b4,b5,b6,b7,b8,b9⟩:=h.but (i:=c) (by omega) (by unfold ln;rw[if_pos (show c<9 from by omega)];exact o);refine⟨h.glob,b1,h.inn,h.apart,h.n1,h.n2,h.capn,b2,b3 (by omega),b4 (by omega),b5 (by omega) (by omega),b6 (by omega),b7 (by omega),b8 (by omega),fun d hd=>?_⟩
 show MapAt w' (s d) (s d+2) (s d+1) (64*n) (if d=c then S' else r.F d)
 by_cases e:d=c
 ·rw[if_pos e,e];exact hm
 ·rw[if_neg e];exact b9 d hd (fun e'=>e e'.symm)
theorem RawAt.setP (h:RawAt w lo hi s n cap r) {S':Nat->Bool} (o:Out (s 8) (s 8+2) w w') (hm:MapAt w' (s 8) (s 8+2) (s 8+1) (64*n) S'):RawAt w' lo hi s n cap { r with P:=S' }:=by
 obtain⟨b0,b1,b2,b3,b4,b5,b6,b7,b8,b9⟩:=h.but (i:=8) (by omega) o;exact⟨h.glob,b1,h.inn,h.apart,h.n1,h.n2,h.capn,b2,b3 (by omega),b4 (by omega),b5 (by omega) (by omega),b6 (by omega),b7 (by omega),hm,fun d hd=>b9 d hd (by omega)⟩
theorem RawAt.setT (h:RawAt w lo hi s n cap r) {S':Nat->Int × Int × Int} (o:Out (s 10) (s 10+1) w w') (hm:TblAt 197 w' (s 9) (s 10) n S'):RawAt w' lo hi s n cap { r with S:=S' }:=by
 obtain⟨b0,b1,b2,b3,b4,b5,b6,b7,b8,b9⟩:=h.but (i:=10) (by omega) o;exact⟨h.glob,b1,h.inn,h.apart,h.n1,h.n2,h.capn,b2,b3 (by omega),b4 (by omega),hm,b6 (by omega),b7 (by omega),b8 (by omega),fun d hd=>b9 d hd (by omega)⟩
theorem RawAt.setW (h:RawAt w lo hi s n cap r) {W':Nat->Int} (o:Out (s 11) (s 11+1) w w') (hm:Row w' (s 11) 3 (64*n) (fun i=>.int .i64 (W' i))):RawAt w' lo hi s n cap { r with W:=W' }:=by
 obtain⟨b0,b1,b2,b3,b4,b5,b6,b7,b8,b9⟩:=h.but (i:=11) (by omega) o;exact⟨h.glob,b1,h.inn,h.apart,h.n1,h.n2,h.capn,b2,b3 (by omega),hm,b5 (by omega) (by omega),b6 (by omega),b7 (by omega),b8 (by omega),fun d hd=>b9 d hd (by omega)⟩
theorem RawAt.setM (h:RawAt w lo hi s n cap r) {M':Int->Option Blk} (o:Out (s 12) (s 12+1) w w') (hm:MpAt w' (s 12) (z7u M')):RawAt w' lo hi s n cap { r with M:=M' }:=by
 obtain⟨b0,b1,b2,b3,b4,b5,b6,b7,b8,b9⟩:=h.but (i:=12) (by omega) o;exact⟨h.glob,b1,h.inn,h.apart,h.n1,h.n2,h.capn,b2,b3 (by omega),b4 (by omega),b5 (by omega) (by omega),hm,b7 (by omega),b8 (by omega),fun d hd=>b9 d hd (by omega)⟩
theorem RawAt.setR (h:RawAt w lo hi s n cap r) {R':Int->Option Int} (o:Out (s 13) (s 13+1) w w') (hm:MpAt w' (s 13) (j8n R')):RawAt w' lo hi s n cap { r with R:=R' }:=by
 obtain⟨b0,b1,b2,b3,b4,b5,b6,b7,b8,b9⟩:=h.but (i:=13) (by omega) o;exact⟨h.glob,b1,h.inn,h.apart,h.n1,h.n2,h.capn,b2,b3 (by omega),b4 (by omega),b5 (by omega) (by omega),b6 (by omega),hm,b8 (by omega),fun d hd=>b9 d hd (by omega)⟩
theorem RawAt.setL (h:RawAt w lo hi s n cap r) (v:Int):RawAt (w.setCell ⟨s 14,13,none⟩ (.int .i64 v)) lo hi s n cap { r with last:=v }/\Out (s 14) (s 14+1) w (w.setCell ⟨s 14,13,none⟩ (.int .i64 v)):=by
 have o:Out (s 14) (s 14+1) w (w.setCell ⟨s 14,13,none⟩ (.int .i64 v)):=(Out.refl _ _ _).setCell z1 _;obtain⟨b0,b1,b2,b3,b4,b5,b6,b7,b8,b9⟩:=h.but (i:=14) (by omega) o;refine⟨⟨h.glob,b1,h.inn,h.apart,h.n1,h.n2,h.capn,b2,?_,b4 (by omega),b5 (by omega) (by omega),b6 (by omega),b7 (by omega),b8 (by omega),fun d hd=>b9 d hd (by omega)⟩,o⟩;simp[World.setCell,Array.getElem?_modify,h.self];simp[q0m]
theorem RawAt.cells (h:RawAt w lo hi s n cap r):w.cell? ⟨s 14,0,none⟩=some (.slice (some ⟨s 11,0,none⟩) (64*n) cap)/\w.cell? ⟨s 14,1,none⟩=some (.pointer (some ⟨s 9,0,none⟩))/\w.cell? ⟨s 14,2,none⟩=some (.map (some (s 12))) ∧
  w.cell? ⟨s 14,3,none⟩=some (.pointer (some ⟨s 8+1,0,none⟩))/\w.cell? ⟨s 14,12,none⟩=some (.map (some (s 13)))/\w.cell? ⟨s 14,13,none⟩=some (.int .i64 r.last):=by
 have h':=h.self;refine⟨?_,?_,?_,?_,?_,?_⟩ <;> simp[World.cell?,h',q0m]
theorem RawAt.cellF (h:RawAt w lo hi s n cap r) {c:Nat} (hc:c<8):w.cell? ⟨s 14,4+c,none⟩=some (.pointer (some ⟨s c+1,0,none⟩)):=by
 have h':=h.self;have:c=0\/c=1\/c=2\/c=3\/c=4\/c=5\/c=6\/c=7:=by omega
 rcases this with rfl | rfl | rfl | rfl | rfl | rfl | rfl | rfl <;> simp[World.cell?,h',q0m]
theorem RawAt.cellL (h:RawAt w lo hi s n cap r):w.frozen? ⟨s 14,13,none⟩=false:=by
 have h':=h.self;simp[World.frozen?,h']
theorem RawAt.congr {r':Raw} (h:RawAt w lo hi s n cap r) (e:r=r'):RawAt w lo hi s n cap r':=e ▸ h
theorem Raw.eq {a b:Raw} (h1:a.W=b.W) (h2:a.S=b.S) (h3:a.F=b.F) (h4:a.P=b.P) (h5:a.M=b.M) (h6:a.R=b.R) (h7:a.last=b.last):a=b:=by
 cases a;cases b;simp_all
end
def obM (st:Sp) (a:Int):Option Blk:=if 0<=a/\Y9 (st.O a.toNat)=true then some (st.O a.toNat) else none
def q5z (n:Nat) (st:Sp) (x:Int):Option Nat:=if 1<=x then (List.range (64*n)).find? (fun a=>Y9 (st.O a) && ((st.O a).2.2.1 == x)) else none
def q6b (n:Nat) (st:Sp) (x:Int):Option Int:=(q5z n st x).map (fun a=>(a:Int))
def J0 (n:Nat) (st:Sp):Raw:=⟨st.W,st.S,fun c=>fr n st (c:Int),ob n st,obM st,q6b n st,st.last⟩
def SpAt (w:World) (lo hi:Nat) (s:Nat->Nat) (n cap:Nat) (st:Sp):Prop:=RawAt w lo hi s n cap (J0 n st)/\Inv n st
theorem SpAt.kept {w w':World} {lo hi n cap x y:Nat} {s:Nat->Nat} {st:Sp} (h:SpAt w lo hi s n cap st) (o:Out x y w w') (hd:hi<=x\/y<=lo) (hg:4<=x\/y=0):SpAt w' lo hi s n cap st:=⟨h.1.kept o hd hg,h.2⟩
theorem SpAt.quiet {w w':World} {lo hi n cap:Nat} {s:Nat->Nat} {st:Sp} (h:SpAt w lo hi s n cap st) (o:Out 0 0 w w'):SpAt w' lo hi s n cap st:=⟨h.1.quiet o,h.2⟩
end Go.Proofs.YtjgnogflgoihfaaGreatDoor
