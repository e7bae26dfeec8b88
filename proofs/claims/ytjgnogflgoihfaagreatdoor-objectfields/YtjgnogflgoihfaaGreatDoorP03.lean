import Derived.Test.YtjgnogflgoihfaaGreatDoorP02
import Derived.Shelf.Spec.TrailingZeros
import Derived.BigQuiet
set_option linter.unusedSimpArgs false
set_option linter.unusedVariables false
set_option maxHeartbeats 16000000
set_option maxRecDepth 100000
namespace Go.Proofs.YtjgnogflgoihfaaGreatDoor
open Go.RowKit
theorem z8z {w:World} {lo hi b n:Nat} {S:Nat->Bool} (h:MapAt w lo hi b n S) :
  Kz 150 #[Pq b] w fun e w'=>e=.returned (Iz n)/\w'=w:=by
 have c0:=h.len;go_enter Tryz.func150,Tryz.ntmps150
 go_wp2;go_ret;exact⟨rfl,rfl⟩
theorem z6m {w:World} {lo hi b n:Nat} {S:Nat->Bool} (h:MapAt w lo hi b n S) (i:Int) :
  Kz 182 #[Pq b,Iz i] w fun e w'=>e=.returned (.bool (inB n i))/\w'=w:=by
 have H:=Q3 (z8z h);by_cases h0:0<=i
 ·by_cases h1:i<n
  ·have e:inB n i=true:=by simp[inB,h0,h1]
   rw[e];go_enter Tryz.func182,Tryz.ntmps182
   go_wp2_with (go_at_call 150;refine Q4 H.out ?_)
   all_goals go_ret
   all_goals exact⟨rfl,rfl⟩
  ·have e:inB n i=false:=by simp[inB,h1]
   rw[e];go_enter Tryz.func182,Tryz.ntmps182
   go_wp2_with (go_at_call 150;refine Q4 H.out ?_)
   all_goals go_ret
   all_goals exact⟨U9 (by simp;omega),rfl⟩
 ·have e:inB n i=false:=by simp[inB,h0]
  rw[e];go_enter Tryz.func182,Tryz.ntmps182
  go_wp2_with (go_at_call 150;refine Q4 H.out ?_)
  all_goals go_ret
  all_goals exact⟨rfl,rfl⟩
def q5u (i:Nat):Nat:=2 ^ (i % 64)
theorem z8l (i:Nat):q5u i<18446744073709551616:=Nat.pow_lt_pow_right (a:=2) (by omega) (show i % 64<64 by omega)
theorem q8x (i:Nat):0<q5u i:=Nat.two_pow_pos _
theorem q1l (i:Nat) (w:World) (hi:i<1000000) :
  Kz 183 #[Iz i] w fun e w'=>e=.returned (.int .u64 (q5u i))/\w'=w:=by
 have h0:(0:Int)<=(i:Int):=by omega
 have h1:(i:Int)<1000000:=by omega
 go_enter Tryz.func183,Tryz.ntmps183
 go_wp2;go_ret;refine⟨G4 ?_,rfl⟩;rw[IntKind.wrap_u64];have h2:=z8l i;have h3:((q5u i:Nat):Int)=2 ^ (i % 64):=by unfold q5u;simp
 show (2:Int) ^ (i % 64) % 18446744073709551616=_
 rw[<-h3];omega
theorem x5l (x k idx:Nat) (w:World) (hx0:((x:Int) == 0)=false)
  (key:IntKind.u64.wrap (bits BinOp.and IntKind.u64 (x:Int) (IntKind.u64.wrap (-(x:Int)))*285870213051353865) / 288230376151711744=(idx:Int))
  (hi:idx<64) (hk:k<64) (cU:cq w 3 idx=some (.int .u8 k)) :
  Kz 193 #[.int .u64 x] w fun e w'=>e=.returned (Iz k)/\w'=w:=by
 go_enter Tryz.func193,Tryz.ntmps193
 go_wp2_with (simp only[key]);go_ret;exact⟨rfl,rfl⟩
theorem x7s (x:Nat) (hx:x<18446744073709551616) (hx0:x ≠ 0) {w:World} (hT:Tab w) :
  Calls Tryz.prog 193 #[.int .u64 x] w fun e w'=>e=.returned (.int .i64 (Lib.ctz 64 x))/\w'=w:=by
 obtain⟨aI,hk⟩:=Lib.lowest_bit 64 x hx0 hx;obtain⟨hi,htab⟩:=Lib.deBruijn64_at _ hk;have cU:=hT.2.2 _ hi;rw[htab] at cU;exact x5l x _ _ w (by simp;omega) (tz64_key x _ hx hx0 aI) hi hk cU
theorem j3e (a c:Nat) (ha:a<18446744073709551616) (hc:c<18446744073709551616) (x y:Int) (hx:x=(a:Int)) (hy:y=(c:Int)):bits .and .u64 x y=((a &&& c:Nat):Int):=by
 rw[hx,hy];exact bits_and_u64_nat a c ha hc
theorem x6z (x:Nat) (hx:x<18446744073709551616):IntKind.u64.wrap (bits BinOp.and IntKind.u64 ((x:Int) / 2) 6148914691236517205+bits BinOp.and IntKind.u64 (x:Int) 6148914691236517205)=((ocA x:Nat):Int)/\ocA x<=12297829382473034410:=by
 have h1:=j3e (x / 2) 6148914691236517205 (by omega) (by omega) ((x:Int) / 2) 6148914691236517205 (by omega) rfl;have h2:=j3e x 6148914691236517205 (by omega) (by omega) (x:Int) 6148914691236517205 rfl rfl;have l1:x / 2 &&& 6148914691236517205<=6148914691236517205:=Nat.and_le_right;have l2:x &&& 6148914691236517205<=6148914691236517205:=Nat.and_le_right;rw[h1,h2,IntKind.wrap_u64];unfold ocA;generalize x / 2 &&& 6148914691236517205=p at *
 generalize x &&& 6148914691236517205=q at *
 omega
theorem x7a (x:Nat) (hx:x<18446744073709551616):IntKind.u64.wrap (bits BinOp.and IntKind.u64 ((x:Int) / 4) 3689348814741910323+bits BinOp.and IntKind.u64 (x:Int) 3689348814741910323)=((ocB x:Nat):Int)/\ocB x<=7378697629483820646:=by
 have h1:=j3e (x / 4) 3689348814741910323 (by omega) (by omega) ((x:Int) / 4) 3689348814741910323 (by omega) rfl;have h2:=j3e x 3689348814741910323 (by omega) (by omega) (x:Int) 3689348814741910323 rfl rfl;have l1:x / 4 &&& 3689348814741910323<=3689348814741910323:=Nat.and_le_right;have l2:x &&& 3689348814741910323<=3689348814741910323:=Nat.and_le_right;rw[h1,h2,IntKind.wrap_u64];unfold ocB;generalize x / 4 &&& 3689348814741910323=p at *
 generalize x &&& 3689348814741910323=q at *
 omega
theorem x7b (x:Nat) (hx:x<=7378697629483820646):bits BinOp.and IntKind.u64 (IntKind.u64.wrap ((x:Int) / 16+(x:Int))) 1085102592571150095=((ocC x:Nat):Int):=by
 refine j3e (x / 16+x) 1085102592571150095 (by omega) (by omega) _ _ ?_ rfl;rw[IntKind.wrap_u64];omega
theorem sum_a (y:Nat) (h:y+y / 256<18446744073709551616):IntKind.u64.wrap ((y:Int)+(y:Int) / 256)=((y+y / 256:Nat):Int):=by
 rw[IntKind.wrap_u64];omega
theorem sum_b (y:Nat) (h:y+y / 65536<18446744073709551616):IntKind.u64.wrap ((y:Int)+(y:Int) / 65536)=((y+y / 65536:Nat):Int):=by
 rw[IntKind.wrap_u64];omega
theorem sum_c (y:Nat) (h:y+y / 4294967296<18446744073709551616):IntKind.u64.wrap ((y:Int)+(y:Int) / 4294967296)=((y+y / 4294967296:Nat):Int):=by
 rw[IntKind.wrap_u64];omega
theorem x6l (v:Nat):bits BinOp.and IntKind.i64 (wrap64 (v:Int)) 127=((v % 128:Nat):Int):=by
 rw[i64_and127];unfold wrap64;omega
theorem x0e (x:Nat) (hx:x<18446744073709551616) (w:World) :
  Kz 218 #[.int .u64 x] w fun e w'=>e=.returned (Iz (pop x))/\w'=w:=by
 obtain⟨y,hy,y1,y2,y3,y4⟩:=x7c x;have HY:=Q3 hy;have H1:=Q3 y1;have H2:=Q3 y2;have H3:=Q3 y3;have H4:=Q3 y4;clear hy y1 y2 y3 y4;have hx':(x:Int)<18446744073709551616:=by omega
 have hx0:(0:Int)<=(x:Int):=by omega
 go_enter Tryz.func218,Tryz.ntmps218
 go_wp2;go_ret;refine⟨G4 ?_,rfl⟩;obtain⟨a1,a2⟩:=x6z x hx;rw[a1];obtain⟨b1,b2⟩:=x7a (ocA x) (by omega);rw[b1,x7b _ b2,HY.out];rw[sum_a y H1.out,sum_b _ H2.out,sum_c _ H3.out,x6l,H4.out]
theorem j9j:(Tryz.prog.info? 195).map (fun i=>(i.zero,i.size,i.bytes))=some (some (.int .u64 0),1,8):=by kernel_rfl
theorem z9d (i:Nat):pk (fun _=>false) i=0:=(q0t fun j=>by simp).symm
theorem j5n (n:Nat) (w:World) (h:n<=262144) (hT:Tab w):MapAt ((w.alloc (.cells (madeCells #[.int .u64 0] (nw n)) 195)).alloc (.cells #[.int .i64 n,.slice (some ⟨w.heap.size,0,none⟩) (nw n) (nw n)] 211))
  w.heap.size ((w.alloc (.cells (madeCells #[.int .u64 0] (nw n)) 195)).alloc (.cells #[.int .i64 n,.slice (some ⟨w.heap.size,0,none⟩) (nw n) (nw n)] 211)).heap.size (w.heap.size+1) n (fun _=>false):=by
 have g:Out 0 0 w ((w.alloc (.cells (madeCells #[.int .u64 0] (nw n)) 195)).alloc (.cells #[.int .i64 n,.slice (some ⟨w.heap.size,0,none⟩) (nw n) (nw n)] 211)):=((Out.refl _ _ _).alloc _).alloc _;refine⟨_,_,heap_alloc2_new _ _ _,by omega,by simp,Nat.le_refl _,hT.lt,h,Nat.le_refl _,fun _ _=>rfl,hT.kept g (.inr rfl),Nat.le_refl _,by simp;omega,by omega,?_⟩;obtain⟨c,hb,hn,hc⟩:=(World.rowIs_made w (.int .u64 0) (nw n) 195).alloc (.cells #[.int .i64 n,.slice (some ⟨w.heap.size,0,none⟩) (nw n) (nw n)] 211);exact⟨c,hb,by omega,fun i hi=>by rw[hc i hi];show some (Value.int IntKind.u64 0)=some (Value.int IntKind.u64 ↑(pk (fun _=>false) i));rw[z9d];rfl⟩
theorem MapAt.words {w:World} {lo hi b n:Nat} {S:Nat->Bool} (h:MapAt w lo hi b n S) :
  ∃ bw cap,w.heap[b]? = some (.cells #[.int .i64 n,.slice (some ⟨bw,0,none⟩) (nw n) cap] 211 (0,0))/\nw n<=cap/\lo<=bw/\bw<hi/\bw ≠ b/\Row w bw 195 (nw n) (fun i=>.int .u64 (pk S i)):=by
 obtain⟨bw,cap,hb,h1,h2,h3,h4,h5,h6,h7,h8,l1,l2,l3,hr⟩:=h;exact⟨bw,cap,hb,h6,l1,l2,l3,hr⟩
theorem MapAt.store {w:World} {lo hi b n bw cap:Nat} {S S':Nat->Bool} (h:MapAt w lo hi b n S) (hb:w.heap[b]? = some (.cells #[.int .i64 n,.slice (some ⟨bw,0,none⟩) (nw n) cap] 211 (0,0)))
  (hr:Row w bw 195 (nw n) (fun i=>.int .u64 (pk S i))) (l1:lo<=bw) (l2:bw<hi) (l3:bw ≠ b) (k:Nat) (v:Int) (hv:v=pk S' k) (ho:∀ i,i<nw n->i ≠ k->pk S i=pk S' i) (hS:∀ j,n<=j->S' j=false) :
  MapAt (w.setCell ⟨bw,k,none⟩ (.int .u64 v)) lo hi b n S':=by
 obtain⟨bw',cT,jK,h1,h2,h3,h4,h5,h6,h7,h8,h9⟩:=h;have e:=hb.symm.trans jK;simp at e;obtain⟨e1,e2⟩:=e;subst e1 e2;have g:Out lo hi w (w.setCell ⟨bw,k,none⟩ (.int .u64 v)):=(Out.refl _ _ _).setCell (.inl ⟨l1,l2⟩) _;refine⟨_,_,?_,h1,h2,Nat.le_trans h3 g.size,h4,h5,h6,hS,h8.kept g (.inl h4),l1,l2,l3,?_⟩
 ·rw[Below.heap_setCell _ _ _ _ (Ne.symm l3)];exact hb
 ·refine(hr.set k _).congr fun i hi=>?_
  by_cases e:i=k
  ·subst e;simp only[if_true];rw[hv]
  ·simp only[if_neg e];rw[ho i hi e]
theorem z6q {i n:Nat} (h:i<n):i / 64<nw n:=by unfold nw;omega
theorem x4z {w:World} {lo hi b n:Nat} {S:Nat->Bool} (h:MapAt w lo hi b n S) (i:Nat) (bQ:i<n) :
  Kz 136 #[Pq b,Iz i] w fun e w'=>e=.returned (Iz 0)/\MapAt w' lo hi b n (upd S i true)/\Out lo hi w w':=by
 have hb5:=h.bounds;obtain⟨bw,cap,hb,kU,l1,l2,l3,hr⟩:=h.words;have c1:cq w b 1=some (Sz bw (nw n) cap):=by simp[World.cell?,hb]
 have c2:=hr.cell (z6q bQ);have c3:=hr.frozen (i / 64);have HH:=Q3 (z6m h i);have e0:inB n i=true:=by simp[inB];omega
 rw[e0] at HH;have HB:=Q3 (fun w=>q1l i w (by omega));have HF:=Q3 (h.store (S':=upd S i true) hb hr l1 l2 l3 (i / 64) (bits .or .u64 (pk S (i / 64)) (q5u i)) (by rw[bits_or_u64_nat _ _ (q2i _ _) (z8l _)];unfold q5u;rw[x7l]) (fun j _ hj=>(z7i S i j true hj).symm) (fun j hj=>by unfold upd;rw[if_neg (by omega)];exact hb5.2.2.2.2.2 j hj));have i1:(0:Int)<=(i:Int):=by omega
 have i2:(i:Int)<262144:=by omega
 obtain⟨k,hk⟩:∃ k,i / 64=k:=⟨_,rfl⟩
 have i3:(k:Int)<(nw n:Int):=by have:=z6q bQ;omega
 have i4:(0:Int)<=(k:Int):=by omega
 have hk':(i:Int) / 64=(k:Int):=by omega
 have jC:(i:Int).tdiv 64=(k:Int):=by rw[Int.tdiv_eq_ediv_of_nonneg i1];exact hk'
 have hk3:IntKind.i64.wrap (k:Int)=(k:Int):=by simp[IntKind.wrap,IntKind.signed,IntKind.bits];omega
 rw[hk] at c2 c3 HF;clear hk;have HO:=Q3 l1;have HP:=Q3 l2;clear h hb hr l3 e0 hb5 kU l1 l2;go_enter Tryz.func136,Tryz.ntmps136
 go_wp2_with (first | (go_at_call 182;refine Q4 HH.out ?_) | (go_at_call 183;refine Q4 (HB.out _) ?_));go_region_with (go_at_call 183;refine Q4 (HB.out _) ?_)
 all_goals (try go_wp2)
 all_goals go_ret
 all_goals exact⟨rfl,HF.out.drew,((Out.refl _ _ _).setCell (.inl ⟨HO.out,HP.out⟩) _).drew⟩
def x5u (n:Nat) (i:Int):Int:=if inB n i=true then 0 else 10
def q5c (S:Nat->Bool) (n:Nat) (i:Int) (v:Bool):Nat->Bool:=if inB n i=true then upd S i.toNat v else S
theorem x7p {w:World} {lo hi b n:Nat} {S:Nat->Bool} (h:MapAt w lo hi b n S) (i:Int) (bQ:inB n i=false) :
  Kz 136 #[Pq b,Iz i] w fun e w'=>e=.returned (Iz 10)/\w'=w:=by
 have HH:=Q3 (z6m h i);rw[bQ] at HH;clear bQ;go_enter Tryz.func136,Tryz.ntmps136
 go_wp2_with (go_at_call 182;refine Q4 HH.out ?_);go_ret;exact⟨rfl,rfl⟩
theorem z6n {n:Nat} {i:Int} (h:inB n i=true):∃ k:Nat,i=k/\k<n/\i.toNat=k:=by
 simp[inB] at h;exact⟨i.toNat,by omega,by omega,rfl⟩
theorem q8i {w:World} {lo hi b n:Nat} {S:Nat->Bool} (h:MapAt w lo hi b n S) (i:Int) :
  Calls Tryz.prog 136 #[.pointer (some ⟨b,0,none⟩),.int .i64 i] w fun e w'=>e=.returned (.int .i64 (x5u n i))/\MapAt w' lo hi b n (q5c S n i true)/\Out lo hi w w':=by
 by_cases bQ:inB n i=true
 ·unfold x5u q5c;rw[if_pos bQ,if_pos bQ];obtain⟨k,rfl,hk,e⟩:=z6n bQ;rw[e];exact x4z h k hk
 ·unfold x5u q5c;rw[if_neg bQ,if_neg bQ];exact(x7p h i (by simpa using bQ)).mono fun e w' ⟨h1,h2⟩=>⟨h1,by rw[h2];exact h,by rw[h2];exact Out.refl _ _ _⟩
theorem q4l (w:World) (m:Nat):Out 0 0 w (w.drewN m):=⟨rfl,rfl,rfl,Nat.le_refl _,fun _ _ _=>rfl⟩
def j9f (S:Nat->Bool) (n:Nat) (i:Int):Bool:=inB n i && S i.toNat
theorem x3p {w:World} {lo hi b n:Nat} {S:Nat->Bool} (h:MapAt w lo hi b n S) (i:Nat) (bQ:i<n) :
  Kz 138 #[Pq b,Iz i] w fun e w'=>e=.returned (.bool (S i))/\Out 0 0 w w':=by
 have hb5:=h.bounds;obtain⟨bw,cap,hb,kU,l1,l2,l3,hr⟩:=h.words;have c1:cq w b 1=some (Sz bw (nw n) cap):=by simp[World.cell?,hb]
 have c2:=hr.cell (z6q bQ);have HH:=Q3 (fun w (h:MapAt w lo hi b n S)=>z6m h i);have e0:inB n i=true:=by simp[inB];omega
 rw[e0] at HH;have HM:=Q3 h;have HB:=Q3 (fun w=>q1l i w (by omega));have HV:Hid ((bits .and .u64 (pk S (i / 64)) (q5u i) != 0)=S i):=by
  show (bits .and .u64 (pk S (i / 64)) (q5u i) != 0)=S i
  rw[bits_and_u64_nat _ _ (q2i _ _) (z8l _)];have hp:=q8x i;unfold q5u at *;rw[x7k];generalize 2 ^ (i % 64)=p at *
  cases hs:S i
  ·simp
  ·simp;omega
 have i1:(0:Int)<=(i:Int):=by omega
 have i2:(i:Int)<262144:=by omega
 obtain⟨k,hk⟩:∃ k,i / 64=k:=⟨_,rfl⟩
 have i3:(k:Int)<(nw n:Int):=by have:=z6q bQ;omega
 have i4:(0:Int)<=(k:Int):=by omega
 have hk':(i:Int) / 64=(k:Int):=by omega
 have jC:(i:Int).tdiv 64=(k:Int):=by rw[Int.tdiv_eq_ediv_of_nonneg i1];exact hk'
 have hk3:IntKind.i64.wrap (k:Int)=(k:Int):=by simp[IntKind.wrap,IntKind.signed,IntKind.bits];omega
 rw[hk] at c2 HV;clear hk h hb hr l3 e0 hb5 kU l1 l2;go_enter Tryz.func138,Tryz.ntmps138
 go_wp2_with fail;go_region_held3 (fun w'=>cq w' b 1=some (Sz bw (nw n) cap)/\cq w' bw k=some (.int .u64 (pk S k))) (go_keep)
  (first | (go_at_call 182;refine Q4 (HH.out _ (by exact HM.out.drew)) ?_) | (go_at_call 183;refine Q4 (HB.out _) ?_))
 all_goals (try go_wp2)
 all_goals go_ret
 all_goals exact⟨U9 HV.out,(Out.refl _ _ _).drew⟩
theorem x6f {w:World} {lo hi b n:Nat} {S:Nat->Bool} (h:MapAt w lo hi b n S) (i:Int) (bQ:inB n i=false) :
  Kz 138 #[Pq b,Iz i] w fun e w'=>e=.returned (.bool false)/\Out 0 0 w w':=by
 have HH:=Q3 (fun w (h:MapAt w lo hi b n S)=>z6m h i);rw[bQ] at HH;have HM:=Q3 h;clear h bQ;go_enter Tryz.func138,Tryz.ntmps138
 go_wp2_with fail;go_quiet ((go_at_call 182;exact Calls.quiet_of_same (HH.out _ (HM.out.quiet (q4l _ _)))))
 all_goals (try go_wp2)
 all_goals go_ret
 all_goals exact⟨rfl,q4l _ _⟩
theorem j4s {w:World} {lo hi b n:Nat} {S:Nat->Bool} (h:MapAt w lo hi b n S) (i:Int) :
  Calls Tryz.prog 138 #[.pointer (some ⟨b,0,none⟩),.int .i64 i] w fun e w'=>e=.returned (.bool (j9f S n i))/\Out 0 0 w w':=by
 unfold j9f;by_cases bQ:inB n i=true
 ·rw[bQ];obtain⟨k,rfl,hk,e⟩:=z6n bQ;rw[e];exact x3p h k hk
 ·rw[Bool.eq_false_iff.mpr bQ];exact x6f h i (by simpa using bQ)
theorem j3p {w:World} {lo hi b n:Nat} {S:Nat->Bool} (h:MapAt w lo hi b n S) (i:Nat) (bQ:i<n) :
  Kz 186 #[Pq b,Iz i] w fun e w'=>e=.returned (Iz 0)/\MapAt w' lo hi b n (upd S i false)/\Out lo hi w w':=by
 have hb5:=h.bounds;obtain⟨bw,cap,hb,kU,l1,l2,l3,hr⟩:=h.words;have c1:cq w b 1=some (Sz bw (nw n) cap):=by simp[World.cell?,hb]
 have c2:=hr.cell (z6q bQ);have c3:=hr.frozen (i / 64);have HH:=Q3 (z6m h i);have e0:inB n i=true:=by simp[inB];omega
 rw[e0] at HH;have HB:=Q3 (fun w=>q1l i w (by omega));have HF:=Q3 (h.store (S':=upd S i false) hb hr l1 l2 l3 (i / 64) (bits .andNot .u64 (pk S (i / 64)) (q5u i)) (by rw[z0l _ _ (q2i _ _) (z8l _)];unfold q5u;rw[x0l]) (fun j _ hj=>(z7i S i j false hj).symm) (fun j hj=>by unfold upd;rw[if_neg (by omega)];exact hb5.2.2.2.2.2 j hj));have i1:(0:Int)<=(i:Int):=by omega
 have i2:(i:Int)<262144:=by omega
 obtain⟨k,hk⟩:∃ k,i / 64=k:=⟨_,rfl⟩
 have i3:(k:Int)<(nw n:Int):=by have:=z6q bQ;omega
 have i4:(0:Int)<=(k:Int):=by omega
 have hk':(i:Int) / 64=(k:Int):=by omega
 have jC:(i:Int).tdiv 64=(k:Int):=by rw[Int.tdiv_eq_ediv_of_nonneg i1];exact hk'
 have hk3:IntKind.i64.wrap (k:Int)=(k:Int):=by simp[IntKind.wrap,IntKind.signed,IntKind.bits];omega
 rw[hk] at c2 c3 HF;clear hk;have HO:=Q3 l1;have HP:=Q3 l2;clear h hb hr l3 e0 hb5 kU l1 l2;go_enter Tryz.func186,Tryz.ntmps186
 go_wp2_with (go_at_call 182;refine Q4 HH.out ?_);go_region_with (go_at_call 183;refine Q4 (HB.out _) ?_)
 all_goals (try go_wp2)
 all_goals go_ret
 all_goals exact⟨rfl,HF.out.drew,((Out.refl _ _ _).setCell (.inl ⟨HO.out,HP.out⟩) _).drew⟩
theorem j8i {w:World} {lo hi b n:Nat} {S:Nat->Bool} (h:MapAt w lo hi b n S) (i:Int) (bQ:inB n i=false) :
  Kz 186 #[Pq b,Iz i] w fun e w'=>e=.returned (Iz 10)/\w'=w:=by
 have HH:=Q3 (z6m h i);rw[bQ] at HH;clear bQ;go_enter Tryz.func186,Tryz.ntmps186
 go_wp2_with (go_at_call 182;refine Q4 HH.out ?_);go_ret;exact⟨rfl,rfl⟩
theorem z8o {w:World} {lo hi b n:Nat} {S:Nat->Bool} (h:MapAt w lo hi b n S) (i:Int) :
  Calls Tryz.prog 186 #[.pointer (some ⟨b,0,none⟩),.int .i64 i] w fun e w'=>e=.returned (.int .i64 (x5u n i))/\MapAt w' lo hi b n (q5c S n i false)/\Out lo hi w w':=by
 by_cases bQ:inB n i=true
 ·unfold x5u q5c;rw[if_pos bQ,if_pos bQ];obtain⟨k,rfl,hk,e⟩:=z6n bQ;rw[e];exact j3p h k hk
 ·unfold x5u q5c;rw[if_neg bQ,if_neg bQ];exact(j8i h i (by simpa using bQ)).mono fun e w' ⟨h1,h2⟩=>⟨h1,by rw[h2];exact h,by rw[h2];exact Out.refl _ _ _⟩
theorem x0y {w:World} {lo hi b n:Nat} {S:Nat->Bool} (h:MapAt w lo hi b n S) (a:Int) (x:Int) (ha:(n:Int)<=a) :
  Kz 149 #[Pq b,Iz a,.int .u64 x] w fun e w'=>e=.returned (Iz n)/\w'=w:=by
 have H:=Q3 (z8z h);clear h;go_enter Tryz.func149,Tryz.ntmps149
 go_wp2_with (go_at_call 150;refine Q4 H.out ?_);go_ret;exact⟨rfl,rfl⟩
def flp (S:Nat->Bool) (fl:Bool):Nat->Bool:=fun j=>S j != fl
def flv (fl:Bool):Nat:=if fl then 18446744073709551615 else 0
theorem x6c (fl:Bool):flv fl<18446744073709551616:=by cases fl <;> decide
theorem x7j (S:Nat->Bool) (fl:Bool) (s:Nat):bits .xor .u64 (pk S s) (flv fl)=pk (flp S fl) s:=by
 rw[bits_xor_u64_nat _ _ (q2i _ _) (x6c _)];cases fl
 ·show ((pk S s ^^^ 0:Nat):Int)=_
  rw[x0n];rw[z8c (S:=flp S false) (T:=S) fun j _=>by simp[flp]]
 ·show ((pk S s ^^^ 18446744073709551615:Nat):Int)=_
  rw[x0o];rw[z8c (S:=flp S true) (T:=fun j=>!S j) fun j _=>by simp[flp]]
theorem x3r (T:Nat->Bool) (a:Nat):bits .andNot .u64 (pk T (a / 64)) (IntKind.u64.wrap ((q5u a:Int)-1))=pk (z6j T a) (a / 64):=by
 have h1:=z8l a;have h2:=q8x a;have e:IntKind.u64.wrap ((q5u a:Int)-1)=((q5u a-1:Nat):Int):=by rw[IntKind.wrap_u64];omega
 rw[e,z0l _ _ (q2i _ _) (by omega)];unfold q5u;rw[x4n]
theorem x4y {w:World} {lo hi b n:Nat} {S:Nat->Bool} (h:MapAt w lo hi b n S) (a x:Nat) (fl:Bool) (hx:x=flv fl) (ha:a<n) :
  Kz 149 #[Pq b,Iz a,.int .u64 x] w fun e w'=>e=.returned (Iz (nx (flp S fl) n a))/\Out 0 0 w w':=by
 have hb5:=h.bounds;have c0:=h.len;obtain⟨bw,cap,hb,kU,l1,l2,l3,hr⟩:=h.words;have c1:cq w b 1=some (Sz bw (nw n) cap):=by simp[World.cell?,hb]
 have c2:=hr.cell (z6q ha);have HR:=Q3 hr;have HH:=Q3 (z8z h);have HT:=Q3 h.tab;have HB:=Q3 (fun w=>q1l a w (by omega));have HX:=Q3 (x7j S fl);rw[<-hx] at HX;clear hx;have HE:=Q3 (x3r (flp S fl) a);have HN:Hid (nw n*64<n+64/\n<=nw n*64/\nw n<=4096):=by show _/\_/\_;unfold nw;omega
 have HA:=Q3 (z6q ha);have i1:(0:Int)<=(a:Int):=by omega
 have i5:(a:Int)<(n:Int):=by omega
 obtain⟨k,hk⟩:∃ k,a / 64=k:=⟨_,rfl⟩
 have i3:(k:Int)<(nw n:Int):=by have:=z6q ha;omega
 have i4:(0:Int)<=(k:Int):=by omega
 have i7:(k:Int)<4096:=by omega
 have hk':(a:Int) / 64=(k:Int):=by omega
 have HK:=Q3 hk;rw[hk] at c2 HE HA;clear hk h hb hr l3 hb5 kU l1 l2;go_enter Tryz.func149,Tryz.ntmps149
 go_wp2_with (go_at_call 150;refine Q4 HH.out ?_);go_region_held3 (fun w'=>cq w' b 1=some (Sz bw (nw n) cap)/\cq w' bw k=some (.int .u64 (pk S k))) (go_keep)
  (first | (go_at_call 183;refine Q4 (HB.out _) ?_))
 rw[HX.out,HE.out];clear hk' c2;go_wp2_with fail;go_loop [7,8] (fun t r=>∃ s:Nat,k<=s/\s<nw n/\t=Iz s/\r=.int .u64 (pk (z6j (flp S fl) a) s)/\∀ j,a<=j->j<64*s->flp S fl j=false) (fun t _=>nw n-(intOf t).toNat)
 case atStart=>exact⟨k,Nat.le_refl _,HA.out,rfl,rfl,fun j h1 h2=>by have:=HK.out;omega⟩
 case round=>
  obtain⟨s,hs1,eL,rfl,rfl,hz⟩:=hrel;have HZ:=Q3 hz;have j1:(s:Int)<(nw n:Int):=by omega
  have j2:(0:Int)<=(s:Int):=by omega
  have j3:(s:Int)<4096:=by have:=HN.out;omega
  obtain⟨r,hr⟩:∃ r,pk (z6j (flp S fl) a) s=r:=⟨_,rfl⟩
  have hrl:r<18446744073709551616:=by rw[<-hr];exact q2i _ _
  rw[hr];have HQ:=Q3 hr;have HL:=Q3 hrl;have HG:=Q3 ha;have HS:=Q3 hs1;have oH:=Q3 eL;clear hz hr hrl ha hs1 eL;by_cases h0:r=0
  ·subst h0;by_cases h1:s+1=nw n
   ·have h2:(((s:Int)+1) == (nw n:Int))=true:=by rw[beq_iff_eq];omega
    have cD:=Q3 h1;clear h1 i3 j1;go_wp2;go_ret;refine⟨G4 ?_,(Out.refl _ _ _).drew⟩;rw[j6y (q4y HZ.out HQ.out) (by have:=HN.out;have:=cD.out;omega)]
   ·have h2:(((s:Int)+1) == (nw n:Int))=false:=by rw[beq_eq_false_iff_ne];omega
    have h3:(s:Int)+1<(nw n:Int):=by omega
    have c3:cq w bw (s+1)=some (.int .u64 (pk S (s+1))):=HR.out.cell (by omega);have cD:=Q3 h1;clear h1;go_wp2;rw[HX.out,<-x4p (flp S fl) a (s+1) (by have:=HS.out;have:=HK.out;omega)];go_round
    case rel=>exact⟨s+1,by have:=HS.out;omega,by have:=oH.out;have:=cD.out;omega,by go_num,rfl,q4y HZ.out HQ.out⟩
    case measure=>simp[intOf];omega
  ·have h2:((r:Int) == 0)=false:=by rw[beq_eq_false_iff_ne];omega
   have HC:=Q3 (fun w (hT:Tab w)=>x7s r HL.out h0 hT);have HV:=Q3 (j2h (n:=n) HG.out (by rw[HK.out];exact HS.out) HZ.out (by rw[HQ.out];exact h0));rw[HQ.out] at HV;have hc6:(Lib.ctz 64 r:Int)<64:=by have:=(q9b r h0 HL.out).1;omega
   generalize Lib.ctz 64 r=c at *
   have hw1:IntKind.i64.wrap ((s:Int)*64)=(s:Int)*64:=by simp[IntKind.wrap,IntKind.signed,IntKind.bits];omega
   have hw2:IntKind.i64.wrap ((s:Int)*64+(c:Int))=(s:Int)*64+(c:Int):=by simp[IntKind.wrap,IntKind.signed,IntKind.bits];omega
   by_cases hm:(n:Int)<(s:Int)*64+(c:Int)
   ·go_wp2_with fail;go_region_held3 (fun w'=>cq w' b 0=some (Iz n)) (go_keep)
     (first | (go_at_call 193;refine Q4 (HC.out _ (by exact HT.out)) ?_))
    all_goals (try go_wp2)
    all_goals go_ret
    all_goals exact⟨G4 (by have:=HV.out;omega),(Out.refl _ _ _).drew.drew⟩
   ·go_wp2_with fail;go_region_held3 (fun w'=>cq w' b 0=some (Iz n)) (go_keep)
     (first | (go_at_call 193;refine Q4 (HC.out _ (by exact HT.out)) ?_))
    all_goals (try go_wp2)
    all_goals go_ret
    all_goals exact⟨G4 (by have:=HV.out;omega),(Out.refl _ _ _).drew.drew⟩
theorem x6b (S:Nat->Bool):flp S false=S:=by funext j;simp[flp]
theorem x0x {w:World} {lo hi b n:Nat} {S:Nat->Bool} (h:MapAt w lo hi b n S) (a:Int) (x:Nat) (fl:Bool) (hx:x=flv fl) (ha:0<=a) :
  Calls Tryz.prog 149 #[.pointer (some ⟨b,0,none⟩),.int .i64 a,.int .u64 x] w fun e w'=>e=.returned (.int .i64 (nx (flp S fl) n a.toNat))/\Out 0 0 w w':=by
 by_cases hn:a<n
 ·obtain⟨k,rfl⟩:=Int.eq_ofNat_of_zero_le ha;rw[Int.toNat_natCast];exact x4y h k x fl hx (by omega)
 ·rw[x2h _ _ _ (by omega)];exact(x0y h a x (by omega)).mono fun e w' ⟨h1,h2⟩=>⟨h1,by rw[h2];exact Out.refl _ _ _⟩
theorem z5q {w:World} {lo hi b n:Nat} {S:Nat->Bool} (h:MapAt w lo hi b n S) (a:Int) :
  Kz 89 #[Pq b,Iz a] w fun e w'=>e=.returned (Iz (nxr S n a.toNat))/\Out 0 0 w w':=by
 have hS:=x0x h (max a 0) 0 false rfl (by omega);rw[x6b,show (max a 0).toNat=a.toNat from by omega] at hS;have HL:=Q3 (fun w (h:MapAt w lo hi b n S)=>z8z h);have HM:=Q3 h;have hle:=x4h S n a.toNat;unfold nxr;generalize nx S n a.toNat=r at *
 by_cases h0:0<=a
 ·rw[show max a 0=a from by omega] at hS;have HS:=Q3 hS;clear hS h;by_cases hr:r<n
  ·rw[if_pos hr];have e:((r:Int) == (n:Int))=false:=by rw[beq_eq_false_iff_ne];omega
   go_enter Tryz.func89,Tryz.ntmps89
   go_wp2_with fail;refine HS.out.mono ?_;rintro e' w1 ⟨rfl,hg⟩;have HG:=Q3 hg;clear hg;go_wp2_with (go_at_call 150;refine Q4 (HL.out _ (HM.out.quiet HG.out)) ?_);go_ret;exact⟨rfl,HG.out⟩
  ·rw[if_neg hr];obtain rfl:r=n:=by omega
   have e:((r:Int) == (r:Int))=true:=by simp
   go_enter Tryz.func89,Tryz.ntmps89
   go_wp2_with fail;refine HS.out.mono ?_;rintro e' w1 ⟨rfl,hg⟩;have HG:=Q3 hg;clear hg;go_wp2_with (go_at_call 150;refine Q4 (HL.out _ (HM.out.quiet HG.out)) ?_);go_ret;exact⟨rfl,HG.out⟩
 ·rw[show max a 0=0 from by omega] at hS;have HS:=Q3 hS;clear hS h;by_cases hr:r<n
  ·rw[if_pos hr];have e:((r:Int) == (n:Int))=false:=by rw[beq_eq_false_iff_ne];omega
   go_enter Tryz.func89,Tryz.ntmps89
   go_wp2_with fail;refine HS.out.mono ?_;rintro e' w1 ⟨rfl,hg⟩;have HG:=Q3 hg;clear hg;go_wp2_with (go_at_call 150;refine Q4 (HL.out _ (HM.out.quiet HG.out)) ?_);go_ret;exact⟨rfl,HG.out⟩
  ·rw[if_neg hr];obtain rfl:r=n:=by omega
   have e:((r:Int) == (r:Int))=true:=by simp
   go_enter Tryz.func89,Tryz.ntmps89
   go_wp2_with fail;refine HS.out.mono ?_;rintro e' w1 ⟨rfl,hg⟩;have HG:=Q3 hg;clear hg;go_wp2_with (go_at_call 150;refine Q4 (HL.out _ (HM.out.quiet HG.out)) ?_);go_ret;exact⟨rfl,HG.out⟩
def Box (w:World) (g:Nat) (T:TypeId) (v:Value):Prop:=w.heap[g]? = some (.cells #[v] T (0,0))
theorem Box.cell {w:World} {g:Nat} {T:TypeId} {v:Value} (h:Box w g T v):w.cell? ⟨g,0,none⟩=some v:=by
 unfold Box at h;simp[World.cell?,h]
theorem Box.frozen {w:World} {g:Nat} {T:TypeId} {v:Value} (h:Box w g T v):w.frozen? ⟨g,0,none⟩=false:=by
 unfold Box at h;simp[World.frozen?,h]
theorem Box.lt {w:World} {g:Nat} {T:TypeId} {v:Value} (h:Box w g T v):g<w.heap.size:=Q7 h
theorem Box.kept {w w':World} {g lo hi:Nat} {T:TypeId} {v:Value} (h:Box w g T v) (o:Out lo hi w w') (h2:g<lo\/hi<=g):Box w' g T v:=o.heap h h2
theorem Box.new (w:World) (T:TypeId) (v:Value):Box (w.alloc (.cells #[v] T)) w.heap.size T v:=heap_alloc_new _ _
theorem Box.alloc {w:World} {g:Nat} {T:TypeId} {v:Value} (h:Box w g T v) (o:Obj):Box (w.alloc o) g T v:=by
 unfold Box;rw[heap_alloc_old _ _ h.lt];exact h
theorem Box.set {w:World} {g:Nat} {T:TypeId} {v:Value} (h:Box w g T v) (u:Value):Box (w.setCell ⟨g,0,none⟩ u) g T u:=by
 unfold Box at *;simp only[World.setCell,Array.getElem?_modify,if_true,h];rfl
theorem j0x {w:World} {lo hi b n g c:Nat} {S:Nat->Bool} {v:Int} (h:MapAt w lo hi b n S) (jK:Box w g 137 (Pq b)) (hc:Box w c 3 (Iz v)) (v1:0<=v) (v2:v<1000000) (hn:0<n) (s:Nat) (hs:s<nw n) (x:Nat) (hx:x<18446744073709551616) :
  Kz 217 #[Iz s,.int .u64 x,Pq c,Pq g] w fun e w'=>e=.returned (.tuple #[])/\Box w' c 3 (Iz (v+pop (pk S s &&& x)))/\Out c (c+1) w w':=by
 obtain⟨bw,cap,hb,kU,l1,l2,l3,hr⟩:=h.words;have c0:=jK.cell;have c1:cq w b 1=some (Sz bw (nw n) cap):=by simp[World.cell?,hb]
 have c2:=hr.cell hs;have c3:=hc.cell;have c4:=hc.frozen;have HA:=Q3 (bits_and_u64_nat (pk S s) x (q2i _ _) hx);have hl:pk S s &&& x<18446744073709551616:=Nat.lt_of_le_of_lt Nat.and_le_left (q2i _ _);have HC:=Q3 (fun w=>x0e (pk S s &&& x) hl w);have hp:((pop (pk S s &&& x):Nat):Int)<=64:=by have:=x7m (pk S s &&& x);omega
 have HB:=Q3 hc;have hw:IntKind.i64.wrap (v + ↑(pop (pk S s &&& x)))=v + ↑(pop (pk S s &&& x)):=by simp[IntKind.wrap,IntKind.signed,IntKind.bits];omega
 have i1:(0:Int)<=(s:Int):=by omega
 have i2:(s:Int)<(nw n:Int):=by omega
 clear h jK hb hr l3 kU l1 l2 hc hl;go_enter Tryz.func217,Tryz.ntmps217
 go_wp2_with fail;go_region_with (go_at_call 218;rw[HA.out];refine Q4 (HC.out _) ?_)
 all_goals (try go_wp2)
 all_goals exact bodyPost_end (results_none Tryz.results217 _ _ _) rfl ⟨rfl,HB.out.set _,((Out.refl _ _ _).setCell z1 _).drew⟩
theorem z9m (L:Nat) (h:L<=64):IntKind.u64.wrap (18446744073709551615*2 ^ min L 64)=((up L:Nat):Int):=by
 rw[show min L 64=L from by omega,IntKind.wrap_u64];unfold up;have hp:=Nat.two_pow_pos L;have e:((2 ^ L:Nat):Int)=(2:Int) ^ L:=by simp
 by_cases h6:L<64
 ·rw[if_pos h6,<-e];have hl:2 ^ L<2 ^ 64:=Nat.pow_lt_pow_right (a:=2) (by omega) h6;rw[show (2:Nat) ^ 64=18446744073709551616 from rfl] at hl;generalize 2 ^ L=p at *
  omega
 ·rw[if_neg h6];obtain rfl:L=64:=by omega
  rfl
theorem j7b:IntKind.u64.wrap 340282366920938463444927863358058659840=((up 64:Nat):Int):=by rw[IntKind.wrap_u64];rfl
theorem x5a:IntKind.u64.wrap 18446744073709551615=((up 0:Nat):Int):=by rw[IntKind.wrap_u64];rfl
theorem z0p (L H:Nat):bits .andNot .u64 ((up L:Nat):Int) ((up H:Nat):Int)=((msk L H:Nat):Int):=by
 rw[z0l _ _ (x5p _) (x5p _),x7t]
theorem z6w (L:Nat) (h:L<=64):IntKind.u64.wrap (18446744073709551615*2 ^ L)=((up L:Nat):Int):=by
 have:=z9m L h;rwa [show min L 64=L from by omega] at this
end Go.Proofs.YtjgnogflgoihfaaGreatDoor
