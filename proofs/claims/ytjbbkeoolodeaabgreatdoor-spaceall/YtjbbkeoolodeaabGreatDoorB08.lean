import Derived.Test.YtjbbkeoolodeaabGreatDoorB07
import Derived.Test.YtjbbkeoolodeaabGreatDoorB04
import Derived.OwnWalk
import Derived.Test.YtjbbkeoolodeaabGreatDoorB02
import Derived.Test.YtjbbkeoolodeaabGreatDoorB06
namespace Go.Proofs.YtjbbkeoolodeaabGreatDoor
open Go.RowKit
set_option linter.unusedVariables false
set_option maxRecDepth 100000
set_option maxHeartbeats 16000000
set_option linter.unusedSimpArgs false
theorem q3z (c g:Nat) (I:Nat->World->Prop) (hd:∀ s w,I s w->I s w.drew) (a:Nat) (t:Int) (ha:a<9223372036854775808) (ht:t<=262144)
  (hI:∀ s w,a / 64<=s->64*(s:Int)<t->I s w->Calls Tryz.prog 166 #[.int .i64 s,.int .u64 (msk (a-64*s) (min (t.toNat-64*s) 64)),.pointer (some ⟨c,0,none⟩),.pointer (some ⟨g,0,none⟩)] w fun e w'=>e=.returned (.tuple #[])/\I (s+1) w')
  {w:World} (h:I (a / 64) w) :
  Calls Tryz.prog 165 #[.int .i64 a,.int .i64 t,.func (.func 166) #[] #[.pointer (some ⟨c,0,none⟩),.pointer (some ⟨g,0,none⟩)]] w fun e w'=>e=.returned (.tuple #[])/\∃ s,a / 64<=s/\t<=64*(s:Int)/\(s=a / 64\/64*(s:Int)<t+64)/\I s w':=by
 have HD:=Z0 hd;have HI:=Z0 hI;have HW:=Z0 h;have HA:=Z0 ha;have HT:=Z0 ht;have i1:(0:Int)<=(a:Int):=by omega
 clear hd hI h ha ht;go_enter Tryz.func165,Tryz.ntmps165
 go_wp2_with fail;go_loopw [6] (fun x wr=>∃ s:Nat,a / 64<=s/\x=.int .i64 (64*(s:Int))/\(s=a / 64\/64*(s:Int)<t+64)/\I s wr) (fun x _=>(t-intOf x).toNat)
 case atStart=>exact⟨a / 64,Nat.le_refl _,by congr 1;unfold wrap64;have:=HA.out;omega,.inl rfl,HW.out⟩
 case round=>
  obtain⟨s,hs1,rfl,hs2,hw⟩:=hrel;by_cases hlt:64*(s:Int)<t
  ·have j1:(0:Int)<=(s:Int):=by omega
   have j2:(s:Int)<4096:=by have:=HT.out;omega
   have HS:=Z0 hs1;have HV:=Z0 hw;obtain⟨q,hq1,hq2⟩:∃ q:Int,t<=64*q/\q<=4096:=⟨4096,by have:=HT.out;omega,by omega⟩
   have HX:Hid (a / 64=s\/a / 64<s):=by show _\/_;omega
   clear hs1 hs2 hw;have hws:IntKind.i64.wrap (s:Int)=(s:Int):=by simp[IntKind.wrap,IntKind.signed,IntKind.bits];omega
   have HC:=Z0 (HI.out s wr.drew HS.out hlt (HD.out _ _ HV.out));have HR:Hid ((64*(s:Int)<t/\64*((s+1:Nat):Int)<t+64)):=by show _/\_;omega
   rcases HX.out with hA | hA
   ·obtain⟨L,hL⟩:∃ L:Nat,(a:Int)-64*(s:Int)=(L:Int):=⟨a-64*s,by omega⟩
    have a1:(0:Int)<=(a:Int)-64*(s:Int):=by omega
    have a2:(a:Int)-64*(s:Int)<64:=by omega
    have hL':a-64*s=L:=by omega
    have HL:Hid (L<=64):=by show _<=_;omega
    rw[hL'] at HC;have HE:=Z0 hL;clear hA hL hL';by_cases hB:64<t-64*(s:Int)
    ·have hH':min (t.toNat-64*s) 64=64:=by omega
     rw[hH'] at HC;clear hH';go_wp2_with fail;rw[HE.out] at *;go_region_with (go_at_call 166;(first | rw[z7m L HL.out,q9f,G1] | rw[z4w L HL.out,q9f,G1]);refine HC.out.mono ?_;rintro e w2 ⟨rfl,hw2⟩)
     all_goals (try go_wp2)
     all_goals go_roundw
     case rel=>exact⟨s+1,by have:=HS.out;omega,by go_num,.inr HR.out.2,by assumption⟩
     case measure=>simp[intOf];omega
    ·obtain⟨H,hH⟩:∃ H:Nat,t-64*(s:Int)=(H:Int):=⟨(t-64*s).toNat,by omega⟩
     have b2:(0:Int)<=t-64*(s:Int):=by omega
     have hH':min (t.toNat-64*s) 64=H:=by omega
     have HH:Hid (H<=64):=by show _<=_;omega
     rw[hH'] at HC;have HF:=Z0 hH;clear hH hH';go_wp2_with fail;rw[HE.out,HF.out] at *;go_region_with (go_at_call 166;(first | rw[z7m L HL.out,z7m H HH.out,G1] | rw[z7m L HL.out,z4w H HH.out,G1] | rw[z4w L HL.out,z7m H HH.out,G1] | rw[z4w L HL.out,z4w H HH.out,G1]);refine HC.out.mono ?_;rintro e w2 ⟨rfl,hw2⟩)
     all_goals (try go_wp2)
     all_goals go_roundw
     case rel=>exact⟨s+1,by have:=HS.out;omega,by go_num,.inr HR.out.2,by assumption⟩
     case measure=>simp[intOf];omega
   ·have a1:(a:Int)-64*(s:Int)<0:=by omega
    have hL':a-64*s=0:=by omega
    rw[hL'] at HC;clear hA hL';by_cases hB:64<t-64*(s:Int)
    ·have hH':min (t.toNat-64*s) 64=64:=by omega
     rw[hH'] at HC;clear hH';go_wp2_with fail;go_region_with (go_at_call 166;(first | rw[j7v,q9f,G1]);refine HC.out.mono ?_;rintro e w2 ⟨rfl,hw2⟩)
     all_goals (try go_wp2)
     all_goals go_roundw
     case rel=>exact⟨s+1,by have:=HS.out;omega,by go_num,.inr HR.out.2,by assumption⟩
     case measure=>simp[intOf];omega
    ·obtain⟨H,hH⟩:∃ H:Nat,t-64*(s:Int)=(H:Int):=⟨(t-64*s).toNat,by omega⟩
     have b2:(0:Int)<=t-64*(s:Int):=by omega
     have hH':min (t.toNat-64*s) 64=H:=by omega
     have HH:Hid (H<=64):=by show _<=_;omega
     rw[hH'] at HC;have HF:=Z0 hH;clear hH hH';go_wp2_with fail;rw[HF.out] at *;go_region_with (go_at_call 166;(first | rw[j7v,z7m H HH.out,G1] | rw[j7v,z4w H HH.out,G1]);refine HC.out.mono ?_;rintro e w2 ⟨rfl,hw2⟩)
     all_goals (try go_wp2)
     all_goals go_roundw
     case rel=>exact⟨s+1,by have:=HS.out;omega,by go_num,.inr HR.out.2,by assumption⟩
     case measure=>simp[intOf];omega
  ·go_wp2;exact bodyPost_end (results_none Tryz.results165 _ _ _) rfl ⟨rfl,s,hs1,by omega,hs2,hw⟩
theorem z8s {w:World} {lo hi b n:Nat} {S:Nat->Bool} (h:MapAt w lo hi b n S) (a t:Int) (ha:a<9223372036854775808) :
  Calls Tryz.prog 162 #[.pointer (some ⟨b,0,none⟩),.int .i64 a,.int .i64 t] w fun e w'=>e=.returned (.int .i64 (z6o S a.toNat (min t n).toNat))/\Out 0 0 w w':=by
 have hb5:=h.bounds;have hM:=(h.alloc (.cells #[.pointer (some ⟨b,0,none⟩)] 87)).alloc (.cells #[.int .i64 0] 3);have hB:=(Box.new w 87 (.pointer (some ⟨b,0,none⟩))).alloc (.cells #[.int .i64 0] 3);have hC:Box ((w.alloc (.cells #[.pointer (some ⟨b,0,none⟩)] 87)).alloc (.cells #[.int .i64 0] 3)) (w.heap.size+1) 3 (.int .i64 0):=heap_alloc2_new _ _ _;have hO:Out 0 0 w ((w.alloc (.cells #[.pointer (some ⟨b,0,none⟩)] 87)).alloc (.cells #[.int .i64 0] 3)):=((Out.refl _ _ _).alloc _).alloc _;have HL:=Z0 (z8h hM);obtain⟨x,hx,hx2⟩:∃ x:Nat,a.toNat=x/\x<9223372036854775808:=⟨a.toNat,rfl,by omega⟩
 obtain⟨y,hy,hy2⟩:∃ y:Int,min t n=y/\y<=n:=⟨_,rfl,by omega⟩
 have HP:=Z0 (q3z (w.heap.size+1) w.heap.size (fun s w'=>MapAt w' lo hi b n S/\Box w' w.heap.size 87 (.pointer (some ⟨b,0,none⟩))/\Box w' (w.heap.size+1) 3 (.int .i64 (z6o S x (min (64*s) y.toNat)))/\Out 0 0 w w')
  (fun s w' ⟨x1,x2,x3,x4⟩=>⟨x1.drew,x2,x3,x4.drew⟩) x y hx2 (by omega)
  (fun s w' hs hl ⟨x1,x2,x3,x4⟩=>(q7u x1 x2 x3 (by omega) (by have:=j9m S x (min (64*s) y.toNat);omega) (by omega) s (by unfold nw;omega) _ (x1w _ _)).mono
   fun e w2 ⟨y1,y2,y3⟩=>⟨y1,x1.kept y3 (.inl (by omega)) (.inl (by omega)),x2.kept y3 (.inl (by omega)),by
    have:=q8u S x y.toNat s;rw[show 64*(s+1)=64*s+64 from by omega,<-this];simpa using y2,x4.past y3 (by omega)⟩)
  (w:=(w.alloc (.cells #[.pointer (some ⟨b,0,none⟩)] 87)).alloc (.cells #[.int .i64 0] 3)) ⟨hM,hB,by rw[j4d _ _ _ (by omega)];exact hC,hO⟩)
 have c0:=hB.cell;have c1:=hC.cell;have c2:=hC.frozen;rw[hx,hy];clear h hM hB hO hb5 hC;by_cases h0:0<=a
 ·obtain rfl:a=x:=by omega
  by_cases h1:t<=n
  ·obtain rfl:y=t:=by omega
   clear hy hx ha hx2;go_enter Tryz.func162,Tryz.ntmps162
   go_wp2_with (first
    | (go_at_call 134;refine Z5 HL.out ?_)
    | (go_at_call 165;refine HP.out.mono ?_;rintro e w2 ⟨rfl,s,z1,z2,z3,z4,z5,z6,z7⟩;have z8:=z6.cell;clear c0 c1 c2))
   go_ret;exact⟨U3 (by first | rfl | (congr 2;omega)),by assumption⟩
  ·obtain rfl:y=n:=by omega
   have h2:(n:Int)<t:=by omega
   clear hy hx ha hx2 h1;go_enter Tryz.func162,Tryz.ntmps162
   go_wp2_with (first
    | (go_at_call 134;refine Z5 HL.out ?_)
    | (go_at_call 165;refine HP.out.mono ?_;rintro e w2 ⟨rfl,s,z1,z2,z3,z4,z5,z6,z7⟩;have z8:=z6.cell;clear c0 c1 c2))
   go_ret;exact⟨U3 (by first | rfl | (congr 2;omega)),by assumption⟩
 ·obtain rfl:x=0:=by omega
  have h3:a<0:=by omega
  rw[show ((0:Nat):Int)=0 from rfl] at HP;by_cases h1:t<=n
  ·obtain rfl:y=t:=by omega
   clear hy hx ha hx2 h0;go_enter Tryz.func162,Tryz.ntmps162
   go_wp2_with (first
    | (go_at_call 134;refine Z5 HL.out ?_)
    | (go_at_call 165;refine HP.out.mono ?_;rintro e w2 ⟨rfl,s,z1,z2,z3,z4,z5,z6,z7⟩;have z8:=z6.cell;clear c0 c1 c2))
   go_ret;exact⟨U3 (by first | rfl | (congr 2;omega)),by assumption⟩
  ·obtain rfl:y=n:=by omega
   have h2:(n:Int)<t:=by omega
   clear hy hx ha hx2 h1 h0;go_enter Tryz.func162,Tryz.ntmps162
   go_wp2_with (first
    | (go_at_call 134;refine Z5 HL.out ?_)
    | (go_at_call 165;refine HP.out.mono ?_;rintro e w2 ⟨rfl,s,z1,z2,z3,z4,z5,z6,z7⟩;have z8:=z6.cell;clear c0 c1 c2))
   go_ret;exact⟨U3 (by first | rfl | (congr 2;omega)),by assumption⟩
end Go.Proofs.YtjbbkeoolodeaabGreatDoor
namespace Go.Proofs.YtjbbkeoolodeaabGreatDoor
open Go.ChangeShapes Go.WideShapes Go.ChangeAt Go.RowKit
set_option linter.unusedVariables false
set_option maxRecDepth 100000
set_option maxHeartbeats 16000000
set_option linter.unusedSimpArgs false
theorem j0x (a k n:Int) (w:World):Calls Tryz.prog 141 #[.int .i64 a,.int .i64 k,.int .i64 n] w fun e w'=>e=.returned (.bool (z9m a k n))/\w'=w:=by
 go_enter Tryz.func141,Tryz.ntmps141
 go_wp2
 all_goals go_ret
 all_goals refine⟨K8 ?_,rfl⟩
 all_goals (unfold z9m;rw[Bool.eq_iff_iff];simp;try omega)
theorem j5r (a k n:Int) (w:World) (h:z0n a k n):Calls Tryz.prog 142 #[.int .i64 a,.int .i64 k,.int .i64 n] w fun e w'=>e=.returned (.int .i64 (z1n (xV a k n)))/\w'=w:=by
 have H:=Z0 (j9q h);clear h;generalize z1n (xV a k n)=s at *
 go_enter Tryz.func142,Tryz.ntmps142
 go_wp2;go_ret;exact⟨U3 H.out,rfl⟩
theorem q2x (a k n:Int) (w:World):Calls Tryz.prog 100 #[.int .i64 a,.int .i64 k,.int .i64 n] w fun e w'=>e=.returned (.int .i64 (X9 a k n))/\w'=w:=by
 have G:=Z0 (j0x a k n);by_cases h:z0n a k n
 ·have H:=Z0 (j7p h);have S:=Z0 (fun w=>j5r a k n w h);rw[z6x h] at G;clear h;generalize X9 a k n=r at *
  generalize z1n (xV a k n)=s at *
  go_enter Tryz.func100,Tryz.ntmps100
  go_wp2_with (first
   | (go_at_call 141;refine Z5 (G.out _) ?_)
   | (go_at_call 142;refine Z5 (S.out _) ?_))
  go_ret;exact⟨U3 H.out,rfl⟩
 ·rw[z6h h];rw[z5m h] at G;clear h;go_enter Tryz.func100,Tryz.ntmps100
  go_wp2_with (go_at_call 141;refine Z5 (G.out _) ?_);go_ret;exact⟨rfl,rfl⟩
end Go.Proofs.YtjbbkeoolodeaabGreatDoor
namespace Go.Proofs.YtjbbkeoolodeaabGreatDoor
open Go.RowKit
set_option linter.unusedVariables false
set_option maxRecDepth 100000
set_option maxHeartbeats 16000000
set_option linter.unusedSimpArgs false
structure Raw where
 W:Nat->Int
 S:Nat->Int × Int × Int
 F:Nat->Nat->Bool
 P:Nat->Bool
 M:Int->Option Blk
 R:Int->Option Int
 last:Int
def q6a (a:Int) (b:Blk):Value:=.agg #[.int .i64 a,.int .i64 b.1,.int .i64 b.2.1,.int .i64 b.2.2.1,.int .i64 b.2.2.2]
def ln (i:Nat):Nat:=if i<9 then 2 else 1
def z6t (s:Nat->Nat) (n cap:Nat) (last:Int):Array Value:=
 #[.slice (some ⟨s 11,0,none⟩) (64*n) cap,.pointer (some ⟨s 9,0,none⟩),.map (some (s 12)),.pointer (some ⟨s 8+1,0,none⟩),.pointer (some ⟨s 0+1,0,none⟩),.pointer (some ⟨s 1+1,0,none⟩),.pointer (some ⟨s 2+1,0,none⟩),
  .pointer (some ⟨s 3+1,0,none⟩),.pointer (some ⟨s 4+1,0,none⟩),.pointer (some ⟨s 5+1,0,none⟩),.pointer (some ⟨s 6+1,0,none⟩),.pointer (some ⟨s 7+1,0,none⟩),.map (some (s 13)),.int .i64 last]
def z6b (M:Int->Option Blk) (a:Int):Option Value:=(M a).map (q6a a)
def j2t (R:Int->Option Int) (a:Int):Option Value:=(R a).map (fun x=>.int .i64 x)
structure RawAt (w:World) (lo hi:Nat) (s:Nat->Nat) (n cap:Nat) (r:Raw):Prop where
 glob:4<=lo
 top:hi<=w.heap.size
 inn:∀ i,i<15->lo<=s i/\s i+ln i<=hi
 apart:∀ i j,i<15->j<15->i ≠ j->s i+ln i<=s j\/s j+ln j<=s i
 n1:1<=n
 n2:n<=4096
 capn:64*n<=cap
 tab:Tab w
 self:w.heap[s 14]? = some (.cells (z6t s n cap r.last) 92 (0,0))
 words:Row w (s 11) 3 (64*n) (fun i=>.int .i64 (r.W i))
 tbl:TblAt 132 w (s 9) (s 10) n r.S
 objs:MpAt w (s 12) (z6b r.M)
 sers:MpAt w (s 13) (j2t r.R)
 places:MapAt w (s 8) (s 8+2) (s 8+1) (64*n) r.P
 free:∀ c,c<8->MapAt w (s c) (s c+2) (s c+1) (64*n) (r.F c)
section
variable {w w':World} {lo hi n cap:Nat} {s:Nat->Nat} {r:Raw}
theorem RawAt.kept {x y:Nat} (h:RawAt w lo hi s n cap r) (o:Out x y w w') (hd:hi<=x\/y<=lo) (hg:4<=x\/y=0):RawAt w' lo hi s n cap r:=by
 have ini:=fun i hi=>h.inn i hi
 have h8:=ini 8 (by omega);have h9:=ini 9 (by omega);have h10:=ini 10 (by omega);have h11:=ini 11 (by omega);have h12:=ini 12 (by omega);have h13:=ini 13 (by omega);have h14:=ini 14 (by omega);simp[ln] at h8 h9 h10 h11 h12 h13 h14;refine⟨h.glob,Nat.le_trans h.top o.size,h.inn,h.apart,h.n1,h.n2,h.capn,h.tab.kept o hg,o.heap h.self (by omega),h.words.kept o (by omega),h.tbl.kept o (by omega) (by omega),h.objs.kept o (by omega),h.sers.kept o (by omega),h.places.kept o (by omega) hg,fun c hc=>(h.free c hc).kept o ?_ hg⟩;have:=ini c (by omega);simp[ln,show c<9 from by omega] at this;omega
theorem RawAt.quiet (h:RawAt w lo hi s n cap r) (o:Out 0 0 w w'):RawAt w' lo hi s n cap r:=h.kept o z0 (.inr rfl)
theorem RawAt.wide (h:RawAt w lo hi s n cap r) {i:Nat} (hi':i<15) (o:Out (s i) (s i+ln i) w w'):Out lo hi w w':=o.wide (h.inn i hi').1 (h.inn i hi').2
theorem RawAt.but (h:RawAt w lo hi s n cap r) {i:Nat} (hi':i<15) (o:Out (s i) (s i+ln i) w w') :
  4<=s i/\hi<=w'.heap.size/\Tab w'/\(i ≠ 14->w'.heap[s 14]? = some (.cells (z6t s n cap r.last) 92 (0,0)))/\(i ≠ 11->Row w' (s 11) 3 (64*n) (fun i=>.int .i64 (r.W i))) ∧
   (i ≠ 9->i ≠ 10->TblAt 132 w' (s 9) (s 10) n r.S)/\(i ≠ 12->MpAt w' (s 12) (z6b r.M))/\(i ≠ 13->MpAt w' (s 13) (j2t r.R)) ∧
   (i ≠ 8->MapAt w' (s 8) (s 8+2) (s 8+1) (64*n) r.P)/\(∀ c,c<8->i ≠ c->MapAt w' (s c) (s c+2) (s c+1) (64*n) (r.F c)):=by
 have hg:4<=s i:=by have:=(h.inn i hi').1;have:=h.glob;omega
 have ap:=fun j hj hne=>h.apart i j hi' hj hne
 have l1:∀ j,9<=j->ln j=1:=fun j hj=>by unfold ln;rw[if_neg (by omega)]
 have l2:∀ j,j<9->ln j=2:=fun j hj=>by unfold ln;rw[if_pos hj]
 refine⟨hg,Nat.le_trans h.top o.size,h.tab.kept o (.inl hg),fun e=>o.heap h.self ?_,fun e=>h.words.kept o ?_,fun e e'=>h.tbl.kept o ?_ ?_,fun e=>h.objs.kept o ?_,fun e=>h.sers.kept o ?_,fun e=>h.places.kept o ?_ (.inl hg),fun c hc e=>(h.free c hc).kept o ?_ (.inl hg)⟩
 ·have:=ap 14 (by omega) e;rw[l1 14 (by omega)] at this;omega
 ·have:=ap 11 (by omega) e;rw[l1 11 (by omega)] at this;omega
 ·have:=ap 9 (by omega) e;rw[l1 9 (by omega)] at this;omega
 ·have:=ap 10 (by omega) e';rw[l1 10 (by omega)] at this;omega
 ·have:=ap 12 (by omega) e;rw[l1 12 (by omega)] at this;omega
 ·have:=ap 13 (by omega) e;rw[l1 13 (by omega)] at this;omega
 ·have:=ap 8 (by omega) e;rw[l2 8 (by omega)] at this;omega
 ·have:=ap c (by omega) e;rw[l2 c (by omega)] at this;omega
theorem RawAt.setF (h:RawAt w lo hi s n cap r) {c:Nat} (hc:c<8) {S':Nat->Bool} (o:Out (s c) (s c+2) w w') (hm:MapAt w' (s c) (s c+2) (s c+1) (64*n) S') :
  RawAt w' lo hi s n cap { r with F:=fun d=>if d=c then S' else r.F d }:=by
 obtain⟨b0,b1,b2,b3,b4,b5,b6,b7,b8,b9⟩:=h.but (i:=c) (by omega) (by unfold ln;rw[if_pos (show c<9 from by omega)];exact o);refine⟨h.glob,b1,h.inn,h.apart,h.n1,h.n2,h.capn,b2,b3 (by omega),b4 (by omega),b5 (by omega) (by omega),b6 (by omega),b7 (by omega),b8 (by omega),fun d hd=>?_⟩
 show MapAt w' (s d) (s d+2) (s d+1) (64*n) (if d=c then S' else r.F d)
 by_cases e:d=c
 ·rw[if_pos e,e];exact hm
 ·rw[if_neg e];exact b9 d hd (fun e'=>e e'.symm)
theorem RawAt.setP (h:RawAt w lo hi s n cap r) {S':Nat->Bool} (o:Out (s 8) (s 8+2) w w') (hm:MapAt w' (s 8) (s 8+2) (s 8+1) (64*n) S'):RawAt w' lo hi s n cap { r with P:=S' }:=by
 obtain⟨b0,b1,b2,b3,b4,b5,b6,b7,b8,b9⟩:=h.but (i:=8) (by omega) o;exact⟨h.glob,b1,h.inn,h.apart,h.n1,h.n2,h.capn,b2,b3 (by omega),b4 (by omega),b5 (by omega) (by omega),b6 (by omega),b7 (by omega),hm,fun d hd=>b9 d hd (by omega)⟩
theorem RawAt.setT (h:RawAt w lo hi s n cap r) {S':Nat->Int × Int × Int} (o:Out (s 10) (s 10+1) w w') (hm:TblAt 132 w' (s 9) (s 10) n S'):RawAt w' lo hi s n cap { r with S:=S' }:=by
 obtain⟨b0,b1,b2,b3,b4,b5,b6,b7,b8,b9⟩:=h.but (i:=10) (by omega) o;exact⟨h.glob,b1,h.inn,h.apart,h.n1,h.n2,h.capn,b2,b3 (by omega),b4 (by omega),hm,b6 (by omega),b7 (by omega),b8 (by omega),fun d hd=>b9 d hd (by omega)⟩
theorem RawAt.setW (h:RawAt w lo hi s n cap r) {W':Nat->Int} (o:Out (s 11) (s 11+1) w w') (hm:Row w' (s 11) 3 (64*n) (fun i=>.int .i64 (W' i))):RawAt w' lo hi s n cap { r with W:=W' }:=by
 obtain⟨b0,b1,b2,b3,b4,b5,b6,b7,b8,b9⟩:=h.but (i:=11) (by omega) o;exact⟨h.glob,b1,h.inn,h.apart,h.n1,h.n2,h.capn,b2,b3 (by omega),hm,b5 (by omega) (by omega),b6 (by omega),b7 (by omega),b8 (by omega),fun d hd=>b9 d hd (by omega)⟩
theorem RawAt.setM (h:RawAt w lo hi s n cap r) {M':Int->Option Blk} (o:Out (s 12) (s 12+1) w w') (hm:MpAt w' (s 12) (z6b M')):RawAt w' lo hi s n cap { r with M:=M' }:=by
 obtain⟨b0,b1,b2,b3,b4,b5,b6,b7,b8,b9⟩:=h.but (i:=12) (by omega) o;exact⟨h.glob,b1,h.inn,h.apart,h.n1,h.n2,h.capn,b2,b3 (by omega),b4 (by omega),b5 (by omega) (by omega),hm,b7 (by omega),b8 (by omega),fun d hd=>b9 d hd (by omega)⟩
theorem RawAt.setR (h:RawAt w lo hi s n cap r) {R':Int->Option Int} (o:Out (s 13) (s 13+1) w w') (hm:MpAt w' (s 13) (j2t R')):RawAt w' lo hi s n cap { r with R:=R' }:=by
 obtain⟨b0,b1,b2,b3,b4,b5,b6,b7,b8,b9⟩:=h.but (i:=13) (by omega) o;exact⟨h.glob,b1,h.inn,h.apart,h.n1,h.n2,h.capn,b2,b3 (by omega),b4 (by omega),b5 (by omega) (by omega),b6 (by omega),hm,b8 (by omega),fun d hd=>b9 d hd (by omega)⟩
theorem RawAt.setL (h:RawAt w lo hi s n cap r) (v:Int):RawAt (w.setCell ⟨s 14,13,none⟩ (.int .i64 v)) lo hi s n cap { r with last:=v }/\Out (s 14) (s 14+1) w (w.setCell ⟨s 14,13,none⟩ (.int .i64 v)):=by
 have o:Out (s 14) (s 14+1) w (w.setCell ⟨s 14,13,none⟩ (.int .i64 v)):=(Out.refl _ _ _).setCell z1 _;obtain⟨b0,b1,b2,b3,b4,b5,b6,b7,b8,b9⟩:=h.but (i:=14) (by omega) o;refine⟨⟨h.glob,b1,h.inn,h.apart,h.n1,h.n2,h.capn,b2,?_,b4 (by omega),b5 (by omega) (by omega),b6 (by omega),b7 (by omega),b8 (by omega),fun d hd=>b9 d hd (by omega)⟩,o⟩;simp[World.setCell,Array.getElem?_modify,h.self];simp[z6t]
theorem RawAt.cells (h:RawAt w lo hi s n cap r):w.cell? ⟨s 14,0,none⟩=some (.slice (some ⟨s 11,0,none⟩) (64*n) cap)/\w.cell? ⟨s 14,1,none⟩=some (.pointer (some ⟨s 9,0,none⟩))/\w.cell? ⟨s 14,2,none⟩=some (.map (some (s 12))) ∧
  w.cell? ⟨s 14,3,none⟩=some (.pointer (some ⟨s 8+1,0,none⟩))/\w.cell? ⟨s 14,12,none⟩=some (.map (some (s 13)))/\w.cell? ⟨s 14,13,none⟩=some (.int .i64 r.last):=by
 have h':=h.self;refine⟨?_,?_,?_,?_,?_,?_⟩ <;> simp[World.cell?,h',z6t]
theorem RawAt.cellF (h:RawAt w lo hi s n cap r) {c:Nat} (hc:c<8):w.cell? ⟨s 14,4+c,none⟩=some (.pointer (some ⟨s c+1,0,none⟩)):=by
 have h':=h.self;have:c=0\/c=1\/c=2\/c=3\/c=4\/c=5\/c=6\/c=7:=by omega
 rcases this with rfl | rfl | rfl | rfl | rfl | rfl | rfl | rfl <;> simp[World.cell?,h',z6t]
theorem RawAt.cellL (h:RawAt w lo hi s n cap r):w.frozen? ⟨s 14,13,none⟩=false:=by
 have h':=h.self;simp[World.frozen?,h']
theorem RawAt.congr {r':Raw} (h:RawAt w lo hi s n cap r) (e:r=r'):RawAt w lo hi s n cap r':=e ▸ h
theorem Raw.eq {a b:Raw} (h1:a.W=b.W) (h2:a.S=b.S) (h3:a.F=b.F) (h4:a.P=b.P) (h5:a.M=b.M) (h6:a.R=b.R) (h7:a.last=b.last):a=b:=by
 cases a;cases b;simp_all
end
def obM (st:Sp) (a:Int):Option Blk:=if 0<=a/\Q7 (st.O a.toNat)=true then some (st.O a.toNat) else none
def q2e (n:Nat) (st:Sp) (x:Int):Option Nat:=if 1<=x then (List.range (64*n)).find? (fun a=>Q7 (st.O a) && ((st.O a).2.2.1 == x)) else none
def q2m (n:Nat) (st:Sp) (x:Int):Option Int:=(q2e n st x).map (fun a=>(a:Int))
def Z6 (n:Nat) (st:Sp):Raw:=⟨st.W,st.S,fun c=>fr n st (c:Int),ob n st,obM st,q2m n st,st.last⟩
def SpAt (w:World) (lo hi:Nat) (s:Nat->Nat) (n cap:Nat) (st:Sp):Prop:=RawAt w lo hi s n cap (Z6 n st)/\Inv n st
theorem SpAt.kept {w w':World} {lo hi n cap x y:Nat} {s:Nat->Nat} {st:Sp} (h:SpAt w lo hi s n cap st) (o:Out x y w w') (hd:hi<=x\/y<=lo) (hg:4<=x\/y=0):SpAt w' lo hi s n cap st:=⟨h.1.kept o hd hg,h.2⟩
theorem SpAt.quiet {w w':World} {lo hi n cap:Nat} {s:Nat->Nat} {st:Sp} (h:SpAt w lo hi s n cap st) (o:Out 0 0 w w'):SpAt w' lo hi s n cap st:=⟨h.1.quiet o,h.2⟩
theorem q7k (w:World):(zeroValue 97).run Tryz.prog w=.ok (.agg #[.int .i64 0,.int .i64 0,.int .i64 0,.int .i64 0,.int .i64 0]) w:=by kernel_rfl
theorem j4j (w:World):(zeroValue 3).run Tryz.prog w=.ok (.int .i64 0) w:=by kernel_rfl
theorem infoB (a b c d e:Int):(Tryz.prog.info? 97).map (·.size)=some (#[Value.int .i64 a,.int .i64 b,.int .i64 c,.int .i64 d,.int .i64 e]).size:=by
 rw[show (#[Value.int .i64 a,.int .i64 b,.int .i64 c,.int .i64 d,.int .i64 e]).size=5 from rfl];kernel_rfl
theorem x0w (a b:Int):(Tryz.prog.info? 39).map (·.size)=some (#[Value.int .i64 a,.int .i64 b]).size:=by
 rw[show (#[Value.int .i64 a,.int .i64 b]).size=2 from rfl];kernel_rfl
def z3l (e a:Int):Value:=.agg #[.int .i64 e,.int .i64 a]
theorem z4z {fn:Func} {p u:Tmp} {a:Act} {w:World} {g:Nat} {x1 x2 x3 x4 x5:Int} {v:Value} {post:Ending->World->Prop} (hr:fn.results = #[.cell p 97,.tmp u]) (hp:a.tmps.getD p undef=.pointer (some ⟨g,0,none⟩)) (hu:a.tmps.getD u undef=v)
  (hd:a.defers=[]) (hg:w.heap[g]? = some (.cells #[.int .i64 x1,.int .i64 x2,.int .i64 x3,.int .i64 x4,.int .i64 x5] 97 (0,0))) (h:post (.returned (.tuple #[.agg #[.int .i64 x1,.int .i64 x2,.int .i64 x3,.int .i64 x4,.int .i64 x5],v])) w):bodyPost Tryz.prog fn post Exit.ret a w:=by
 refine bodyPost_ret (v:=.tuple #[.agg #[.int .i64 x1,.int .i64 x2,.int .i64 x3,.int .i64 x4,.int .i64 x5],v]) ?_ hd h;rw[results_cell_tmp hr,hp];simp[asAddr,run_loadVar_row w g 97 97 _ (0,0) _ hg Tryz.underlying97 rfl (infoB x1 x2 x3 x4 x5),Result.andThen];simpa using hu
theorem z4g {fn:Func} {p:Tmp} {a:Act} {w:World} {g:Nat} {x1 x2:Int} {post:Ending->World->Prop} (hr:fn.results = #[.cell p 39]) (hp:a.tmps.getD p undef=.pointer (some ⟨g,0,none⟩))
  (hd:a.defers=[]) (hg:w.heap[g]? = some (.cells #[.int .i64 x1,.int .i64 x2] 39 (0,0))) (h:post (.returned (z3l x1 x2)) w):bodyPost Tryz.prog fn post Exit.ret a w:=
 bodyPost_ret (v:=z3l x1 x2) (results_cell_row hr a.tmps _ g 39 _ (0,0) _ hp hg Tryz.underlying39 rfl (x0w x1 x2)) hd h
theorem Out.drewN {lo hi:Nat} {a w:World} (h:Out lo hi a w) (m:Nat):Out lo hi a (w.drewN m):=⟨h.1,h.2.1,h.2.2.1,h.size,h.2.2.2.2⟩
theorem K4 {w:World} {o o2:Obj}:((w.alloc o).alloc o2).heap[w.heap.size]? = some o:=by
 rw[Below.heap_alloc _ _ _ (by simp)];exact heap_alloc_new _ _
theorem z0f (b:Nat) (w:World):Calls Tryz.prog 49 #[.pointer (some ⟨b,0,none⟩)] w fun e w'=>e=.returned (.pointer (some ⟨b,0,none⟩))/\w'=w:=by
 go_enter Tryz.func49,Tryz.ntmps49
 go_wp2;go_ret;exact⟨rfl,rfl⟩
section
variable {w:World} {lo hi n cap:Nat} {s:Nat->Nat} {r:Raw}
theorem z3r (h:RawAt w lo hi s n cap r):Calls Tryz.prog 15 #[.pointer (some ⟨s 14,0,none⟩)] w fun e w'=>e=.returned (.int .i64 ((64*n:Nat):Int))/\w'=w:=by
 obtain⟨c0,c1,c2,c3,c4,c5⟩:=h.cells;clear h;go_enter Tryz.func15,Tryz.ntmps15
 go_wp2_with (go_at_call 49;refine Z5 (z0f _ _) ?_);go_ret;exact⟨rfl,rfl⟩
theorem q0v (h:RawAt w lo hi s n cap r) (a:Int):Calls Tryz.prog 53 #[.pointer (some ⟨s 14,0,none⟩),.int .i64 a] w fun e w'=>e=.returned (.bool (inB (64*n) a))/\w'=w:=by
 have HW:=Z0 (z3r h);have h2:=h.n2;generalize 64*n=m at *
 clear h;unfold inB;by_cases h0:0<=a
 ·go_enter Tryz.func53,Tryz.ntmps53
  go_wp2_with (go_at_call 15;refine Z5 HW.out ?_);go_ret;exact⟨K8 (by simp[h0]),rfl⟩
 ·have h0':a<0:=by omega
  go_enter Tryz.func53,Tryz.ntmps53
  go_wp2_with (go_at_call 15;refine Z5 HW.out ?_);go_ret;exact⟨K8 (by simp[h0];try omega),rfl⟩
def z7r (n:Nat) (W:Nat->Int) (a:Int):Int:=if inB (64*n) a then W a.toNat else 0
theorem q6e (h:RawAt w lo hi s n cap r) (a:Int):Calls Tryz.prog 14 #[.pointer (some ⟨s 14,0,none⟩),.int .i64 a] w fun e w'=>e=.returned (.tuple #[.int .i64 (z7r n r.W a),.bool (inB (64*n) a)])/\w'=w:=by
 have HH:=Z0 (q0v h a);obtain⟨c0,c1,c2,c3,c4,c5⟩:=h.cells;have h2:=h.n2;by_cases hi':inB (64*n) a=true
 ·obtain⟨k,rfl,hk,hk2⟩:=z7z hi';have hc:=h.words.cell hk;have hv:z7r n r.W (k:Int)=r.W k:=by unfold z7r;rw[if_pos hi',hk2]
  have b1:(0:Int)<=(k:Int):=by omega
  have b2:(k:Int)<((64*n:Nat):Int):=by omega
  have b3:((64*n:Nat):Int)<=262144:=by omega
  rw[hi'] at HH ⊢;rw[hv];generalize r.W k=v at *
  generalize 64*n=m at *
  clear h hv hi' hk hk2 h2;go_enter Tryz.func14,Tryz.ntmps14
  go_wp2_with (go_at_call 53;refine Z5 HH.out ?_);go_ret2;exact⟨rfl,rfl⟩
 ·have hf:inB (64*n) a=false:=by simpa using hi'
  have hv:z7r n r.W a=0:=by unfold z7r;rw[hf];rfl
  rw[hf] at HH ⊢;rw[hv];clear h hv hi';go_enter Tryz.func14,Tryz.ntmps14
  go_wp2_with (go_at_call 53;refine Z5 HH.out ?_);go_ret2;exact⟨rfl,rfl⟩
theorem Row.upd {w:World} {b k:Nat} {T:TypeId} {W:Nat->Int} (h:Row w b T k (fun i=>.int .i64 (W i))) (a:Nat) (v:Int):Row (w.setCell ⟨b,a,none⟩ (.int .i64 v)) b T k (fun i=>.int .i64 (z5b W a v i)):=
 (h.set a (.int .i64 v)).congr fun i _=>by unfold z5b;split <;> rfl
theorem RawAt.poke (h:RawAt w lo hi s n cap r) (a:Nat) (v:Int):RawAt (w.setCell ⟨s 11,a,none⟩ (.int .i64 v)) lo hi s n cap { r with W:=z5b r.W a v }/\Out (s 11) (s 11+1) w (w.setCell ⟨s 11,a,none⟩ (.int .i64 v)):=by
 have o:Out (s 11) (s 11+1) w (w.setCell ⟨s 11,a,none⟩ (.int .i64 v)):=(Out.refl _ _ _).setCell z1 _;exact⟨h.setW o (h.words.upd a v),o⟩
def z6c (n:Nat) (W:Nat->Int) (a v:Int):Nat->Int:=if inB (64*n) a then z5b W a.toNat v else W
theorem j4x (h:RawAt w lo hi s n cap r) (a v:Int):Calls Tryz.prog 22 #[.pointer (some ⟨s 14,0,none⟩),.int .i64 a,.int .i64 v] w fun e w'=>e=.returned (.bool (inB (64*n) a))/\RawAt w' lo hi s n cap { r with W:=z6c n r.W a v }/\Out lo hi w w':=by
 have HH:=Z0 (q0v h a);obtain⟨c0,c1,c2,c3,c4,c5⟩:=h.cells;have h2:=h.n2;by_cases hi':inB (64*n) a=true
 ·obtain⟨k,rfl,hk,hk2⟩:=z7z hi';have hc:=h.words.cell hk;have hfz:=h.words.frozen k;have hv:z6c n r.W (k:Int) v=z5b r.W k v:=by unfold z6c;rw[if_pos hi',hk2]
  have b1:(0:Int)<=(k:Int):=by omega
  have b2:(k:Int)<((64*n:Nat):Int):=by omega
  have b3:((64*n:Nat):Int)<=262144:=by omega
  have HP:=Z0 (h.poke k v);have HW:=Z0 (h.wide (i:=11) (by omega) HP.out.2);rw[hi'] at HH ⊢;rw[hv];generalize r.W k=u at *
  generalize hm:64*n=m at *
  clear h hv hi' hk hk2 h2 hm;go_enter Tryz.func22,Tryz.ntmps22
  go_wp2_with (go_at_call 53;refine Z5 HH.out ?_);go_ret;exact⟨rfl,HP.out.1,HW.out⟩
 ·have hf:inB (64*n) a=false:=by simpa using hi'
  have hv:z6c n r.W a v=r.W:=by unfold z6c;rw[hf];rfl
  have HP:=Z0 h;rw[hf] at HH ⊢;rw[hv];clear h hv hi';go_enter Tryz.func22,Tryz.ntmps22
  go_wp2_with (go_at_call 53;refine Z5 HH.out ?_);go_ret;exact⟨rfl,HP.out,Out.refl _ _ _⟩
theorem RawAt.look (h:RawAt w lo hi s n cap r) (c:Bool) (a:Int):(Instr.lookup 86 (.map (some (s 12))) (.int .i64 a) c).run Tryz.prog w =
  .ok (if c then .tuple #[(z6b r.M a).getD (.agg #[.int .i64 0,.int .i64 0,.int .i64 0,.int .i64 0,.int .i64 0]),.bool (z6b r.M a).isSome] else (z6b r.M a).getD (.agg #[.int .i64 0,.int .i64 0,.int .i64 0,.int .i64 0,.int .i64 0])) w:=
 j8j c Tryz.underlying86 Tryz.underlying3 (q7k w) h.objs a
theorem RawAt.find (h:RawAt w lo hi s n cap r) (c:Bool) (a:Int):(Instr.lookup 89 (.map (some (s 13))) (.int .i64 a) c).run Tryz.prog w =
  .ok (if c then .tuple #[(j2t r.R a).getD (.int .i64 0),.bool (j2t r.R a).isSome] else (j2t r.R a).getD (.int .i64 0)) w:=
 j8j c Tryz.underlying89 Tryz.underlying3 (j4j w) h.sers a
theorem z5c (h:RawAt w lo hi s n cap r) {a k z x t:Int} (hm:r.M a=some (k,z,x,t)):Calls Tryz.prog 65 #[.pointer (some ⟨s 14,0,none⟩),.int .i64 a] w fun e w'=>e=.returned (.tuple #[.agg #[.int .i64 a,.int .i64 k,.int .i64 z,.int .i64 x,.int .i64 t],.bool true])/\Out 0 0 w w':=by
 have h':=h.quiet ((Out.refl 0 0 w).alloc (.cells #[.int .i64 0,.int .i64 0,.int .i64 0,.int .i64 0,.int .i64 0] 97));obtain⟨c0,c1,c2,c3,c4,c5⟩:=h'.cells;have hl:=h'.look true a;have e1:z6b r.M a=some (.agg #[.int .i64 a,.int .i64 k,.int .i64 z,.int .i64 x,.int .i64 t]):=by unfold z6b;rw[hm];rfl
 rw[e1] at hl;simp only[Option.getD_some,Option.isSome_some,if_true] at hl;clear h h' e1 hm;go_enter Tryz.func65,Tryz.ntmps65
 go_wp2_with (go_at_call 49;refine Z5 (z0f _ _) ?_);refine z4z (g:=w.heap.size) Tryz.results65 rfl rfl rfl K4 ⟨rfl,((Out.refl _ _ _).alloc _).alloc _⟩
theorem z8v (h:RawAt w lo hi s n cap r) {a:Int} (hm:r.M a=none):Calls Tryz.prog 65 #[.pointer (some ⟨s 14,0,none⟩),.int .i64 a] w fun e w'=>e=.returned (.tuple #[.agg #[.int .i64 0,.int .i64 0,.int .i64 0,.int .i64 0,.int .i64 0],.bool false])/\Out 0 0 w w':=by
 have h':=h.quiet ((Out.refl 0 0 w).alloc (.cells #[.int .i64 0,.int .i64 0,.int .i64 0,.int .i64 0,.int .i64 0] 97));obtain⟨c0,c1,c2,c3,c4,c5⟩:=h'.cells;have hl:=h'.look true a;have e1:z6b r.M a=none:=by unfold z6b;rw[hm];rfl
 rw[e1] at hl;simp only[Option.getD_none,Option.isSome_none,if_true] at hl;clear h h' e1 hm;go_enter Tryz.func65,Tryz.ntmps65
 go_wp2_with (go_at_call 49;refine Z5 (z0f _ _) ?_);refine z4z (g:=w.heap.size) Tryz.results65 rfl rfl rfl K4 ⟨rfl,((Out.refl _ _ _).alloc _).alloc _⟩
theorem x3c (h:RawAt w lo hi s n cap r) (a:Int):Calls Tryz.prog 32 #[.pointer (some ⟨s 14,0,none⟩),.int .i64 a] w fun e w'=>e=.returned (.tuple #[.int .i64 ((r.R a).getD 0),.bool (r.R a).isSome])/\w'=w:=by
 obtain⟨c0,c1,c2,c3,c4,c5⟩:=h.cells;have hl:=h.find true a;cases hm:r.R a with
 | some v=>
  have e1:j2t r.R a=some (.int .i64 v):=by unfold j2t;rw[hm];rfl
  rw[e1] at hl;simp only[Option.getD_some,Option.isSome_some,if_true] at hl ⊢;clear h e1 hm;go_enter Tryz.func32,Tryz.ntmps32
  go_wp2_with (go_at_call 49;refine Z5 (z0f _ _) ?_);go_ret2;exact⟨rfl,rfl⟩
 | none=>
  have e1:j2t r.R a=none:=by unfold j2t;rw[hm];rfl
  rw[e1] at hl;simp only[Option.getD_none,Option.isSome_none,if_true] at hl ⊢;clear h e1 hm;go_enter Tryz.func32,Tryz.ntmps32
  go_wp2_with (go_at_call 49;refine Z5 (z0f _ _) ?_);go_ret2;exact⟨rfl,rfl⟩
theorem z8z (h:RawAt w lo hi s n cap r) {a:Nat} (ha:a<64*n) (k z x t:Int):Calls Tryz.prog 121 #[.pointer (some ⟨s 14,0,none⟩),.agg #[.int .i64 (a:Int),.int .i64 k,.int .i64 z,.int .i64 x,.int .i64 t]] w fun e w'=>e=.returned (.bool (r.W a == X9 a k z))/\Out 0 0 w w':=by
 have h':=h.quiet ((Out.refl 0 0 w).alloc (.cells #[.int .i64 (a:Int),.int .i64 k,.int .i64 z,.int .i64 x,.int .i64 t] 97));obtain⟨c0,c1,c2,c3,c4,c5⟩:=h'.cells;have h2:=h.n2;have hc:=h'.words.cell ha;have b1:(0:Int)<=(a:Int):=by omega
 have b2:(a:Int)<((64*n:Nat):Int):=by omega
 have b3:((64*n:Nat):Int)<=262144:=by omega
 have HM:=Z0 (fun w=>q2x (a:Int) k z w);generalize X9 (a:Int) k z=mv at *
 generalize r.W a=u at *
 generalize 64*n=m at *
 clear h h' ha h2;go_enter Tryz.func121,Tryz.ntmps121
 go_wp2_with fail;go_quiet (first | (go_at_call 100;exact Calls.quiet_of_same (HM.out _)))
 go_wp2;go_ret;exact⟨rfl,((Out.refl 0 0 w).alloc _).drewN _⟩
end
end Go.Proofs.YtjbbkeoolodeaabGreatDoor
