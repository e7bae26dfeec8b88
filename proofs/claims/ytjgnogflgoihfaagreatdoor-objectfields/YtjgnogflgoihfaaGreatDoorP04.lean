import Derived.Test.YtjgnogflgoihfaaGreatDoorP03
import Derived.WalkSmall
set_option linter.unusedSimpArgs false
set_option linter.unusedVariables false
set_option maxHeartbeats 16000000
set_option maxRecDepth 100000
namespace Go.Proofs.YtjgnogflgoihfaaGreatDoor
open Go.RowKit
theorem q7q (c g:Nat) (I:Nat->World->Prop) (hd:∀ s w,I s w->I s w.drew) (a:Nat) (t:Int) (ha:a<9223372036854775808) (ht:t<=262144)
  (hI:∀ s w,a / 64<=s->64*(s:Int)<t->I s w->Kz 217 #[Iz s,.int .u64 (msk (a-64*s) (min (t.toNat-64*s) 64)),Pq c,Pq g] w fun e w'=>e=.returned (.tuple #[])/\I (s+1) w')
  {w:World} (h:I (a / 64) w) :
  Kz 216 #[Iz a,Iz t,.func (.func 217) #[] #[Pq c,Pq g]] w fun e w'=>e=.returned (.tuple #[])/\∃ s,a / 64<=s/\t<=64*(s:Int)/\(s=a / 64\/64*(s:Int)<t+64)/\I s w':=by
 have HD:=Q3 hd;have HI:=Q3 hI;have HW:=Q3 h;have HA:=Q3 ha;have HT:=Q3 ht;have i1:(0:Int)<=(a:Int):=by omega
 clear hd hI h ha ht;go_enter Tryz.func216,Tryz.ntmps216
 go_wp2_with fail;go_loopw [6] (fun x wr=>∃ s:Nat,a / 64<=s/\x=Iz (64*(s:Int))/\(s=a / 64\/64*(s:Int)<t+64)/\I s wr) (fun x _=>(t-intOf x).toNat)
 case atStart=>exact⟨a / 64,Nat.le_refl _,by congr 1;unfold wrap64;have:=HA.out;omega,.inl rfl,HW.out⟩
 case round=>
  obtain⟨s,hs1,rfl,eL,hw⟩:=hrel;by_cases dD:64*(s:Int)<t
  ·have j1:(0:Int)<=(s:Int):=by omega
   have j2:(s:Int)<4096:=by have:=HT.out;omega
   have HS:=Q3 hs1;have HV:=Q3 hw;obtain⟨q,hq1,hq2⟩:∃ q:Int,t<=64*q/\q<=4096:=⟨4096,by have:=HT.out;omega,by omega⟩
   have HX:Hid (a / 64=s\/a / 64<s):=by show _\/_;omega
   clear hs1 eL hw;have hws:IntKind.i64.wrap (s:Int)=(s:Int):=by simp[IntKind.wrap,IntKind.signed,IntKind.bits];omega
   have HC:=Q3 (HI.out s wr.drew HS.out dD (HD.out _ _ HV.out));have HR:Hid ((64*(s:Int)<t/\64*((s+1:Nat):Int)<t+64)):=by show _/\_;omega
   rcases HX.out with hA | hA
   ·obtain⟨L,hL⟩:∃ L:Nat,(a:Int)-64*(s:Int)=(L:Int):=⟨a-64*s,by omega⟩
    have a1:(0:Int)<=(a:Int)-64*(s:Int):=by omega
    have a2:(a:Int)-64*(s:Int)<64:=by omega
    have hL':a-64*s=L:=by omega
    have HL:Hid (L<=64):=by show _<=_;omega
    rw[hL'] at HC;have HE:=Q3 hL;clear hA hL hL';by_cases hB:64<t-64*(s:Int)
    ·have eI:min (t.toNat-64*s) 64=64:=by omega
     rw[eI] at HC;clear eI;go_wp2_with fail;rw[HE.out] at *;go_region_with (go_at_call 217;(first | rw[z9m L HL.out,j7b,z0p] | rw[z6w L HL.out,j7b,z0p]);refine HC.out.mono ?_;rintro e w2 ⟨rfl,hw2⟩)
     all_goals (try go_wp2)
     all_goals go_roundw
     case rel=>exact⟨s+1,by have:=HS.out;omega,by go_num,.inr HR.out.2,by assumption⟩
     case measure=>simp[intOf];omega
    ·obtain⟨H,hH⟩:∃ H:Nat,t-64*(s:Int)=(H:Int):=⟨(t-64*s).toNat,by omega⟩
     have b2:(0:Int)<=t-64*(s:Int):=by omega
     have eI:min (t.toNat-64*s) 64=H:=by omega
     have HH:Hid (H<=64):=by show _<=_;omega
     rw[eI] at HC;have HF:=Q3 hH;clear hH eI;go_wp2_with fail;rw[HE.out,HF.out] at *;go_region_with (go_at_call 217;(first | rw[z9m L HL.out,z9m H HH.out,z0p] | rw[z9m L HL.out,z6w H HH.out,z0p] | rw[z6w L HL.out,z9m H HH.out,z0p] | rw[z6w L HL.out,z6w H HH.out,z0p]);refine HC.out.mono ?_;rintro e w2 ⟨rfl,hw2⟩)
     all_goals (try go_wp2)
     all_goals go_roundw
     case rel=>exact⟨s+1,by have:=HS.out;omega,by go_num,.inr HR.out.2,by assumption⟩
     case measure=>simp[intOf];omega
   ·have a1:(a:Int)-64*(s:Int)<0:=by omega
    have hL':a-64*s=0:=by omega
    rw[hL'] at HC;clear hA hL';by_cases hB:64<t-64*(s:Int)
    ·have eI:min (t.toNat-64*s) 64=64:=by omega
     rw[eI] at HC;clear eI;go_wp2_with fail;go_region_with (go_at_call 217;(first | rw[x5a,j7b,z0p]);refine HC.out.mono ?_;rintro e w2 ⟨rfl,hw2⟩)
     all_goals (try go_wp2)
     all_goals go_roundw
     case rel=>exact⟨s+1,by have:=HS.out;omega,by go_num,.inr HR.out.2,by assumption⟩
     case measure=>simp[intOf];omega
    ·obtain⟨H,hH⟩:∃ H:Nat,t-64*(s:Int)=(H:Int):=⟨(t-64*s).toNat,by omega⟩
     have b2:(0:Int)<=t-64*(s:Int):=by omega
     have eI:min (t.toNat-64*s) 64=H:=by omega
     have HH:Hid (H<=64):=by show _<=_;omega
     rw[eI] at HC;have HF:=Q3 hH;clear hH eI;go_wp2_with fail;rw[HF.out] at *;go_region_with (go_at_call 217;(first | rw[x5a,z9m H HH.out,z0p] | rw[x5a,z6w H HH.out,z0p]);refine HC.out.mono ?_;rintro e w2 ⟨rfl,hw2⟩)
     all_goals (try go_wp2)
     all_goals go_roundw
     case rel=>exact⟨s+1,by have:=HS.out;omega,by go_num,.inr HR.out.2,by assumption⟩
     case measure=>simp[intOf];omega
  ·go_wp2;exact bodyPost_end (results_none Tryz.results216 _ _ _) rfl ⟨rfl,s,hs1,by omega,eL,hw⟩
theorem z9w {w:World} {lo hi b n:Nat} {S:Nat->Bool} (h:MapAt w lo hi b n S) (a t:Int) (ha:a<9223372036854775808) :
  Kz 208 #[Pq b,Iz a,Iz t] w fun e w'=>e=.returned (Iz (z7u S a.toNat (min t n).toNat))/\Out 0 0 w w':=by
 have hb5:=h.bounds;have hM:=(h.alloc (.cells #[Pq b] 137)).alloc (.cells #[Iz 0] 3);have hB:=(Box.new w 137 (Pq b)).alloc (.cells #[Iz 0] 3);have hC:Box ((w.alloc (.cells #[Pq b] 137)).alloc (.cells #[Iz 0] 3)) (w.heap.size+1) 3 (Iz 0):=heap_alloc2_new _ _ _;have hO:Out 0 0 w ((w.alloc (.cells #[Pq b] 137)).alloc (.cells #[Iz 0] 3)):=((Out.refl _ _ _).alloc _).alloc _;have HL:=Q3 (z8z hM);obtain⟨x,hx,hx2⟩:∃ x:Nat,a.toNat=x/\x<9223372036854775808:=⟨a.toNat,rfl,by omega⟩
 obtain⟨y,hy,hy2⟩:∃ y:Int,min t n=y/\y<=n:=⟨_,rfl,by omega⟩
 have HP:=Q3 (q7q (w.heap.size+1) w.heap.size (fun s w'=>MapAt w' lo hi b n S/\Box w' w.heap.size 137 (Pq b)/\Box w' (w.heap.size+1) 3 (Iz (z7u S x (min (64*s) y.toNat)))/\Out 0 0 w w')
  (fun s w' ⟨x1,x2,x3,x4⟩=>⟨x1.drew,x2,x3,x4.drew⟩) x y hx2 (by omega)
  (fun s w' hs hl ⟨x1,x2,x3,x4⟩=>(j0x x1 x2 x3 (by omega) (by have:=x2w S x (min (64*s) y.toNat);omega) (by omega) s (by unfold nw;omega) _ (x6q _ _)).mono
   fun e w2 ⟨y1,y2,y3⟩=>⟨y1,x1.kept y3 (.inl (by omega)) (.inl (by omega)),x2.kept y3 (.inl (by omega)),by
    have:=j6a S x y.toNat s;rw[show 64*(s+1)=64*s+64 from by omega,<-this];simpa using y2,x4.past y3 (by omega)⟩)
  (w:=(w.alloc (.cells #[Pq b] 137)).alloc (.cells #[Iz 0] 3)) ⟨hM,hB,by rw[j8j _ _ _ (by omega)];exact hC,hO⟩)
 have c0:=hB.cell;have c1:=hC.cell;have c2:=hC.frozen;rw[hx,hy];clear h hM hB hO hb5 hC;by_cases h0:0<=a
 ·obtain rfl:a=x:=by omega
  by_cases h1:t<=n
  ·obtain rfl:y=t:=by omega
   clear hy hx ha hx2;go_enter Tryz.func208,Tryz.ntmps208
   go_wp2_with (first
    | (go_at_call 150;refine Q4 HL.out ?_)
    | (go_at_call 216;refine HP.out.mono ?_;rintro e w2 ⟨rfl,s,z1,z2,z3,z4,z5,z6,z7⟩;have z8:=z6.cell;clear c0 c1 c2))
   go_ret;exact⟨G4 (by first | rfl | (congr 2;omega)),by assumption⟩
  ·obtain rfl:y=n:=by omega
   have h2:(n:Int)<t:=by omega
   clear hy hx ha hx2 h1;go_enter Tryz.func208,Tryz.ntmps208
   go_wp2_with (first
    | (go_at_call 150;refine Q4 HL.out ?_)
    | (go_at_call 216;refine HP.out.mono ?_;rintro e w2 ⟨rfl,s,z1,z2,z3,z4,z5,z6,z7⟩;have z8:=z6.cell;clear c0 c1 c2))
   go_ret;exact⟨G4 (by first | rfl | (congr 2;omega)),by assumption⟩
 ·obtain rfl:x=0:=by omega
  have h3:a<0:=by omega
  rw[show ((0:Nat):Int)=0 from rfl] at HP;by_cases h1:t<=n
  ·obtain rfl:y=t:=by omega
   clear hy hx ha hx2 h0;go_enter Tryz.func208,Tryz.ntmps208
   go_wp2_with (first
    | (go_at_call 150;refine Q4 HL.out ?_)
    | (go_at_call 216;refine HP.out.mono ?_;rintro e w2 ⟨rfl,s,z1,z2,z3,z4,z5,z6,z7⟩;have z8:=z6.cell;clear c0 c1 c2))
   go_ret;exact⟨G4 (by first | rfl | (congr 2;omega)),by assumption⟩
  ·obtain rfl:y=n:=by omega
   have h2:(n:Int)<t:=by omega
   clear hy hx ha hx2 h1 h0;go_enter Tryz.func208,Tryz.ntmps208
   go_wp2_with (first
    | (go_at_call 150;refine Q4 HL.out ?_)
    | (go_at_call 216;refine HP.out.mono ?_;rintro e w2 ⟨rfl,s,z1,z2,z3,z4,z5,z6,z7⟩;have z8:=z6.cell;clear c0 c1 c2))
   go_ret;exact⟨G4 (by first | rfl | (congr 2;omega)),by assumption⟩
theorem Row.fillAll {b k:Nat} {T:TypeId} (v:Value) (m:Nat):∀ (o:Nat) (w:World) (f:Nat->Value),Row w b T k f->Row (w.setCells b o (List.replicate m v)) b T k (fun i=>if o<=i/\i<o+m then v else f i):=by
 induction m with
 | zero=>intro o w f h;exact h.congr fun i hi=>by rw[if_neg (by omega)]
 | succ m ih=>
  intro o w f h
  show Row ((w.setCell ⟨b,o,none⟩ v).setCells b (o+1) (List.replicate m v)) b T k _
  refine(ih (o+1) _ _ (h.set o v)).congr fun i hi=>?_
  by_cases h1:i=o
  ·subst h1;simp
  ·by_cases h2:o+1<=i/\i<o+1+m
   ·rw[if_pos h2,if_pos (by omega)]
   ·have h3:¬ (o<=i/\i<o+(m+1)):=by omega
    simp only[if_neg h2,if_neg h3,if_neg h1]
theorem Out.setAll {b lo hi:Nat} (hb:lo<=b/\b<hi) (v:Value) (m:Nat):∀ (o:Nat) (a w:World),Out lo hi a w->Out lo hi a (w.setCells b o (List.replicate m v)):=by
 induction m with
 | zero=>intro o a w h;exact h
 | succ m ih=>intro o a w h;exact ih (o+1) a _ (h.setCell (.inl hb) v)
theorem q6y {b c:Nat} (h:c ≠ b) (v:Value) (m:Nat):∀ (o:Nat) (w:World),(w.setCells b o (List.replicate m v)).heap[c]? = w.heap[c]? :=by
 induction m with
 | zero=>intro o w;rfl
 | succ m ih=>intro o w;exact(ih (o+1) _).trans (Below.heap_setCell _ _ _ _ h)
theorem x1k (w:World):(zeroValue 195).run Tryz.prog w=.ok (.int .u64 0) w:=by kernel_rfl
theorem j6n {w:World} {lo hi b n:Nat} {S:Nat->Bool} (h:MapAt w lo hi b n S) :
  Kz 188 #[Pq b] w fun e w'=>e=.returned (.tuple #[])/\MapAt w' lo hi b n (fun _=>false)/\Out lo hi w w':=by
 obtain⟨bw,cap,hb,h1,h2,h3,h4,h5,h6,h7,h8,l1,l2,l3,hr⟩:=h;have c1:cq w b 1=some (Sz bw (nw n) cap):=by simp[World.cell?,hb]
 have hO:Out lo hi w (w.setCells bw 0 (List.replicate (nw n) (.int .u64 0))):=Out.setAll ⟨l1,l2⟩ _ _ _ _ _ (Out.refl _ _ _);have HF:Hid (MapAt (w.setCells bw 0 (List.replicate (nw n) (.int .u64 0))) lo hi b n (fun _=>false)):=by
  refine⟨bw,cap,by rw[q6y (Ne.symm l3)];exact hb,h1,h2,Nat.le_trans h3 hO.size,h4,h5,h6,fun _ _=>rfl,h8.kept hO (.inl h4),l1,l2,l3,(Row.fillAll _ _ _ _ _ hr).congr fun i hi=>?_⟩;rw[if_pos (by omega),z9d];rfl
 have HO:=Q3 hO;by_cases hn:0<nw n
 ·have kT:∀ ty,(Builtin.clear_ #[209] ty #[Sz bw (nw n) cap]).run Tryz.prog w=.ok (.tuple #[]) (w.setCells bw 0 (List.replicate (nw n) (.int .u64 0))):=
   fun ty=>Lib.run_clear_slice w 209 195 ty (.int .u64 0) Tryz.underlying209 x1k rfl rfl bw 0 (nw n) cap hn (fun j hj=>by rw[Nat.zero_add,hr.cell hj];rfl) (fun j hj=>hr.frozen _)
  clear hb hr h7 h8 hO;go_enter Tryz.func188,Tryz.ntmps188
  go_wp2_with (simp only[kT]);exact bodyPost_end (results_none Tryz.results188 _ _ _) rfl ⟨rfl,HF.out,HO.out⟩
 ·have h0:nw n=0:=by omega
  rw[h0] at HF HO c1;have kT:∀ ty,(Builtin.clear_ #[209] ty #[Sz bw 0 cap]).run Tryz.prog w=.ok (.tuple #[]) w:=fun ty=>by
   simp[Builtin.clear_,run_underlying Tryz.underlying209]
  clear hb hr h7 h8 hO;go_enter Tryz.func188,Tryz.ntmps188
  go_wp2_with (simp only[kT]);exact bodyPost_end (results_none Tryz.results188 _ _ _) rfl ⟨rfl,HF.out,HO.out⟩
theorem q1j (b:Nat) (w:World) :
  Kz 185 #[Pq b] w fun e w'=>e=.returned (.func (.func 205) #[] #[Pq w.heap.size])/\w'=w.alloc (.cells #[Pq b] 137):=by
 go_enter Tryz.func185,Tryz.ntmps185
 go_wp2;go_ret;exact⟨rfl,rfl⟩
end Go.Proofs.YtjgnogflgoihfaaGreatDoor
namespace Go.Proofs.YtjgnogflgoihfaaGreatDoor
open Go.ChangeShapes Go.WideShapes Go.ChangeAt Go.RowKit
theorem j4v (a k n:Int) (w:World):Kz 203 #[Iz a,Iz k,Iz n] w fun e w'=>e=.returned (.bool (z9y a k n))/\w'=w:=by
 go_enter Tryz.func203,Tryz.ntmps203
 go_wp2
 all_goals go_ret
 all_goals refine⟨U9 ?_,rfl⟩
 all_goals (unfold z9y;rw[Bool.eq_iff_iff];simp;try omega)
theorem x0z (a k n:Int) (w:World) (h:z1n a k n):Kz 204 #[Iz a,Iz k,Iz n] w fun e w'=>e=.returned (Iz (z2e (xV a k n)))/\w'=w:=by
 have H:=Q3 (x5b h);clear h;generalize z2e (xV a k n)=s at *
 go_enter Tryz.func204,Tryz.ntmps204
 go_wp2;go_ret;exact⟨G4 H.out,rfl⟩
theorem q3w (a k n:Int) (w:World):Kz 180 #[Iz a,Iz k,Iz n] w fun e w'=>e=.returned (Iz (B6 a k n))/\w'=w:=by
 have G:=Q3 (j4v a k n);by_cases h:z1n a k n
 ·have H:=Q3 (x4d h);have S:=Q3 (fun w=>x0z a k n w h);rw[z8w h] at G;clear h;generalize B6 a k n=r at *
  generalize z2e (xV a k n)=s at *
  go_enter Tryz.func180,Tryz.ntmps180
  go_wp2_with (first
   | (go_at_call 203;refine Q4 (G.out _) ?_)
   | (go_at_call 204;refine Q4 (S.out _) ?_))
  go_ret;exact⟨G4 H.out,rfl⟩
 ·rw[z7y h];rw[z6l h] at G;clear h;go_enter Tryz.func180,Tryz.ntmps180
  go_wp2_with (go_at_call 203;refine Q4 (G.out _) ?_);go_ret;exact⟨rfl,rfl⟩
end Go.Proofs.YtjgnogflgoihfaaGreatDoor
namespace Go.Proofs.YtjgnogflgoihfaaGreatDoor
open Go.RowKit
structure Raw where
 W:Nat->Int
 S:Nat->Int × Int × Int
 F:Nat->Nat->Bool
 P:Nat->Bool
 M:Int->Option Blk
 R:Int->Option Int
 last:Int
def j0t (a:Int) (b:Blk):Value:=.agg #[.int .i64 a,.int .i64 b.1,.int .i64 b.2.1,.int .i64 b.2.2.1,.int .i64 b.2.2.2]
def ln (i:Nat):Nat:=if i<9 then 2 else 1
def z9o (s:Nat->Nat) (n cap:Nat) (last:Int):Array Value:=
 #[.slice (some ⟨s 11,0,none⟩) (64*n) cap,.pointer (some ⟨s 9,0,none⟩),.map (some (s 12)),.pointer (some ⟨s 8+1,0,none⟩),.pointer (some ⟨s 0+1,0,none⟩),.pointer (some ⟨s 1+1,0,none⟩),.pointer (some ⟨s 2+1,0,none⟩),
  .pointer (some ⟨s 3+1,0,none⟩),.pointer (some ⟨s 4+1,0,none⟩),.pointer (some ⟨s 5+1,0,none⟩),.pointer (some ⟨s 6+1,0,none⟩),.pointer (some ⟨s 7+1,0,none⟩),.map (some (s 13)),.int .i64 last]
def z7f (M:Int->Option Blk) (a:Int):Option Value:=(M a).map (j0t a)
def j7v (R:Int->Option Int) (a:Int):Option Value:=(R a).map (fun x=>.int .i64 x)
structure RawAt (w:World) (lo hi:Nat) (s:Nat->Nat) (n cap:Nat) (r:Raw):Prop where
 glob:4<=lo
 top:hi<=w.heap.size
 inn:∀ i,i<15->lo<=s i/\s i+ln i<=hi
 apart:∀ i j,i<15->j<15->i ≠ j->s i+ln i<=s j\/s j+ln j<=s i
 n1:1<=n
 n2:n<=4096
 capn:64*n<=cap
 tab:Tab w
 self:w.heap[s 14]? = some (.cells (z9o s n cap r.last) 141 (0,0))
 words:Row w (s 11) 3 (64*n) (fun i=>.int .i64 (r.W i))
 tbl:TblAt 197 w (s 9) (s 10) n r.S
 objs:MpAt w (s 12) (z7f r.M)
 sers:MpAt w (s 13) (j7v r.R)
 places:MapAt w (s 8) (s 8+2) (s 8+1) (64*n) r.P
 free:∀ c,c<8->MapAt w (s c) (s c+2) (s c+1) (64*n) (r.F c)
section
variable {w w':World} {lo hi n cap:Nat} {s:Nat->Nat} {r:Raw}
theorem RawAt.kept {x y:Nat} (h:RawAt w lo hi s n cap r) (o:Out x y w w') (hd:hi<=x\/y<=lo) (hg:4<=x\/y=0):RawAt w' lo hi s n cap r:=by
 have ini:=fun i hi=>h.inn i hi
 have h8:=ini 8 (by omega);have h9:=ini 9 (by omega);have h10:=ini 10 (by omega);have h11:=ini 11 (by omega);have h12:=ini 12 (by omega);have h13:=ini 13 (by omega);have h14:=ini 14 (by omega);simp[ln] at h8 h9 h10 h11 h12 h13 h14;refine⟨h.glob,Nat.le_trans h.top o.size,h.inn,h.apart,h.n1,h.n2,h.capn,h.tab.kept o hg,o.heap h.self (by omega),h.words.kept o (by omega),h.tbl.kept o (by omega) (by omega),h.objs.kept o (by omega),h.sers.kept o (by omega),h.places.kept o (by omega) hg,fun c hc=>(h.free c hc).kept o ?_ hg⟩;have:=ini c (by omega);simp[ln,show c<9 from by omega] at this;omega
theorem RawAt.quiet (h:RawAt w lo hi s n cap r) (o:Out 0 0 w w'):RawAt w' lo hi s n cap r:=h.kept o z0 (.inr rfl)
theorem RawAt.wide (h:RawAt w lo hi s n cap r) {i:Nat} (bQ:i<15) (o:Out (s i) (s i+ln i) w w'):Out lo hi w w':=o.wide (h.inn i bQ).1 (h.inn i bQ).2
theorem RawAt.but (h:RawAt w lo hi s n cap r) {i:Nat} (bQ:i<15) (o:Out (s i) (s i+ln i) w w') :
  4<=s i/\hi<=w'.heap.size/\Tab w'/\(i ≠ 14->w'.heap[s 14]? = some (.cells (z9o s n cap r.last) 141 (0,0)))/\(i ≠ 11->Row w' (s 11) 3 (64*n) (fun i=>.int .i64 (r.W i))) ∧
   (i ≠ 9->i ≠ 10->TblAt 197 w' (s 9) (s 10) n r.S)/\(i ≠ 12->MpAt w' (s 12) (z7f r.M))/\(i ≠ 13->MpAt w' (s 13) (j7v r.R)) ∧
   (i ≠ 8->MapAt w' (s 8) (s 8+2) (s 8+1) (64*n) r.P)/\(∀ c,c<8->i ≠ c->MapAt w' (s c) (s c+2) (s c+1) (64*n) (r.F c)):=by
 have hg:4<=s i:=by have:=(h.inn i bQ).1;have:=h.glob;omega
 have ap:=fun j hj fG=>h.apart i j bQ hj fG
 have l1:∀ j,9<=j->ln j=1:=fun j hj=>by unfold ln;rw[if_neg (by omega)]
 have l2:∀ j,j<9->ln j=2:=fun j hj=>by unfold ln;rw[if_pos hj]
 refine⟨hg,Nat.le_trans h.top o.size,h.tab.kept o (.inl hg),fun e=>o.heap h.self ?_,fun e=>h.words.kept o ?_,fun e e'=>h.tbl.kept o ?_ ?_,fun e=>h.objs.kept o ?_,fun e=>h.sers.kept o ?_,fun e=>h.places.kept o ?_ (.inl hg),fun c hc e=>(h.free c hc).kept o ?_ (.inl hg)⟩
 ·have:=ap 14 (by omega) e;rw[l1 14 (by omega)] at this;omega
 ·have:=ap 11 (by omega) e;rw[l1 11 (by omega)] at this;omega
 ·have:=ap 9 (by omega) e;rw[l1 9 (by omega)] at this;omega
 ·have:=ap 10 (by omega) e';rw[l1 10 (by omega)] at this;omega
 ·have:=ap 12 (by omega) e;rw[l1 12 (by omega)] at this;omega
 ·have:=ap 13 (by omega) e;rw[l1 13 (by omega)] at this;omega
 ·have:=ap 8 (by omega) e;rw[l2 8 (by omega)] at this;omega
 ·have:=ap c (by omega) e;rw[l2 c (by omega)] at this;omega
theorem RawAt.setF (h:RawAt w lo hi s n cap r) {c:Nat} (hc:c<8) {S':Nat->Bool} (o:Out (s c) (s c+2) w w') (hm:MapAt w' (s c) (s c+2) (s c+1) (64*n) S') :
  RawAt w' lo hi s n cap { r with F:=fun d=>if d=c then S' else r.F d }:=by
 obtain⟨b0,b1,b2,b3,b4,b5,b6,b7,b8,b9⟩:=h.but (i:=c) (by omega) (by unfold ln;rw[if_pos (show c<9 from by omega)];exact o);refine⟨h.glob,b1,h.inn,h.apart,h.n1,h.n2,h.capn,b2,b3 (by omega),b4 (by omega),b5 (by omega) (by omega),b6 (by omega),b7 (by omega),b8 (by omega),fun d hd=>?_⟩
 show MapAt w' (s d) (s d+2) (s d+1) (64*n) (if d=c then S' else r.F d)
 by_cases e:d=c
 ·rw[if_pos e,e];exact hm
 ·rw[if_neg e];exact b9 d hd (fun e'=>e e'.symm)
theorem RawAt.setP (h:RawAt w lo hi s n cap r) {S':Nat->Bool} (o:Out (s 8) (s 8+2) w w') (hm:MapAt w' (s 8) (s 8+2) (s 8+1) (64*n) S'):RawAt w' lo hi s n cap { r with P:=S' }:=by
 obtain⟨b0,b1,b2,b3,b4,b5,b6,b7,b8,b9⟩:=h.but (i:=8) (by omega) o;exact⟨h.glob,b1,h.inn,h.apart,h.n1,h.n2,h.capn,b2,b3 (by omega),b4 (by omega),b5 (by omega) (by omega),b6 (by omega),b7 (by omega),hm,fun d hd=>b9 d hd (by omega)⟩
theorem RawAt.setT (h:RawAt w lo hi s n cap r) {S':Nat->Int × Int × Int} (o:Out (s 10) (s 10+1) w w') (hm:TblAt 197 w' (s 9) (s 10) n S'):RawAt w' lo hi s n cap { r with S:=S' }:=by
 obtain⟨b0,b1,b2,b3,b4,b5,b6,b7,b8,b9⟩:=h.but (i:=10) (by omega) o;exact⟨h.glob,b1,h.inn,h.apart,h.n1,h.n2,h.capn,b2,b3 (by omega),b4 (by omega),hm,b6 (by omega),b7 (by omega),b8 (by omega),fun d hd=>b9 d hd (by omega)⟩
theorem RawAt.setW (h:RawAt w lo hi s n cap r) {W':Nat->Int} (o:Out (s 11) (s 11+1) w w') (hm:Row w' (s 11) 3 (64*n) (fun i=>.int .i64 (W' i))):RawAt w' lo hi s n cap { r with W:=W' }:=by
 obtain⟨b0,b1,b2,b3,b4,b5,b6,b7,b8,b9⟩:=h.but (i:=11) (by omega) o;exact⟨h.glob,b1,h.inn,h.apart,h.n1,h.n2,h.capn,b2,b3 (by omega),hm,b5 (by omega) (by omega),b6 (by omega),b7 (by omega),b8 (by omega),fun d hd=>b9 d hd (by omega)⟩
theorem RawAt.setM (h:RawAt w lo hi s n cap r) {M':Int->Option Blk} (o:Out (s 12) (s 12+1) w w') (hm:MpAt w' (s 12) (z7f M')):RawAt w' lo hi s n cap { r with M:=M' }:=by
 obtain⟨b0,b1,b2,b3,b4,b5,b6,b7,b8,b9⟩:=h.but (i:=12) (by omega) o;exact⟨h.glob,b1,h.inn,h.apart,h.n1,h.n2,h.capn,b2,b3 (by omega),b4 (by omega),b5 (by omega) (by omega),hm,b7 (by omega),b8 (by omega),fun d hd=>b9 d hd (by omega)⟩
theorem RawAt.setR (h:RawAt w lo hi s n cap r) {R':Int->Option Int} (o:Out (s 13) (s 13+1) w w') (hm:MpAt w' (s 13) (j7v R')):RawAt w' lo hi s n cap { r with R:=R' }:=by
 obtain⟨b0,b1,b2,b3,b4,b5,b6,b7,b8,b9⟩:=h.but (i:=13) (by omega) o;exact⟨h.glob,b1,h.inn,h.apart,h.n1,h.n2,h.capn,b2,b3 (by omega),b4 (by omega),b5 (by omega) (by omega),b6 (by omega),hm,b8 (by omega),fun d hd=>b9 d hd (by omega)⟩
theorem RawAt.setL (h:RawAt w lo hi s n cap r) (v:Int):RawAt (w.setCell ⟨s 14,13,none⟩ (.int .i64 v)) lo hi s n cap { r with last:=v }/\Out (s 14) (s 14+1) w (w.setCell ⟨s 14,13,none⟩ (.int .i64 v)):=by
 have o:Out (s 14) (s 14+1) w (w.setCell ⟨s 14,13,none⟩ (.int .i64 v)):=(Out.refl _ _ _).setCell z1 _;obtain⟨b0,b1,b2,b3,b4,b5,b6,b7,b8,b9⟩:=h.but (i:=14) (by omega) o;refine⟨⟨h.glob,b1,h.inn,h.apart,h.n1,h.n2,h.capn,b2,?_,b4 (by omega),b5 (by omega) (by omega),b6 (by omega),b7 (by omega),b8 (by omega),fun d hd=>b9 d hd (by omega)⟩,o⟩;simp[World.setCell,Array.getElem?_modify,h.self];simp[z9o]
theorem RawAt.cells (h:RawAt w lo hi s n cap r):w.cell? ⟨s 14,0,none⟩=some (.slice (some ⟨s 11,0,none⟩) (64*n) cap)/\w.cell? ⟨s 14,1,none⟩=some (.pointer (some ⟨s 9,0,none⟩))/\w.cell? ⟨s 14,2,none⟩=some (.map (some (s 12))) ∧
  w.cell? ⟨s 14,3,none⟩=some (.pointer (some ⟨s 8+1,0,none⟩))/\w.cell? ⟨s 14,12,none⟩=some (.map (some (s 13)))/\w.cell? ⟨s 14,13,none⟩=some (.int .i64 r.last):=by
 have h':=h.self;refine⟨?_,?_,?_,?_,?_,?_⟩ <;> simp[World.cell?,h',z9o]
theorem RawAt.cellF (h:RawAt w lo hi s n cap r) {c:Nat} (hc:c<8):w.cell? ⟨s 14,4+c,none⟩=some (.pointer (some ⟨s c+1,0,none⟩)):=by
 have h':=h.self;have:c=0\/c=1\/c=2\/c=3\/c=4\/c=5\/c=6\/c=7:=by omega
 rcases this with rfl | rfl | rfl | rfl | rfl | rfl | rfl | rfl <;> simp[World.cell?,h',z9o]
theorem RawAt.cellL (h:RawAt w lo hi s n cap r):w.frozen? ⟨s 14,13,none⟩=false:=by
 have h':=h.self;simp[World.frozen?,h']
theorem RawAt.congr {r':Raw} (h:RawAt w lo hi s n cap r) (e:r=r'):RawAt w lo hi s n cap r':=e ▸ h
theorem Raw.eq {a b:Raw} (h1:a.W=b.W) (h2:a.S=b.S) (h3:a.F=b.F) (h4:a.P=b.P) (h5:a.M=b.M) (h6:a.R=b.R) (h7:a.last=b.last):a=b:=by
 cases a;cases b;simp_all
end
def obM (st:Sp) (a:Int):Option Blk:=if 0<=a/\Y6 (st.O a.toNat)=true then some (st.O a.toNat) else none
def q4z (n:Nat) (st:Sp) (x:Int):Option Nat:=if 1<=x then (List.range (64*n)).find? (fun a=>Y6 (st.O a) && ((st.O a).2.2.1 == x)) else none
def q5b (n:Nat) (st:Sp) (x:Int):Option Int:=(q4z n st x).map (fun a=>(a:Int))
def Q6 (n:Nat) (st:Sp):Raw:=⟨st.W,st.S,fun c=>fr n st (c:Int),ob n st,obM st,q5b n st,st.last⟩
def SpAt (w:World) (lo hi:Nat) (s:Nat->Nat) (n cap:Nat) (st:Sp):Prop:=RawAt w lo hi s n cap (Q6 n st)/\Inv n st
theorem SpAt.kept {w w':World} {lo hi n cap x y:Nat} {s:Nat->Nat} {st:Sp} (h:SpAt w lo hi s n cap st) (o:Out x y w w') (hd:hi<=x\/y<=lo) (hg:4<=x\/y=0):SpAt w' lo hi s n cap st:=⟨h.1.kept o hd hg,h.2⟩
theorem SpAt.quiet {w w':World} {lo hi n cap:Nat} {s:Nat->Nat} {st:Sp} (h:SpAt w lo hi s n cap st) (o:Out 0 0 w w'):SpAt w' lo hi s n cap st:=⟨h.1.quiet o,h.2⟩
theorem j2n (w:World):(zeroValue 81).run Tryz.prog w=.ok (.agg #[.int .i64 0,.int .i64 0,.int .i64 0,.int .i64 0,.int .i64 0]) w:=by kernel_rfl
theorem x1j (w:World):(zeroValue 3).run Tryz.prog w=.ok (.int .i64 0) w:=by kernel_rfl
theorem x3s (a b c d e:Int):(Tryz.prog.info? 81).map (·.size)=some (#[Value.int .i64 a,.int .i64 b,.int .i64 c,.int .i64 d,.int .i64 e]).size:=by
 rw[show (#[Value.int .i64 a,.int .i64 b,.int .i64 c,.int .i64 d,.int .i64 e]).size=5 from rfl];kernel_rfl
theorem x3t (a b:Int):(Tryz.prog.info? 46).map (·.size)=some (#[Value.int .i64 a,.int .i64 b]).size:=by
 rw[show (#[Value.int .i64 a,.int .i64 b]).size=2 from rfl];kernel_rfl
def z7d (e a:Int):Value:=.agg #[.int .i64 e,.int .i64 a]
theorem z6t {fn:Func} {p u:Tmp} {a:Act} {w:World} {g:Nat} {x1 x2 x3 x4 x5:Int} {v:Value} {post:Ending->World->Prop} (hr:fn.results = #[.cell p 81,.tmp u]) (hp:a.tmps.getD p undef=.pointer (some ⟨g,0,none⟩)) (hu:a.tmps.getD u undef=v)
  (hd:a.defers=[]) (hg:w.heap[g]? = some (.cells #[.int .i64 x1,.int .i64 x2,.int .i64 x3,.int .i64 x4,.int .i64 x5] 81 (0,0))) (h:post (.returned (.tuple #[.agg #[.int .i64 x1,.int .i64 x2,.int .i64 x3,.int .i64 x4,.int .i64 x5],v])) w):bodyPost Tryz.prog fn post Exit.ret a w:=by
 refine bodyPost_ret (v:=.tuple #[.agg #[.int .i64 x1,.int .i64 x2,.int .i64 x3,.int .i64 x4,.int .i64 x5],v]) ?_ hd h;rw[results_cell_tmp hr,hp];simp[asAddr,run_loadVar_row w g 81 81 _ (0,0) _ hg Tryz.underlying81 rfl (x3s x1 x2 x3 x4 x5),Result.andThen];simpa using hu
theorem z4m {fn:Func} {p:Tmp} {a:Act} {w:World} {g:Nat} {x1 x2:Int} {post:Ending->World->Prop} (hr:fn.results = #[.cell p 46]) (hp:a.tmps.getD p undef=.pointer (some ⟨g,0,none⟩))
  (hd:a.defers=[]) (hg:w.heap[g]? = some (.cells #[.int .i64 x1,.int .i64 x2] 46 (0,0))) (h:post (.returned (z7d x1 x2)) w):bodyPost Tryz.prog fn post Exit.ret a w:=
 bodyPost_ret (v:=z7d x1 x2) (results_cell_row hr a.tmps _ g 46 _ (0,0) _ hp hg Tryz.underlying46 rfl (x3t x1 x2)) hd h
theorem Out.drewN {lo hi:Nat} {a w:World} (h:Out lo hi a w) (m:Nat):Out lo hi a (w.drewN m):=⟨h.1,h.2.1,h.2.2.1,h.size,h.2.2.2.2⟩
theorem J0 {w:World} {o o2:Obj}:((w.alloc o).alloc o2).heap[w.heap.size]? = some o:=by
 rw[Below.heap_alloc _ _ _ (by simp)];exact heap_alloc_new _ _
theorem z2i (b:Nat) (w:World):Kz 85 #[Pq b] w fun e w'=>e=.returned (Pq b)/\w'=w:=by
 go_enter Tryz.func85,Tryz.ntmps85
 go_wp2;go_ret;exact⟨rfl,rfl⟩
section
variable {w:World} {lo hi n cap:Nat} {s:Nat->Nat} {r:Raw}
theorem z9p (h:RawAt w lo hi s n cap r):Kz 135 #[Pq (s 14)] w fun e w'=>e=.returned (Iz ((64*n:Nat):Int))/\w'=w:=by
 obtain⟨c0,c1,c2,c3,c4,c5⟩:=h.cells;clear h;go_enter Tryz.func135,Tryz.ntmps135
 go_wp2_with (go_at_call 85;refine Q4 (z2i _ _) ?_);go_ret;exact⟨rfl,rfl⟩
theorem q5g (h:RawAt w lo hi s n cap r) (a:Int):Kz 103 #[Pq (s 14),Iz a] w fun e w'=>e=.returned (.bool (inB (64*n) a))/\w'=w:=by
 have HW:=Q3 (z9p h);have h2:=h.n2;generalize 64*n=m at *
 clear h;unfold inB;by_cases h0:0<=a
 ·go_enter Tryz.func103,Tryz.ntmps103
  go_wp2_with (go_at_call 135;refine Q4 HW.out ?_);go_ret;exact⟨U9 (by simp[h0]),rfl⟩
 ·have h0':a<0:=by omega
  go_enter Tryz.func103,Tryz.ntmps103
  go_wp2_with (go_at_call 135;refine Q4 HW.out ?_);go_ret;exact⟨U9 (by simp[h0];try omega),rfl⟩
def z2u (n:Nat) (W:Nat->Int) (a:Int):Int:=if inB (64*n) a then W a.toNat else 0
theorem q9v (h:RawAt w lo hi s n cap r) (a:Int):Kz 54 #[Pq (s 14),Iz a] w fun e w'=>e=.returned (.tuple #[Iz (z2u n r.W a),.bool (inB (64*n) a)])/\w'=w:=by
 have HH:=Q3 (q5g h a);obtain⟨c0,c1,c2,c3,c4,c5⟩:=h.cells;have h2:=h.n2;by_cases bQ:inB (64*n) a=true
 ·obtain⟨k,rfl,hk,jC⟩:=z6n bQ;have hc:=h.words.cell hk;have hv:z2u n r.W (k:Int)=r.W k:=by unfold z2u;rw[if_pos bQ,jC]
  have b1:(0:Int)<=(k:Int):=by omega
  have b2:(k:Int)<((64*n:Nat):Int):=by omega
  have b3:((64*n:Nat):Int)<=262144:=by omega
  rw[bQ] at HH ⊢;rw[hv];generalize r.W k=v at *
  generalize 64*n=m at *
  clear h hv bQ hk jC h2;go_enter Tryz.func54,Tryz.ntmps54
  go_wp2_with (go_at_call 103;refine Q4 HH.out ?_);go_ret2;exact⟨rfl,rfl⟩
 ·have hf:inB (64*n) a=false:=by simpa using bQ
  have hv:z2u n r.W a=0:=by unfold z2u;rw[hf];rfl
  rw[hf] at HH ⊢;rw[hv];clear h hv bQ;go_enter Tryz.func54,Tryz.ntmps54
  go_wp2_with (go_at_call 103;refine Q4 HH.out ?_);go_ret2;exact⟨rfl,rfl⟩
theorem Row.upd {w:World} {b k:Nat} {T:TypeId} {W:Nat->Int} (h:Row w b T k (fun i=>.int .i64 (W i))) (a:Nat) (v:Int):Row (w.setCell ⟨b,a,none⟩ (.int .i64 v)) b T k (fun i=>.int .i64 (z2p W a v i)):=
 (h.set a (.int .i64 v)).congr fun i _=>by unfold z2p;split <;> rfl
theorem RawAt.poke (h:RawAt w lo hi s n cap r) (a:Nat) (v:Int):RawAt (w.setCell ⟨s 11,a,none⟩ (.int .i64 v)) lo hi s n cap { r with W:=z2p r.W a v }/\Out (s 11) (s 11+1) w (w.setCell ⟨s 11,a,none⟩ (.int .i64 v)):=by
 have o:Out (s 11) (s 11+1) w (w.setCell ⟨s 11,a,none⟩ (.int .i64 v)):=(Out.refl _ _ _).setCell z1 _;exact⟨h.setW o (h.words.upd a v),o⟩
def F3 (n:Nat) (W:Nat->Int) (a v:Int):Nat->Int:=if inB (64*n) a then z2p W a.toNat v else W
theorem q2j (h:RawAt w lo hi s n cap r) (a v:Int):Kz 44 #[Pq (s 14),Iz a,Iz v] w fun e w'=>e=.returned (.bool (inB (64*n) a))/\RawAt w' lo hi s n cap { r with W:=F3 n r.W a v }/\Out lo hi w w':=by
 have HH:=Q3 (q5g h a);obtain⟨c0,c1,c2,c3,c4,c5⟩:=h.cells;have h2:=h.n2;by_cases bQ:inB (64*n) a=true
 ·obtain⟨k,rfl,hk,jC⟩:=z6n bQ;have hc:=h.words.cell hk;have hfz:=h.words.frozen k;have hv:F3 n r.W (k:Int) v=z2p r.W k v:=by unfold F3;rw[if_pos bQ,jC]
  have b1:(0:Int)<=(k:Int):=by omega
  have b2:(k:Int)<((64*n:Nat):Int):=by omega
  have b3:((64*n:Nat):Int)<=262144:=by omega
  have HP:=Q3 (h.poke k v);have HW:=Q3 (h.wide (i:=11) (by omega) HP.out.2);rw[bQ] at HH ⊢;rw[hv];generalize r.W k=u at *
  generalize hm:64*n=m at *
  clear h hv bQ hk jC h2 hm;go_enter Tryz.func44,Tryz.ntmps44
  go_wp2_with (go_at_call 103;refine Q4 HH.out ?_);go_ret;exact⟨rfl,HP.out.1,HW.out⟩
 ·have hf:inB (64*n) a=false:=by simpa using bQ
  have hv:F3 n r.W a v=r.W:=by unfold F3;rw[hf];rfl
  have HP:=Q3 h;rw[hf] at HH ⊢;rw[hv];clear h hv bQ;go_enter Tryz.func44,Tryz.ntmps44
  go_wp2_with (go_at_call 103;refine Q4 HH.out ?_);go_ret;exact⟨rfl,HP.out,Out.refl _ _ _⟩
theorem RawAt.look (h:RawAt w lo hi s n cap r) (c:Bool) (a:Int):(Instr.lookup 136 (.map (some (s 12))) (.int .i64 a) c).run Tryz.prog w =
  .ok (if c then .tuple #[(z7f r.M a).getD (.agg #[.int .i64 0,.int .i64 0,.int .i64 0,.int .i64 0,.int .i64 0]),.bool (z7f r.M a).isSome] else (z7f r.M a).getD (.agg #[.int .i64 0,.int .i64 0,.int .i64 0,.int .i64 0,.int .i64 0])) w:=
 x4f c Tryz.underlying136 Tryz.underlying3 (j2n w) h.objs a
theorem z0z (h:RawAt w lo hi s n cap r) {a k z x t:Int} (hm:r.M a=some (k,z,x,t)):Kz 100 #[Pq (s 14),Iz a] w fun e w'=>e=.returned (.tuple #[Wz a k z x t,.bool true])/\Out 0 0 w w':=by
 have h':=h.quiet ((Out.refl 0 0 w).alloc (Ez 0 0 0 0 0 81));obtain⟨c0,c1,c2,c3,c4,c5⟩:=h'.cells;have hl:=h'.look true a;have e1:z7f r.M a=some (Wz a k z x t):=by unfold z7f;rw[hm];rfl
 rw[e1] at hl;simp only[Option.getD_some,Option.isSome_some,if_true] at hl;clear h h' e1 hm;go_enter Tryz.func100,Tryz.ntmps100
 go_wp2_with (go_at_call 85;refine Q4 (z2i _ _) ?_);refine z6t (g:=w.heap.size) Tryz.results100 rfl rfl rfl J0 ⟨rfl,((Out.refl _ _ _).alloc _).alloc _⟩
theorem z6g (h:RawAt w lo hi s n cap r) {a:Int} (hm:r.M a=none):Kz 100 #[Pq (s 14),Iz a] w fun e w'=>e=.returned (.tuple #[Wz 0 0 0 0 0,.bool false])/\Out 0 0 w w':=by
 have h':=h.quiet ((Out.refl 0 0 w).alloc (Ez 0 0 0 0 0 81));obtain⟨c0,c1,c2,c3,c4,c5⟩:=h'.cells;have hl:=h'.look true a;have e1:z7f r.M a=none:=by unfold z7f;rw[hm];rfl
 rw[e1] at hl;simp only[Option.getD_none,Option.isSome_none,if_true] at hl;clear h h' e1 hm;go_enter Tryz.func100,Tryz.ntmps100
 go_wp2_with (go_at_call 85;refine Q4 (z2i _ _) ?_);refine z6t (g:=w.heap.size) Tryz.results100 rfl rfl rfl J0 ⟨rfl,((Out.refl _ _ _).alloc _).alloc _⟩
theorem j1n (h:RawAt w lo hi s n cap r) {a:Nat} (ha:a<64*n) (k z x t:Int):Kz 157 #[Pq (s 14),Wz (a:Int) k z x t] w fun e w'=>e=.returned (.bool (r.W a == B6 a k z))/\Out 0 0 w w':=by
 have h':=h.quiet ((Out.refl 0 0 w).alloc (Ez (a:Int) k z x t 81));obtain⟨c0,c1,c2,c3,c4,c5⟩:=h'.cells;have h2:=h.n2;have hc:=h'.words.cell ha;have b1:(0:Int)<=(a:Int):=by omega
 have b2:(a:Int)<((64*n:Nat):Int):=by omega
 have b3:((64*n:Nat):Int)<=262144:=by omega
 have HM:=Q3 (fun w=>q3w (a:Int) k z w);generalize B6 (a:Int) k z=mv at *
 generalize r.W a=u at *
 generalize 64*n=m at *
 clear h h' ha h2;go_enter Tryz.func157,Tryz.ntmps157
 go_wp2_with fail;go_quiet (first | (go_at_call 180;exact Calls.quiet_of_same (HM.out _)))
 go_wp2;go_ret;exact⟨rfl,((Out.refl 0 0 w).alloc _).drewN _⟩
end
def z0o (e a:Int):PanicEntry:={ v:=.iface 162 (.agg #[.int .i64 e,.int .i64 a]),recovered:=false }
theorem z0k (e:Int) (w:World):Kz 41 #[.bool true,Iz e] w fun x w'=>x=.returned (.tuple #[])/\w'=w:=by
 go_enter Tryz.func41,Tryz.ntmps41
 go_wp2;exact bodyPost_end (results_none Tryz.results41 _ _ _) rfl ⟨rfl,rfl⟩
theorem z2o (e:Int) (w:World):Kz 41 #[.bool false,Iz e] w fun x w'=>x=.panicked [z0o e 0]/\w'=w:=by
 go_enter Tryz.func41,Tryz.ntmps41
 go_wp2;exact⟨rfl,rfl,rfl⟩
theorem q6w (a:Int) (w:World):Kz 55 #[Vz 0 a] w fun x w'=>x=.returned (.tuple #[])/\Out 0 0 w w':=by
 go_enter Tryz.func55,Tryz.ntmps55
 go_wp2;exact bodyPost_end (results_none Tryz.results55 _ _ _) rfl ⟨rfl,(Out.refl 0 0 w).alloc _⟩
theorem q1t {e:Int} (he:e ≠ 0) (a:Int) (w:World):Kz 55 #[Vz e a] w fun x w'=>x=.panicked [z0o e a]/\Out 0 0 w w':=by
 have h1:(e != 0)=true:=by simpa using he
 go_enter Tryz.func55,Tryz.ntmps55
 go_wp2;exact⟨rfl,rfl,(Out.refl 0 0 w).alloc _⟩
theorem z1u (w:World):Kz 39 #[.nilIface] w fun x w'=>x=.returned (Vz 0 0)/\Out 0 0 w w':=by
 go_enter Tryz.func39,Tryz.ntmps39
 go_wp2;exact z4m Tryz.results39 rfl rfl (heap_alloc_new _ _) ⟨rfl,(Out.refl 0 0 w).alloc _⟩
theorem z1a (e a:Int) (w:World):Kz 39 #[.iface 162 (Vz e a)] w fun x w'=>x=.returned (Vz e a)/\Out 0 0 w w':=by
 have h1:∀ W,(binOp .eql 20 (.iface 162 (Vz e a)) .nilIface).run Tryz.prog W=.ok (.bool false) W:=fun W=>by kernel_rfl
 have h2:∀ W,(Instr.typeAssert (.iface 162 (Vz e a)) 20 162 true).run Tryz.prog W=.ok (.tuple #[Vz e a,.bool true]) W:=fun W=>by kernel_rfl
 go_enter Tryz.func39,Tryz.ntmps39
 go_wp2;exact z4m Tryz.results39 rfl rfl J0 ⟨rfl,((Out.refl 0 0 w).alloc _).alloc _⟩
theorem q4u {a b:Value} (h:a=b):Ending.returned a=.returned b:=by rw[h]
def z4a (v:Int):Bool:=decide (-1152921504606846976<=v/\v<=1152921504606846975)
def z2c (n:Int):Bool:=decide (0<=n/\n<=1114111/\(n<55296\/57343<n))
def Q8 (k n:Int):Bool:=decide ((k=1/\-1152921504606846976<=n/\n<=1152921504606846975)\/(k=2/\0<=n/\n<=1152921504606846975)\/(k=3/\0<=n/\n<=5)\/(k=4/\0<=n/\n<=1114111/\(n<55296\/57343<n)))
def z4o (k n:Int):Value:=.agg #[.int .i64 k,.int .i64 n]
theorem z5k (v:Int) (w:World) :
  Kz 158 #[Iz v] w fun e w'=>e=.returned (.bool (z4a v))/\w'=w:=by
 go_enter Tryz.func158,Tryz.ntmps158
 go_wp2
 all_goals go_ret
 all_goals refine⟨U9 ?_,rfl⟩
 all_goals (unfold z4a;rw[Bool.eq_iff_iff];simp;try omega)
theorem z9r (v:Int) (w:World) :
  Kz 194 #[.int .i32 v] w fun e w'=>e=.returned (.bool (z2c v))/\w'=w:=by
 have c:(0<=v/\v<55296)\/(v<0)\/(55296<=v/\v<=57343)\/(57343<v/\v<=1114111)\/(1114111<v):=by omega
 rcases c with ⟨c1,c2⟩ | c1 | ⟨c1,c2⟩ | ⟨c1,c2⟩ | c1
 all_goals
  go_enter Tryz.func194,Tryz.ntmps194
  go_wp2;go_ret;refine⟨U9 ?_,rfl⟩;unfold z2c;first | (symm;rw[decide_eq_true_eq];omega) | (symm;rw[decide_eq_false_iff_not];omega)
theorem q5z (b:Int):bits .and .i64 b 7=b % 8:=by
 have h:(BitVec.ofInt 64 b &&& BitVec.ofInt 64 7).toNat=(b % 18446744073709551616).toNat % 8:=by
  have e7:(BitVec.ofInt 64 7).toNat=2 ^ 3-1:=by decide
  rw[BitVec.toNat_and,e7,Nat.and_two_pow_sub_one_eq_mod,z1i]
 have e:bits .and .i64 b 7=IntKind.wrap .i64 ((BitVec.ofInt 64 b &&& BitVec.ofInt 64 7).toNat:Nat):=rfl;rw[e,h];simp[IntKind.wrap,IntKind.signed,IntKind.bits];omega
theorem z5w {a b c d:Int} (h1:a=c) (h2:b=d):Ending.returned (.tuple #[.int .i64 a,.int .i64 b])=.returned (.tuple #[.int .i64 c,.int .i64 d]):=by rw[h1,h2]
theorem q8k (v:Int) (w:World) :
  Kz 111 #[Iz v] w fun e w'=>e=.returned (.tuple #[Iz (v / 8),Iz (v % 8)])/\w'=w:=by
 have H:=Q3 (q5z v);go_enter Tryz.func111,Tryz.ntmps111
 go_wp2;go_ret2;exact⟨z5w rfl (by first | rfl | exact H.out),rfl⟩
theorem z9z (n:Int) (w:World) :
  Kz 159 #[Iz n] w fun e w'=>e=.returned (.bool (z2c n))/\w'=w:=by
 go_enter Tryz.func159,Tryz.ntmps159
 go_wp2_with (go_at_call 194;refine Q4 (z9r _ _) ?_)
 all_goals go_ret
 all_goals refine⟨U9 ?_,rfl⟩
 ·rename_i h
  have e:wrap32 n=n:=by unfold wrap32 wrap64 at *;omega
  rw[e]
 ·rename_i h
  unfold z2c;symm;rw[decide_eq_false_iff_not]
  unfold wrap32 wrap64 at *;omega
theorem z3o {W:World} {g:Nat} {x y:Int} (h:W.heap[g]? = some (.cells #[.int .i64 x,.int .i64 y] 32 (0,0))) :
  W.cell? ⟨g,0,none⟩=some (.int .i64 x)/\W.cell? ⟨g,1,none⟩=some (.int .i64 y):=by
 simp[World.cell?,h]
theorem j5d (k:Int):k=1\/k=2\/k=3\/k=4\/((k == 1)=false/\(k == 2)=false/\(k == 3)=false/\(k == 4)=false):=by
 simp;omega
theorem j0j (n:Int):Q8 1 n=z4a n:=by unfold Q8 z4a;simp
theorem j0k (n:Int):Q8 2 n=(decide (0<=n) && z4a n):=by unfold Q8 z4a;rw[Bool.eq_iff_iff];simp;omega
theorem j0l (n:Int):Q8 3 n=decide (0<=n/\n<=5):=by unfold Q8;simp
theorem j0m (n:Int):Q8 4 n=z2c n:=by unfold Q8 z2c;simp
theorem j0n (k n:Int) (h:(k == 1)=false/\(k == 2)=false/\(k == 3)=false/\(k == 4)=false):Q8 k n=false:=by
 unfold Q8;simp at h ⊢;omega
theorem z1d (k n:Int) (w:World) :
  Kz 108 #[z4o k n] w fun e w'=>e=.returned (.bool (Q8 k n))/\Below w.heap.size w w':=by
 unfold z4o;have h0:Below w.heap.size w (w.alloc (Dz k n 32)):=(Below.refl _ _).alloc (Nat.le_refl _) _;have hA:=heap_alloc_new w (Dz k n 32);obtain⟨x0,x1⟩:=z3o hA;clear hA;rcases j5d k with rfl | rfl | rfl | rfl | hk
 ·rw[j0j];go_enter Tryz.func108,Tryz.ntmps108
  go_wp2_with (go_at_call 158;refine Q4 (z5k _ _) ?_);go_ret;exact⟨rfl,h0⟩
 ·rw[j0k];by_cases hn:0<=n
  ·simp only[hn,decide_true,Bool.true_and];go_enter Tryz.func108,Tryz.ntmps108
   go_wp2_with (go_at_call 158;refine Q4 (z5k _ _) ?_);go_ret;exact⟨rfl,h0⟩
  ·have hn':n<0:=by omega
   simp only[hn,decide_false,Bool.false_and];clear hn;go_enter Tryz.func108,Tryz.ntmps108
   go_wp2_with fail;go_ret;exact⟨rfl,h0⟩
 ·rw[j0l];go_enter Tryz.func108,Tryz.ntmps108
  go_wp2_with fail
  all_goals go_ret
  all_goals refine⟨U9 ?_,h0⟩
  all_goals (rw[Bool.eq_iff_iff];simp;try omega)
 ·rw[j0m];go_enter Tryz.func108,Tryz.ntmps108
  go_wp2_with (go_at_call 159;refine Q4 (z9z _ _) ?_);go_ret;exact⟨rfl,h0⟩
 ·rw[j0n k n hk];obtain⟨k1,k2,k3,k4⟩:=hk;go_enter Tryz.func108,Tryz.ntmps108
  go_wp2_with fail;go_ret;exact⟨rfl,h0⟩
def VC_v (W:World) (g:Nat) (k n:Int):Prop:=W.heap[g]? = some (.cells #[.int .i64 k,.int .i64 n] 32 (0,0))
theorem VC_v.kept {W W':World} {g:Nat} {k n:Int} (h:VC_v W g k n) (hb:Below W.heap.size W W'):VC_v W' g k n:=by
 unfold VC_v at *;rw[<-h];exact hb.block g (Array.getElem?_eq_some_iff.1 h).1
theorem VC_v.facts {W:World} {g:Nat} {k n:Int} (h:VC_v W g k n) :
  W.cell? ⟨g,0,none⟩=some (.int .i64 k)/\W.cell? ⟨g,1,none⟩=some (.int .i64 n)/\W.frozen? ⟨g,0,none⟩=false/\W.frozen? ⟨g,1,none⟩=false:=by
 unfold VC_v at h;refine⟨(z3o h).1,(z3o h).2,?_,?_⟩ <;> simp[World.frozen?,h]
theorem VC_v.set {W:World} {g:Nat} {k n:Int} (h:VC_v W g k n) (x y:Int):VC_v ((W.setCell ⟨g,0,none⟩ (.int .i64 x)).setCell ⟨g,1,none⟩ (.int .i64 y)) g x y:=by
 unfold VC_v at *;simp only[World.setCell,Array.getElem?_modify,if_true,h];rfl
theorem VC_v.new (W:World) (k n:Int):VC_v (W.alloc (.cells #[.int .i64 k,.int .i64 n] 32)) W.heap.size k n:=heap_alloc_new _ _
theorem VC_v.lt {W:World} {g:Nat} {k n:Int} (h:VC_v W g k n):g<W.heap.size:=(Array.getElem?_eq_some_iff.1 h).1
theorem VC_v.alloc {W:World} {g:Nat} {k n:Int} (h:VC_v W g k n) (o:Obj):VC_v (W.alloc o) g k n:=by
 unfold VC_v;rw[heap_alloc_old _ _ h.lt];exact h
theorem j4z:(Tryz.prog.info? 32).map (·.size)=some 2:=by kernel_rfl
theorem z8d {fn:Func} {p:Tmp} {a:Act} {w:World} {g:Nat} {k n:Int} {post:Ending->World->Prop} (hr:fn.results = #[.cell p 32]) (hp:a.tmps.getD p undef=.pointer (some ⟨g,0,none⟩))
  (hd:a.defers=[]) (hg:VC_v w g k n) (h:post (.returned (z4o k n)) w):bodyPost Tryz.prog fn post Exit.ret a w:=
 bodyPost_ret (v:=z4o k n) (results_cell_row hr a.tmps _ g 32 _ (0,0) _ hp hg Tryz.underlying32 rfl j4z) hd h
theorem z5v {fn:Func} {p u:Tmp} {a:Act} {w:World} {g:Nat} {k n:Int} {v:Value} {post:Ending->World->Prop} (hr:fn.results = #[.cell p 32,.tmp u]) (hp:a.tmps.getD p undef=.pointer (some ⟨g,0,none⟩)) (hu:a.tmps.getD u undef=v)
  (hd:a.defers=[]) (hg:VC_v w g k n) (h:post (.returned (.tuple #[z4o k n,v])) w):bodyPost Tryz.prog fn post Exit.ret a w:=by
 refine bodyPost_ret (v:=.tuple #[z4o k n,v]) ?_ hd h;rw[results_cell_tmp hr,hp];simp[asAddr,run_loadVar_row w g 32 32 _ (0,0) _ hg Tryz.underlying32 rfl j4z,Result.andThen,z4o];simpa using hu
def z0t (k n:Int):Int:=if Q8 k n=true then k else 0
def z0u (k n:Int):Int:=if Q8 k n=true then n else 0
theorem q2a {k n:Int} (h:Q8 k n=true):z4o k n=.agg #[.int .i64 (z0t k n),.int .i64 (z0u k n)]:=by unfold z0t z0u z4o;rw[if_pos h,if_pos h]
theorem q7i {k n:Int} (h:Q8 k n=false):z4o 0 0=.agg #[.int .i64 (z0t k n),.int .i64 (z0u k n)]:=by
 unfold z0t z0u z4o;rw[h];rfl
theorem q0r (k n:Int) (w:World) :
  Kz 106 #[Iz k,Iz n] w fun e w'=>e=.returned (Vz (z0t k n) (z0u k n))/\Below w.heap.size w w':=by
 have b1:Below w.heap.size w (w.alloc (Dz 0 0 32)):=(Below.refl _ _).alloc (Nat.le_refl _) _;have b2:=b1.alloc b1.size (Dz k n 32);have HB:=Q3 b2;have V0:=Q3 ((VC_v.new w 0 0).alloc (Dz k n 32));have V1:Hid (VC_v ((w.alloc (Dz 0 0 32)).alloc (Dz k n 32)) (w.heap.size+1) k n):=heap_alloc2_new _ _ _;clear b1 b2;by_cases hv:Q8 k n=true
 ·go_enter Tryz.func106,Tryz.ntmps106
  go_wp2_with fail;refine(z1d k n _).mono ?_;rintro e w1 ⟨rfl,hg⟩;rw[hv];have g0:=Q3 (V0.out.kept hg);have g1:=V1.out.kept hg;have hb:=HB.out.trans (hg.mono HB.out.size);clear hg HB V0 V1;obtain⟨x0,x1,x2,x3⟩:=g0.out.facts;obtain⟨x4,x5,x6,x7⟩:=g1.facts;go_wp2_with fail;refine z8d Tryz.results106 rfl rfl (g0.out.set k n) ⟨?_,?_⟩
  ·exact q4u (q2a hv)
  ·exact(hb.setCell (Nat.le_refl _) _).setCell (Nat.le_refl _) _
 ·have nG:=Bool.eq_false_iff.mpr hv;clear hv;go_enter Tryz.func106,Tryz.ntmps106
  go_wp2_with fail;refine(z1d k n _).mono ?_;rintro e w1 ⟨rfl,hg⟩;rw[nG];have g0:=Q3 (V0.out.kept hg);have g1:=V1.out.kept hg;have hb:=HB.out.trans (hg.mono HB.out.size);clear hg HB V0 V1;obtain⟨x0,x1,x2,x3⟩:=g0.out.facts;obtain⟨x4,x5,x6,x7⟩:=g1.facts;go_wp2_with fail;refine z8d Tryz.results106 rfl rfl (g0.out.set 0 0) ⟨?_,?_⟩
  ·exact q4u (q7i nG)
  ·exact(hb.setCell (Nat.le_refl _) _).setCell (Nat.le_refl _) _
theorem j2a (n:Int) (w:World):Kz 47 #[Iz n] w fun e w'=>e=.returned (Vz (z0t 2 n) (z0u 2 n))/\Below w.heap.size w w':=by
 have b1:Below w.heap.size w (w.alloc (Dz 0 0 32)):=(Below.refl _ _).alloc (Nat.le_refl _) _;have V0:=Q3 (VC_v.new w 0 0);go_enter Tryz.func47,Tryz.ntmps47
 go_wp2_with fail;refine(q0r _ _ _).mono ?_;rintro e w1 ⟨rfl,hg⟩;have g0:=Q3 (V0.out.kept hg);have hb:=b1.trans (hg.mono b1.size);clear hg b1 V0;obtain⟨x0,x1,x2,x3⟩:=g0.out.facts;go_wp2_with fail;exact z8d Tryz.results47 rfl rfl (g0.out.set _ _) ⟨rfl,(hb.setCell (Nat.le_refl _) _).setCell (Nat.le_refl _) _⟩
theorem q3x (n:Int) (w:World):Kz 105 #[Iz n] w fun e w'=>e=.returned (Vz (z0t 3 n) (z0u 3 n))/\Below w.heap.size w w':=by
 have b1:Below w.heap.size w (w.alloc (Dz 0 0 32)):=(Below.refl _ _).alloc (Nat.le_refl _) _;have V0:=Q3 (VC_v.new w 0 0);go_enter Tryz.func105,Tryz.ntmps105
 go_wp2_with fail;refine(q0r _ _ _).mono ?_;rintro e w1 ⟨rfl,hg⟩;have g0:=Q3 (V0.out.kept hg);have hb:=b1.trans (hg.mono b1.size);clear hg b1 V0;obtain⟨x0,x1,x2,x3⟩:=g0.out.facts;go_wp2_with fail;exact z8d Tryz.results105 rfl rfl (g0.out.set _ _) ⟨rfl,(hb.setCell (Nat.le_refl _) _).setCell (Nat.le_refl _) _⟩
def z0g (k n:Int):Int:=if Q8 k n=true then n*8+(k-1) else 0
theorem z3p {k n:Int} (h:Q8 k n=true):1<=k/\k<=4/\-1152921504606846976<=n/\n<=1152921504606846975:=by
 unfold Q8 at h;rw[decide_eq_true_eq] at h;omega
theorem q1b (k n:Int) (w:World) :
  Kz 51 #[z4o k n] w fun e w'=>e=.returned (.tuple #[Iz (z0g k n),.bool (Q8 k n)])/\Below w.heap.size w w':=by
 unfold z4o;have b1:Below w.heap.size w (w.alloc (Dz k n 32)):=(Below.refl _ _).alloc (Nat.le_refl _) _;have V0:=VC_v.new w k n;obtain⟨x0,x1,x2,x3⟩:=V0.facts;have HV:=Q3 V0;clear V0;by_cases hv:Q8 k n=true
 ·have hw:z0g k n=n*8+(k-1):=by unfold z0g;rw[if_pos hv]
  obtain⟨r1,r2,r3,r4⟩:=z3p hv;have hj:=fun w=>q9m n (k-1) w r3 r4 (by omega) (by omega)
  rw[hw,hv];go_enter Tryz.func51,Tryz.ntmps51
  go_wp2_with fail;refine(z1d k n _).mono ?_;rintro e w1 ⟨rfl,hg⟩;rw[hv];obtain⟨x0,x1,x2,x3⟩:=(HV.out.kept hg).facts;have hb:=b1.trans (hg.mono b1.size);clear hg b1 HV;go_wp2_with (go_at_call 109;refine Q4 (hj _) ?_);go_ret2;exact⟨rfl,hb⟩
 ·have nG:=Bool.eq_false_iff.mpr hv;have hw:z0g k n=0:=by unfold z0g;rw[if_neg hv]
  rw[hw,nG];clear hv;go_enter Tryz.func51,Tryz.ntmps51
  go_wp2_with fail;refine(z1d k n _).mono ?_;rintro e w1 ⟨rfl,hg⟩;rw[nG];have hb:=b1.trans (hg.mono b1.size);clear hg b1 HV;go_wp2_with fail;go_ret2;exact⟨rfl,hb⟩
theorem q0u (v:Int) (w:World) :
  Kz 56 #[Iz v] w fun e w'=>e=.returned (.tuple #[.agg #[Iz (z0t (v % 8+1) (v / 8)),Iz (z0u (v % 8+1) (v / 8))],.bool (Q8 (v % 8+1) (v / 8))])/\Below w.heap.size w w':=by
 obtain⟨t,ht⟩:∃ t,t=v % 8:=⟨_,rfl⟩
 obtain⟨b,hb⟩:∃ b,b=v / 8:=⟨_,rfl⟩
 have hs:=Q3 (fun w=>q8k v w);rw[<-ht,<-hb] at hs ⊢;have t1:0<=t:=by omega
 have t2:t<8:=by omega
 clear ht hb;have b1:Below w.heap.size w (w.alloc (Dz 0 0 32)):=(Below.refl _ _).alloc (Nat.le_refl _) _;have b2:=b1.alloc b1.size (Dz (t+1) b 32);have HB:=Q3 b2;have V0:=Q3 ((VC_v.new w 0 0).alloc (Dz (t+1) b 32));have V1:Hid (VC_v ((w.alloc (Dz 0 0 32)).alloc (Dz (t+1) b 32)) (w.heap.size+1) (t+1) b):=heap_alloc2_new _ _ _;clear b1 b2;by_cases hv:Q8 (t+1) b=true
 ·go_enter Tryz.func56,Tryz.ntmps56
  go_wp2_with (go_at_call 111;refine Q4 (hs.out _) ?_);refine(z1d (t+1) b _).mono ?_;rintro e w1 ⟨rfl,hg⟩;rw[hv];have g0:=Q3 (V0.out.kept hg);have g1:=V1.out.kept hg;have hb:=HB.out.trans (hg.mono HB.out.size);clear hg HB V0 V1;obtain⟨x0,x1,x2,x3⟩:=g0.out.facts;obtain⟨x4,x5,x6,x7⟩:=g1.facts;go_wp2_with fail;refine z5v Tryz.results56 rfl rfl rfl (g0.out.set (t+1) b) ⟨?_,?_⟩
  ·rw[q2a hv,hv];rfl
  ·exact(hb.setCell (Nat.le_refl _) _).setCell (Nat.le_refl _) _
 ·have nG:=Bool.eq_false_iff.mpr hv;clear hv;go_enter Tryz.func56,Tryz.ntmps56
  go_wp2_with (go_at_call 111;refine Q4 (hs.out _) ?_);refine(z1d (t+1) b _).mono ?_;rintro e w1 ⟨rfl,hg⟩;rw[nG];have g0:=Q3 (V0.out.kept hg);have g1:=V1.out.kept hg;have hb:=HB.out.trans (hg.mono HB.out.size);clear hg HB V0 V1;obtain⟨x0,x1,x2,x3⟩:=g0.out.facts;obtain⟨x4,x5,x6,x7⟩:=g1.facts;go_wp2_with fail;refine z5v Tryz.results56 rfl rfl rfl (g0.out.set 0 0) ⟨?_,?_⟩
  ·rw[q7i nG,nG];rfl
  ·exact(hb.setCell (Nat.le_refl _) _).setCell (Nat.le_refl _) _
end Go.Proofs.YtjgnogflgoihfaaGreatDoor
