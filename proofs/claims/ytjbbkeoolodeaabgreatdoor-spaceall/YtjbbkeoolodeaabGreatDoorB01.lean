import Derived.Test.YtjbbkeoolodeaabGreatDoorB00
import Derived.Deep.OwnRows
namespace Go.Proofs.YtjbbkeoolodeaabGreatDoor
open Go.RowKit
set_option linter.unusedVariables false
set_option maxRecDepth 100000
set_option maxHeartbeats 16000000
set_option linter.unusedSimpArgs false
def z8l (S:Nat->Int × Int × Int) (p k:Nat) (x:Int × Int × Int):Nat->Int × Int × Int:=fun j=>if p<=j/\j<p+k then x else S j
theorem z2k (S:Nat->Int × Int × Int) (p:Nat) (x:Int × Int × Int):z8l S p 0 x=S:=by funext j;unfold z8l;rw[if_neg (by omega)]
theorem z4r (S:Nat->Int × Int × Int) (p i:Nat) (x:Int × Int × Int):setP (z8l S p i x) (p+i) x=z8l S p (i+1) x:=by
 funext j
 unfold setP z8l;by_cases e:j=p+i
 ·rw[if_pos e,if_pos (by omega)]
 ·rw[if_neg e];by_cases h:p<=j/\j<p+i
  ·rw[if_pos h,if_pos (by omega)]
  ·rw[if_neg h,if_neg (by omega)]
theorem box3 {w:World} {X:Nat} {x y z:Int} {T:TypeId} (h:w.heap[X]? = some (.cells #[.int .i64 x,.int .i64 y,.int .i64 z] T (0,0))) :
  w.cell? ⟨X,0,none⟩=some (.int .i64 x)/\w.cell? ⟨X,1,none⟩=some (.int .i64 y)/\w.cell? ⟨X,2,none⟩=some (.int .i64 z):=by
 simp[World.cell?,h]
theorem j5k {w:World} {bw n p k cap:Nat} {S:Nat->Int × Int × Int} (hr:PRow w bw n S) (hpk:p+k<=n) (hn:n<=4096) (x y z:Int) :
  Calls Tryz.prog 153 #[.slice (some ⟨bw,p*3,none⟩) k cap,.agg #[.int .i64 x,.int .i64 y,.int .i64 z]] w fun e w'=>e=.returned (.tuple #[])/\PRow w' bw n (z8l S p k (x,y,z))/\Out bw (bw+1) w w':=by
 have HP:Hid (p+k<=n/\n<=4096):=⟨hpk,hn⟩
 have HL:Hid (bw<w.heap.size):=Row.lt hr;have HR1:Hid (PRow (w.alloc (.cells #[.int .i64 x,.int .i64 y,.int .i64 z] 147)) bw n (z8l S p 0 (x,y,z))):=by
  rw[z2k];exact hr.kept ((Out.refl 0 0 _).alloc _) z0
 have HO1:Hid (Out bw (bw+1) w (w.alloc (.cells #[.int .i64 x,.int .i64 y,.int .i64 z] 147))):=(Out.refl _ _ _).alloc _;have HX:Hid ((w.alloc (.cells #[.int .i64 x,.int .i64 y,.int .i64 z] 147)).heap[w.heap.size]? = some (.cells #[.int .i64 x,.int .i64 y,.int .i64 z] 147 (0,0))):=heap_alloc_new _ _;obtain⟨X,hX⟩:∃ X,w.heap.size=X:=⟨_,rfl⟩
 obtain⟨W,hW⟩:∃ W,w.alloc (.cells #[.int .i64 x,.int .i64 y,.int .i64 z] 147)=W:=⟨_,rfl⟩
 rw[hX] at HX HL;rw[hW] at HX HR1 HO1;clear hr hpk hn;go_enter Tryz.func153,Tryz.ntmps153
 go_wp2_with fail;clear hX hW;go_loopw [7] (fun u wr=>∃ i:Nat,i<=k/\u=.int .i64 i/\PRow wr bw n (z8l S p i (x,y,z))/\Out bw (bw+1) w wr/\wr.heap[X]? = some (.cells #[.int .i64 x,.int .i64 y,.int .i64 z] 147 (0,0))) (fun u _=>k-(intOf u).toNat)
 case atStart=>exact⟨0,Nat.zero_le _,rfl,HR1.out,HO1.out,HX.out⟩
 case round=>
  clear HR1 HO1 HX;obtain⟨i,i1,rfl,hr,ho,hx⟩:=hrel;have HR:=Z0 hr;have HO:=Z0 ho;have HX:=Z0 hx;have b0:(0:Int)<=(i:Int):=by omega
  by_cases hi:i<k
  ·have b1:(i:Int)<(k:Int):=by omega
   have b2:(k:Int)<=4096:=by have:=HP.out;omega
   obtain⟨u0,v0,t0,hp⟩:=z1c (z8l S p i (x,y,z) (p+i));obtain⟨q0,q1,q2⟩:=hr.page (by have:=HP.out;omega) hp;have fz0:=Row.frozen hr ((p+i)*3);have fz1:=Row.frozen hr ((p+i)*3+1);have fz2:=Row.frozen hr ((p+i)*3+2);obtain⟨x0,x1,x2⟩:=box3 hx;have hr2:=hr.set (p+i) x y z;rw[z4r] at hr2;have ho2:=ho.set3 (b:=bw) (o:=(p+i)*3) z1 (.int .i64 x) (.int .i64 y) (.int .i64 z);have hx2:(((wr.setCell ⟨bw,(p+i)*3,none⟩ (.int .i64 x)).setCell ⟨bw,(p+i)*3+1,none⟩ (.int .i64 y)).setCell ⟨bw,(p+i)*3+2,none⟩ (.int .i64 z)).heap[X]? = some (.cells #[.int .i64 x,.int .i64 y,.int .i64 z] 147 (0,0)):=by
    have hne:X ≠ bw:=by have:=HL.out;omega
    rw[Below.heap_setCell _ _ _ _ hne,Below.heap_setCell _ _ _ _ hne,Below.heap_setCell _ _ _ _ hne];exact hx
   rw[Nat.add_mul] at q0 q1 q2 fz0 fz1 fz2 hr2 ho2 hx2;have HR2:=Z0 hr2;have HO2:=Z0 ho2;have HX2:=Z0 hx2;clear hr ho hx hr2 ho2 hx2 hp HR HO HX;go_wp2;go_roundw
   case rel=>exact⟨i+1,by omega,by go_num,HR2.out,HO2.out,HX2.out⟩
   case measure=>simp[intOf];omega
  ·have:i=k:=by omega
   subst this;clear hr ho hx hi HX;go_wp2;exact bodyPost_end (results_none Tryz.results153 _ _ _) rfl ⟨rfl,HR.out,HO.out⟩
def row8:Array Value:=#[.int .i64 2,.int .i64 4,.int .i64 6,.int .i64 8,.int .i64 12,.int .i64 16,.int .i64 20,.int .i64 32]
theorem info8:(Tryz.prog.info? 79).map (·.size)=some row8.size:=by kernel_rfl
theorem ret8 {fn:Func} {p:Tmp} (hr:fn.results = #[.cell p 79]) {a:Act} {w:World} {g:Nat} {post:Ending->World->Prop} (hp:a.tmps.getD p undef=.pointer (some ⟨g,0,none⟩))
  (hd:a.defers=[]) (b:w.heap[g]? = some (.cells row8 79 (0,0))) (h:post (.returned (.agg row8)) w):bodyPost Tryz.prog fn post Exit.ret a w:=
 bodyPost_ret (v:=.agg row8) (results_cell_row hr a.tmps w g 79 row8 (0,0) _ hp b Tryz.underlying79 rfl info8) hd h
theorem j0r (w:World):Calls Tryz.prog 138 #[] w fun e w'=>e=.returned (.agg #[.int .i64 2,.int .i64 4,.int .i64 6,.int .i64 8,.int .i64 12,.int .i64 16,.int .i64 20,.int .i64 32])/\Out 0 0 w w':=by
 go_enter Tryz.func138,Tryz.ntmps138
 go_wp2;exact ret8 (g:=w.heap.size) rfl rfl rfl (heap_alloc_new _ _) ⟨rfl,(Out.refl _ _ _).alloc _⟩
def J2 (c:Int):Int:=if c=0 then 2 else if c=1 then 4 else if c=2 then 6 else if c=3 then 8 else if c=4 then 12 else if c=5 then 16 else if c=6 then 20 else if c=7 then 32 else 0
theorem x0p (cs:Array Value) (i:Int) (k:Nat) (v:Value) (hi:i=k) (h:k<8) (hv:cs[k]? = some v) (w:World):(Instr.index 79 (.agg cs) (.int .i64 i)).run Tryz.prog w=.ok v w:=by
 subst hi;simp[Instr.index,run_underlying Tryz.underlying79,asIntOf,h,hv,go_sem]
theorem q5n (i:Nat) (h:i<8) (w:World):(Instr.index 79 (.agg #[.int .i64 2,.int .i64 4,.int .i64 6,.int .i64 8,.int .i64 12,.int .i64 16,.int .i64 20,.int .i64 32]) (.int .i64 i)).run Tryz.prog w=.ok (.int .i64 (J2 i)) w:=by
 refine x0p _ _ i _ rfl h ?_ w;have hi:i=0\/i=1\/i=2\/i=3\/i=4\/i=5\/i=6\/i=7:=by omega
 rcases hi with rfl | rfl | rfl | rfl | rfl | rfl | rfl | rfl <;> rfl
theorem q9d {k:Nat} (h:k<8):(J2 (k:Int) == 0)=false:=by
 have hi:k=0\/k=1\/k=2\/k=3\/k=4\/k=5\/k=6\/k=7:=by omega
 rcases hi with rfl | rfl | rfl | rfl | rfl | rfl | rfl | rfl <;> rfl
theorem j0o (c:Int) (w:World):Calls Tryz.prog 130 #[.int .i64 c] w fun e w'=>∃ v:Int,e=.returned (.int .i64 v)/\(v == 0) = !U7 c/\Out 0 0 w w':=by
 by_cases hc:0<=c/\c<8
 ·obtain⟨h1,h2⟩:=hc;obtain⟨k,rfl⟩:∃ k:Nat,c=k:=⟨c.toNat,by omega⟩
  have hi:=q5n k (by omega);have HC:Hid ((J2 (k:Int) == 0) = !U7 (k:Int)):=by
   show _=_
   rw[q9d (by omega),show U7 (k:Int)=true from by unfold U7;simp;omega];rfl
  have HS:=Z0 (j0r w);generalize U7 (k:Int)=q at *
  generalize J2 (k:Int)=u at *
  go_enter Tryz.func130,Tryz.ntmps130
  go_wp2_with (go_at_call 138;refine HS.out.mono ?_;rintro e w1 ⟨rfl,hg⟩);go_ret;exact⟨u,rfl,HC.out,hg⟩
 ·have hc:c<0\/8<=c:=by omega
  have e:U7 c=false:=by unfold U7;simp;omega
  rw[e];rcases hc with h | h
  all_goals
   go_enter Tryz.func130,Tryz.ntmps130
   go_wp2;go_ret;exact⟨0,rfl,rfl,Out.refl _ _ _⟩
def pgV (p:Int × Int × Int):Value:=.agg #[.int .i64 p.1,.int .i64 p.2.1,.int .i64 p.2.2]
theorem info3 (x y z:Int):(Tryz.prog.info? 147).map (·.size)=some (#[Value.int .i64 x,.int .i64 y,.int .i64 z]).size:=by
 rw[show (#[Value.int .i64 x,.int .i64 y,.int .i64 z]).size=3 from rfl];kernel_rfl
theorem q0d {fn:Func} {p u:Tmp} {a:Act} {w:World} {g:Nat} {x y z:Int} {v:Value} {post:Ending->World->Prop} (hr:fn.results = #[.cell p 147,.tmp u]) (hp:a.tmps.getD p undef=.pointer (some ⟨g,0,none⟩)) (hu:a.tmps.getD u undef=v)
  (hd:a.defers=[]) (hg:w.heap[g]? = some (.cells #[.int .i64 x,.int .i64 y,.int .i64 z] 147 (0,0))) (h:post (.returned (.tuple #[.agg #[.int .i64 x,.int .i64 y,.int .i64 z],v])) w):bodyPost Tryz.prog fn post Exit.ret a w:=by
 refine bodyPost_ret (v:=.tuple #[.agg #[.int .i64 x,.int .i64 y,.int .i64 z],v]) ?_ hd h;rw[results_cell_tmp hr,hp];simp[asAddr,run_loadVar_row w g 147 147 _ (0,0) _ hg Tryz.underlying147 rfl (info3 x y z),Result.andThen];simpa using hu
theorem q2i {w:World} {b bw n:Nat} {S:Nat->Int × Int × Int} (h:TblAt 132 w b bw n S) (i:Int) :
  Calls Tryz.prog 161 #[.pointer (some ⟨b,0,none⟩),.int .i64 i] w fun e w'=>e=.returned (.tuple #[pgV (stP S n i),.bool (inB n i)])/\Out 0 0 w w':=by
 obtain⟨cap,c0,hcap⟩:=h.cell;have hn:=h.nums;have c1:=((Out.refl 0 0 w).alloc (.cells #[.int .i64 0,.int .i64 0,.int .i64 0] 147)).cell c0 z0;have HL:=Z0 (j4i c1);by_cases hi:inB n i=true
 ·unfold inB at hi;simp at hi;obtain⟨k,rfl⟩:∃ k:Nat,i=k:=⟨i.toNat,by omega⟩
  have e1:inB n (k:Int)=true:=by unfold inB;simp;omega
  have e2:stP S n (k:Int)=S k:=by unfold stP;rw[e1];rfl
  rw[e1,e2];obtain⟨x,y,z,hp⟩:=z1c (S k);have hr:=h.row.kept ((Out.refl 0 0 w).alloc (.cells #[.int .i64 0,.int .i64 0,.int .i64 0] 147)) z0;obtain⟨q0,q1,q2⟩:=hr.page (by omega) hp;have b0:(0:Int)<=(k:Int):=by omega
  have b1:(k:Int)<(n:Int):=by omega
  have b2:(n:Int)<=4096:=by omega
  rw[hp];clear h hn e1 e2 hi hr hp c0;go_enter Tryz.func161,Tryz.ntmps161
  go_wp2_with (go_at_call 164;refine Z5 HL.out ?_);refine q0d (g:=w.heap.size) Tryz.results161 rfl rfl rfl (heap_alloc_new _ _) ⟨rfl,(Out.refl _ _ _).alloc _⟩
 ·have e1:inB n i=false:=by simpa using hi
  have e2:stP S n i=(0,0,0):=by unfold stP;rw[e1];rfl
  rw[e1,e2];unfold inB at hi;simp at hi;have b2:(n:Int)<=4096:=by omega
  by_cases h0:0<=i
  ·have b1:(n:Int)<=i:=by omega
   clear h hn e1 e2 hi c0;go_enter Tryz.func161,Tryz.ntmps161
   go_wp2_with (go_at_call 164;refine Z5 HL.out ?_);refine q0d (g:=w.heap.size) Tryz.results161 rfl rfl rfl (heap_alloc_new _ _) ⟨rfl,(Out.refl _ _ _).alloc _⟩
  ·have b1:i<0:=by omega
   clear h hn e1 e2 hi c0 h0;go_enter Tryz.func161,Tryz.ntmps161
   go_wp2_with (go_at_call 164;refine Z5 HL.out ?_);refine q0d (g:=w.heap.size) Tryz.results161 rfl rfl rfl (heap_alloc_new _ _) ⟨rfl,(Out.refl _ _ _).alloc _⟩
theorem z0u {S:Nat->Int × Int × Int} {n k p:Nat} (hg:Good n S) (h:U2 S n k=some p):p<n/\p+k<=n/\∀ j,p<=j->j<p+k->S j=(0,0,0):=by
 obtain⟨h1,h2,h3,_⟩:=G3 h;exact⟨h1,h2,fun j j1 j2=>hg.free (by omega) (allF_iff.1 h3 j j1 j2)⟩
theorem j0f (S:Nat->Int × Int × Int) (p k:Nat) (h:1<=k):setR S p k=z8l (setP S p (2,0,(k:Int))) (p+1) (k-1) (3,0,0):=by
 funext j
 unfold setR z8l setP;by_cases e:j=p
 ·rw[if_pos e,if_neg (by omega),if_pos e]
 ·rw[if_neg e];by_cases h2:p<j/\j<p+k
  ·rw[if_pos h2,if_pos (by omega)]
  ·rw[if_neg h2,if_neg (by omega),if_neg e]
theorem q5k (S:Nat->Int × Int × Int) (p k:Nat):setF S p k=z8l S p k (0,0,0):=rfl
theorem z2b {w:World} {b bw n:Nat} {S:Nat->Int × Int × Int} (h:TblAt 132 w b bw n S) (hT:Tab w) (c:Int) :
  Calls Tryz.prog 154 #[.pointer (some ⟨b,0,none⟩),.int .i64 c] w fun e w'=>e=.returned (.tuple #[.int .i64 (tcP S n c:Nat),.int .i64 (tcE S n c)])/\TblAt 132 w' b bw n (tcS S n c)/\Out bw (bw+1) w w':=by
 have hn:=h.nums;have HW:=Z0 (j0o c w);have HH:=Z0 h;have HT:=Z0 hT;by_cases hc:U7 c=true
 ·rw[hc] at HW;unfold tcP tcE tcS;rw[if_pos hc,if_pos hc,if_pos hc];have HR:Hid (∀ w',Out 0 0 w w'->Calls Tryz.prog 152 #[.pointer (some ⟨b,0,none⟩),.int .i64 1] w' fun e w'=>e=.returned (.tuple #[.int .i64 ((U2 S n 1).getD 0:Nat),.bool (U2 S n 1).isSome])/\Out 0 0 w w'):=fun w' ho=>by
   obtain⟨cap,c0,_⟩:=(HH.out.quiet ho).cell;exact(q5g c0 (HT.out.quiet ho) ⟨hn.1,hn.2.1⟩ (HH.out.quiet ho).row HH.out.good 1 (by omega) (by omega)).mono fun e w' ⟨a,b⟩=>⟨a,ho.trans b⟩
  cases hf:U2 S n 1 with
  | none=>
   rw[hf] at HR;clear hn h hT hc hf;go_enter Tryz.func154,Tryz.ntmps154
   go_wp2_with (first | (go_at_call 130;refine HW.out.mono ?_;rintro e w1 ⟨v,rfl,hv,ho⟩;have HO:=Z0 ho;have hv2:(v == 0)=false:=hv;clear hv ho) | (go_at_call 152;refine(HR.out _ HO.out).mono ?_;rintro e w2 ⟨rfl,ho⟩));go_ret2;exact⟨rfl,HH.out.quiet ho,ho.any _ _⟩
  | some p=>
   rw[hf] at HR;obtain⟨p1,p2,p3⟩:=z0u HH.out.good hf;have p4:=p3 p (Nat.le_refl _) (by omega);have HG:=Z0 (z7v HH.out.good p4 (by unfold U7 at hc;simp at hc;exact hc.1) (by unfold U7 at hc;simp at hc;exact hc.2));have b0:(0:Int)<=(p:Int):=by omega
   have b1:(p:Int)<(n:Int):=by omega
   have b2:(n:Int)<=4096:=by omega
   have HP:=Z0 p1;have HP4:=Z0 p4;clear hn h hT hc hf p1 p2 p3 p4;go_enter Tryz.func154,Tryz.ntmps154
   go_wp2_with (first | (go_at_call 130;refine HW.out.mono ?_;rintro e w1 ⟨v,rfl,hv,ho⟩;have HO:=Z0 ho;have hv2:(v == 0)=false:=hv;clear hv ho) | (go_at_call 152;refine(HR.out _ HO.out).mono ?_;rintro e w2 ⟨rfl,ho⟩;obtain⟨cap,c0,hcap⟩:=(HH.out.quiet ho).cell;obtain⟨q0,q1,q2⟩:=(HH.out.quiet ho).row.page HP.out HP4.out;have fz0:=Row.frozen (HH.out.quiet ho).row (p*3);have fz1:=Row.frozen (HH.out.quiet ho).row (p*3+1);have fz2:=Row.frozen (HH.out.quiet ho).row (p*3+2);have HO2:=Z0 ho;clear ho));go_ret2;have hr:=(HH.out.quiet HO2.out).row.set p 1 c 0;have ho3:Out bw (bw+1) w (((w2.setCell ⟨bw,p*3,none⟩ (.int .i64 1)).setCell ⟨bw,p*3+1,none⟩ (.int .i64 c)).setCell ⟨bw,p*3+2,none⟩ (.int .i64 0)):=(HO2.out.any _ _).set3 z1 _ _ _;exact⟨rfl,HH.out.turn ho3 hr HG.out,ho3⟩
 ·have hc':U7 c=false:=by simpa using hc
  rw[hc'] at HW;unfold tcP tcE tcS;rw[if_neg hc,if_neg hc,if_neg hc];clear hn h hT hc hc';go_enter Tryz.func154,Tryz.ntmps154
  go_wp2_with (go_at_call 130;refine HW.out.mono ?_;rintro e w1 ⟨v,rfl,hv,ho⟩;have HO:=Z0 ho;have hv2:(v == 0)=true:=hv;clear hv ho);go_ret2;exact⟨rfl,HH.out.quiet HO.out,HO.out.any _ _⟩
theorem z3e:Tryz.prog.elem 78=147:=by kernel_rfl
theorem q0t (w:World):(sizeOf 147).run Tryz.prog w=.ok 3 w:=by kernel_rfl
theorem q7h (bw n cap lo hi:Nat) (h1:lo<=hi) (h2:hi<=cap):∃ o cp:Nat,(∀ wx,(Instr.slice 78 (.slice (some ⟨bw,0,none⟩) n cap) (some (.int .i64 (lo:Int))) (some (.int .i64 (hi:Int))) none).run Tryz.prog wx=.ok (.slice (some ⟨bw,o,none⟩) (hi-lo) cp) wx)/\(0<hi-lo->o=lo*3):=by
 by_cases e:cap=lo
 ·refine⟨0,cap-lo,fun wx=>?_,fun h=>by omega⟩;rw[run_slice_lh wx 78 _ n cap (by rw[z3e];exact Tryz.underlying78) .i64 .i64 (lo:Int) (hi:Int) (by omega) (by omega) (by omega),z3e,q0t];simp[Result.andThen,sliced,e]
 ·refine⟨lo*3,cap-lo,fun wx=>?_,fun h=>rfl⟩;rw[run_slice_lh wx 78 _ n cap (by rw[z3e];exact Tryz.underlying78) .i64 .i64 (lo:Int) (hi:Int) (by omega) (by omega) (by omega),z3e,q0t];have e2:(⟨bw,0,none⟩:Addr).add (lo*3)=⟨bw,lo*3,none⟩:=by rw[Addr.add_lit,Nat.zero_add]
  simp[Result.andThen,sliced,e,e2]
theorem j1d {w:World} {a:Option Addr} {cap:Nat} (x y z:Int) :
  Calls Tryz.prog 153 #[.slice a 0 cap,.agg #[.int .i64 x,.int .i64 y,.int .i64 z]] w fun e w'=>e=.returned (.tuple #[])/\Out 0 0 w w':=by
 go_enter Tryz.func153,Tryz.ntmps153
 go_wp2_with fail;go_loopw [7] (fun u wr=>u=.int .i64 0/\Out 0 0 w wr) (fun u _=>0)
 case atStart=>exact⟨rfl,(Out.refl _ _ _).alloc _⟩
 case round=>
  obtain⟨rfl,ho⟩:=hrel;have HO:=Z0 ho;clear ho;go_wp2;exact bodyPost_end (results_none Tryz.results153 _ _ _) rfl ⟨rfl,HO.out⟩
theorem j2c {w:World} {bw n p k o cap:Nat} {S:Nat->Int × Int × Int} (hr:PRow w bw n S) (hpk:p+k<=n) (hn:n<=4096) (ho:0<k->o=p*3) (x y z:Int) :
  Calls Tryz.prog 153 #[.slice (some ⟨bw,o,none⟩) k cap,.agg #[.int .i64 x,.int .i64 y,.int .i64 z]] w fun e w'=>e=.returned (.tuple #[])/\PRow w' bw n (z8l S p k (x,y,z))/\Out bw (bw+1) w w':=by
 by_cases h0:0<k
 ·rw[ho h0];exact j5k hr hpk hn x y z
 ·have:k=0:=by omega
  subst this;rw[z2k];exact(j1d x y z).mono fun e w' ⟨h1,h2⟩=>⟨h1,hr.kept h2 z0,h2.any _ _⟩
theorem q1i {w:World} {b bw n:Nat} {S:Nat->Int × Int × Int} (h:TblAt 132 w b bw n S) (hT:Tab w) (k:Nat) (h1:1<=k) (h2:k<=16) (p:Nat) (hf:U2 S n k=some p) :
  Calls Tryz.prog 123 #[.pointer (some ⟨b,0,none⟩),.int .i64 k] w fun e w'=>e=.returned (.tuple #[.int .i64 p,.int .i64 0])/\TblAt 132 w' b bw n (setR S p k)/\Out bw (bw+1) w w':=by
 have hn:=h.nums;have HH:=Z0 h;have HT:=Z0 hT;have HR:Hid (Calls Tryz.prog 152 #[.pointer (some ⟨b,0,none⟩),.int .i64 k] w fun e w'=>e=.returned (.tuple #[.int .i64 p,.bool true])/\Out 0 0 w w'):=by
  obtain⟨cap,c0,_⟩:=HH.out.cell;have:=q5g c0 HT.out ⟨hn.1,hn.2.1⟩ HH.out.row HH.out.good k h1 h2;rw[hf] at this;exact this
 obtain⟨p1,p2,p3⟩:=z0u HH.out.good hf;have p4:=p3 p (Nat.le_refl _) (by omega);have HG:=Z0 (z7u HH.out.good p3 h1 h2 p2);have b0:(0:Int)<=(p:Int):=by omega
 have b1:(p:Int)<(n:Int):=by omega
 have b2:(n:Int)<=4096:=by omega
 have b3:(1:Int)<=(k:Int):=by omega
 have b4:(k:Int)<=16:=by omega
 have b5:(p:Int)+(k:Int)<=(n:Int):=by omega
 have HP:=Z0 p1;have HP4:=Z0 p4;have HB:Hid (4<=b/\4<=bw/\bw ≠ b):=⟨hn.2.2.1,hn.2.2.2.1,hn.2.2.2.2.1⟩
 clear hn h hT hf p1 p2 p3 p4;go_enter Tryz.func123,Tryz.ntmps123
 go_wp2_with (go_at_call 152;refine HR.out.mono ?_;rintro e w2 ⟨rfl,ho⟩;obtain⟨cap,c0,hcap⟩:=(HH.out.quiet ho).cell;obtain⟨q0,q1,q2⟩:=(HH.out.quiet ho).row.page HP.out HP4.out;have fz0:=Row.frozen (HH.out.quiet ho).row (p*3);have fz1:=Row.frozen (HH.out.quiet ho).row (p*3+1);have fz2:=Row.frozen (HH.out.quiet ho).row (p*3+2);have HO2:=Z0 ho;clear ho);have hr3:=(HH.out.quiet HO2.out).row.set p 2 0 k;have ho3:Out bw (bw+1) w (((w2.setCell ⟨bw,p*3,none⟩ (.int .i64 2)).setCell ⟨bw,p*3+1,none⟩ (.int .i64 0)).setCell ⟨bw,p*3+2,none⟩ (.int .i64 k)):=(HO2.out.any _ _).set3 z1 _ _ _;have d0:=((Out.refl bw (bw+1) w2).set3 (b:=bw) (o:=p*3) z1 (.int .i64 2) (.int .i64 0) (.int .i64 k)).cell c0 (by have:=HB.out;omega);obtain⟨W3,hW3⟩:∃ W3,((w2.setCell ⟨bw,p*3,none⟩ (.int .i64 2)).setCell ⟨bw,p*3+1,none⟩ (.int .i64 0)).setCell ⟨bw,p*3+2,none⟩ (.int .i64 k)=W3:=⟨_,rfl⟩
 rw[hW3] at hr3 ho3 d0 ⊢;have hT3:=HT.out.kept ho3 (.inl HB.out.2.1);obtain⟨r0,r1,r2⟩:=hT3.r;have HR3:=Z0 hr3;have HO3:=Z0 ho3;obtain⟨l,hl⟩:∃ l:Nat,p+1=l:=⟨_,rfl⟩
 obtain⟨u,hu⟩:∃ u:Nat,p+k=u:=⟨_,rfl⟩
 obtain⟨o,cp,hsl,hoo⟩:=q7h bw n cap l u (by omega) (by omega);obtain⟨ln,hln⟩:∃ ln:Nat,u-l=ln:=⟨_,rfl⟩
 rw[hln] at hsl hoo;have x1:IntKind.i64.wrap ((p:Int)+1)=(l:Int):=by simp[IntKind.wrap,IntKind.signed,IntKind.bits];omega
 have x2:IntKind.i64.wrap ((p:Int)+(k:Int))=(u:Int):=by simp[IntKind.wrap,IntKind.signed,IntKind.bits];omega
 have HF:Hid (∀ w',PRow w' bw n (setP S p (2,0,(k:Int)))->Calls Tryz.prog 153 #[.slice (some ⟨bw,o,none⟩) ln cp,.agg #[.int .i64 3,.int .i64 0,.int .i64 0]] w' fun e w''=>e=.returned (.tuple #[])/\PRow w'' bw n (setR S p k)/\Out bw (bw+1) w' w''):=fun w' hr=>by
  rw[j0f S p k h1,show k-1=ln from by omega];exact j2c hr (by omega) (by omega) (fun h=>by rw[hoo h,hl]) 3 0 0
 clear hr3 ho3 hT3 q0 q1 q2 fz0 fz1 fz2 c0 hW3 hl hu hln hoo;go_region_held3 (fun w'=>w'.cell? ⟨b,0,none⟩=some (.slice (some ⟨bw,0,none⟩) n cap)/\w'.cell? ⟨1,0,none⟩=some (.int .i64 3)/\w'.cell? ⟨1,1,none⟩=some (.int .i64 0)/\w'.cell? ⟨1,2,none⟩=some (.int .i64 0)) (first | go_keep | (refine⟨?_,?_,?_,?_⟩ <;> exact hOO.cell (by assumption) (by have:=HB.out;omega)))
  (first | (go_at_call 153;refine(HF.out _ (by exact HR3.out)).mono ?_;rintro e w4 ⟨rfl,hp4,hOO⟩))
 all_goals (try go_wp2)
 all_goals go_ret2
 all_goals exact⟨rfl,HH.out.turn (HO3.out.trans ((Out.refl _ _ _).drew.trans hOO)) hp4 HG.out,HO3.out.trans ((Out.refl _ _ _).drew.trans hOO)⟩
theorem q0s {w:World} {b bw n:Nat} {S:Nat->Int × Int × Int} (h:TblAt 132 w b bw n S) (hT:Tab w) (k:Nat) (h1:1<=k) (h2:k<=16) (hf:U2 S n k=none) :
  Calls Tryz.prog 123 #[.pointer (some ⟨b,0,none⟩),.int .i64 k] w fun e w'=>e=.returned (.tuple #[.int .i64 0,.int .i64 20])/\Out 0 0 w w':=by
 have hn:=h.nums;have HR:Hid (Calls Tryz.prog 152 #[.pointer (some ⟨b,0,none⟩),.int .i64 k] w fun e w'=>e=.returned (.tuple #[.int .i64 0,.bool false])/\Out 0 0 w w'):=by
  obtain⟨cap,c0,_⟩:=h.cell;have:=q5g c0 hT ⟨hn.1,hn.2.1⟩ h.row h.good k h1 h2;rw[hf] at this;exact this
 have b3:(1:Int)<=(k:Int):=by omega
 have b4:(k:Int)<=16:=by omega
 clear hn h hT hf h1 h2;go_enter Tryz.func123,Tryz.ntmps123
 go_wp2_with (go_at_call 152;refine HR.out.mono ?_;rintro e w2 ⟨rfl,ho⟩);go_ret2;exact⟨rfl,ho⟩
theorem z7a {w:World} {b bw n:Nat} {S:Nat->Int × Int × Int} (h:TblAt 132 w b bw n S) (hT:Tab w) (c:Int) :
  Calls Tryz.prog 123 #[.pointer (some ⟨b,0,none⟩),.int .i64 c] w fun e w'=>e=.returned (.tuple #[.int .i64 (trP S n c:Nat),.int .i64 (trE S n c)])/\TblAt 132 w' b bw n (trS S n c)/\Out bw (bw+1) w w':=by
 unfold trP trE trS;by_cases hc:q4b c=true
 ·rw[if_pos hc,if_pos hc,if_pos hc];unfold q4b at hc;simp at hc;obtain⟨k,rfl⟩:∃ k:Nat,c=k:=⟨c.toNat,by omega⟩
  rw[show ((k:Nat):Int).toNat=k from by omega];cases hf:U2 S n k with
  | none=>exact(q0s h hT k (by omega) (by omega) hf).mono fun e w' ⟨a,o⟩=>⟨a,h.quiet o,o.any _ _⟩
  | some p=>exact q1i h hT k (by omega) (by omega) p hf
 ·rw[if_neg hc,if_neg hc,if_neg hc];unfold q4b at hc;simp at hc;have H:=Z0 h;by_cases h1:1<=c
  ·have h2:16<c:=by omega
   clear h hT hc;go_enter Tryz.func123,Tryz.ntmps123
   go_wp2;go_ret2;exact⟨rfl,H.out,Out.refl _ _ _⟩
  ·have h2:c<1:=by omega
   clear h hT hc h1;go_enter Tryz.func123,Tryz.ntmps123
   go_wp2;go_ret2;exact⟨rfl,H.out,Out.refl _ _ _⟩
theorem j6k {w:World} {b bw n:Nat} {S:Nat->Int × Int × Int} (h:TblAt 132 w b bw n S) (hT:Tab w) (p:Nat) (hp:p<n) (hk:(S p).1=1\/(S p).1=2) :
  Calls Tryz.prog 146 #[.pointer (some ⟨b,0,none⟩),.int .i64 p] w fun e w'=>e=.returned (.int .i64 0)/\TblAt 132 w' b bw n (setF S p (z4t (S p)))/\Out bw (bw+1) w w':=by
 have hn:=h.nums;have HH:=Z0 h;have HT:=Z0 hT;obtain⟨l1,l2,l3,_,hkind⟩:=z5j h.good hp hk;have HG:=Z0 (q2q h.good hp hk);have e1:inB n (p:Int)=true:=by unfold inB;simp;omega
 have e2:stP S n (p:Int)=S p:=by unfold stP;rw[e1];rfl
 obtain⟨x,y,z,hxyz⟩:=z1c (S p);have HS:Hid (∀ w',Out 0 0 w w'->Calls Tryz.prog 161 #[.pointer (some ⟨b,0,none⟩),.int .i64 p] w' fun e w'=>e=.returned (.tuple #[.agg #[.int .i64 x,.int .i64 y,.int .i64 z],.bool true])/\Out 0 0 w w'):=fun w' ho=>by
  have:=q2i (h.quiet ho) (p:Int);rw[e1,e2,hxyz] at this;exact this.mono fun e w' ⟨a,b⟩=>⟨a,ho.trans b⟩
 obtain⟨L,hL⟩:∃ L,z4t (S p)=L:=⟨_,rfl⟩
 rw[hL] at l1 l2 l3 hkind HG ⊢;rw[hxyz] at hkind;have hx0:(x == 0)=false:=by rcases hkind with ⟨a,_⟩ | ⟨a,_⟩ <;> (simp at a;subst a;rfl)
 have hx3:(x == 3)=false:=by rcases hkind with ⟨a,_⟩ | ⟨a,_⟩ <;> (simp at a;subst a;rfl)
 have HZ:Hid (max z 1=(L:Int)/\0<=z/\z<=16):=by
  show _/\_
  rcases hkind with ⟨a,b,c⟩ | ⟨a,b⟩
  ·simp at c;subst c;subst b;decide
  ·simp at b;subst b;omega
 have b0:(0:Int)<=(p:Int):=by omega
 have b1:(p:Int)<(n:Int):=by omega
 have b2:(n:Int)<=4096:=by omega
 have HB:Hid (4<=b/\4<=bw/\bw ≠ b/\p+L<=n/\n<=4096):=⟨hn.2.2.1,hn.2.2.2.1,hn.2.2.2.2.1,l3,hn.2.1⟩
 clear hn h hT l1 l2 l3 hkind e1 e2 hL hxyz hk;go_enter Tryz.func146,Tryz.ntmps146
 go_wp2_with (go_at_call 161;refine(HS.out _ (by first | exact Out.refl 0 0 _ | exact(Out.refl 0 0 _).alloc _)).mono ?_;rintro e w2 ⟨rfl,ho'⟩;have HX:Hid (w.heap.size<=w2.heap.size):=ho'.size;have ho:=ho'.alloc (.cells #[.int .i64 x,.int .i64 y,.int .i64 z] 147);have HO2:=Z0 ho;obtain⟨f0,f1,f2⟩:=(HT.out.quiet ho).f;obtain⟨r0,r1,r2⟩:=(HT.out.quiet ho).r;obtain⟨cap,c0,hcap⟩:=(HH.out.quiet ho).cell;clear ho ho');obtain⟨x0,x1',x2'⟩:=box3 (heap_alloc_new w2 (.cells #[.int .i64 x,.int .i64 y,.int .i64 z] 147));obtain⟨W3,hW3⟩:∃ W3,w2.alloc (.cells #[.int .i64 x,.int .i64 y,.int .i64 z] 147)=W3:=⟨_,rfl⟩
 obtain⟨X,hX⟩:∃ X,w2.heap.size=X:=⟨_,rfl⟩
 have hXw:w.heap.size<=X:=hX ▸ HX.out;rw[hW3] at HO2 f0 f1 f2 r0 r1 r2 c0 x2' ⊢;rw[hX] at x2' ⊢;obtain⟨u,hu⟩:∃ u:Nat,p+L=u:=⟨_,rfl⟩
 obtain⟨o,cp,hsl,hoo⟩:=q7h bw n cap p u (by omega) (by have:=HB.out;omega);obtain⟨ln,hln⟩:∃ ln:Nat,u-p=ln:=⟨_,rfl⟩
 rw[hln] at hsl hoo;have hmx:(if (1:Int) > z then (1:Int) else z)=(L:Int):=by have:=HZ.out;split <;> omega
 have hmx2:(if z<1 then (1:Int) else z)=(L:Int):=by have:=HZ.out;split <;> omega
 have y2:IntKind.i64.wrap ((p:Int)+(L:Int))=(u:Int):=by have:=HB.out;simp[IntKind.wrap,IntKind.signed,IntKind.bits];omega
 have HF:Hid (∀ w',PRow w' bw n S->Calls Tryz.prog 153 #[.slice (some ⟨bw,o,none⟩) ln cp,.agg #[.int .i64 0,.int .i64 0,.int .i64 0]] w' fun e w''=>e=.returned (.tuple #[])/\PRow w'' bw n (setF S p L)/\Out bw (bw+1) w' w''):=fun w' hr=>by
  rw[q5k S p L,show L=ln from by omega];exact j2c hr (by have:=HB.out;omega) (by have:=HB.out;omega) hoo 0 0 0
 have HR3:=Z0 (HH.out.quiet HO2.out).row;have HX2:Hid (bw<X):=by show bw<X;have:=HH.out.nums;omega
 clear hu hln hoo hW3 hX x0 x1' hXw r0 r1 r2;go_region_held3 (fun w'=>w'.cell? ⟨b,0,none⟩=some (.slice (some ⟨bw,0,none⟩) n cap)/\w'.cell? ⟨X,2,none⟩=some (.int .i64 z)/\w'.cell? ⟨2,0,none⟩=some (.int .i64 0)/\w'.cell? ⟨2,1,none⟩=some (.int .i64 0)/\w'.cell? ⟨2,2,none⟩=some (.int .i64 0)) (first | go_keep | (refine⟨?_,?_,?_,?_,?_⟩ <;> exact hOO.cell (by assumption) (by have:=HB.out;have:=HX2.out;omega)))
  (first | (go_at_call 153;refine(HF.out _ (by exact HR3.out)).mono ?_;rintro e w4 ⟨rfl,hp4,hOO⟩))
 all_goals (try go_wp2)
 all_goals go_ret
 all_goals exact⟨rfl,HH.out.turn ((HO2.out.any _ _).trans ((Out.refl _ _ _).drew.trans hOO)) hp4 HG.out,(HO2.out.any _ _).trans ((Out.refl _ _ _).drew.trans hOO)⟩
def j6w (x:Int) (ok:Bool):Prop:=ok=false\/x=0\/x=3
theorem j9l {w:World} {b:Nat} (hT:Tab w) (p:Int) (x:Int) (ok:Bool) (hx:j6w x ok)
  (HS:Hid (∀ w',Out 0 0 w w'->Calls Tryz.prog 161 #[.pointer (some ⟨b,0,none⟩),.int .i64 p] w' fun e w'=>e=.returned (.tuple #[.agg #[.int .i64 x,.int .i64 0,.int .i64 0],.bool ok])/\Out 0 0 w w')) :
  Calls Tryz.prog 146 #[.pointer (some ⟨b,0,none⟩),.int .i64 p] w fun e w'=>e=.returned (.int .i64 1)/\Out 0 0 w w':=by
 have HT:=Z0 hT;clear hT;rcases hx with rfl | rfl | rfl
 ·go_enter Tryz.func146,Tryz.ntmps146
  go_wp2_with (go_at_call 161;refine(HS.out _ (Out.refl 0 0 _)).mono ?_;rintro e w2 ⟨rfl,ho'⟩;have HO2:=Z0 (ho'.alloc (.cells #[.int .i64 x,.int .i64 0,.int .i64 0] 147));obtain⟨f0,f1,f2⟩:=(HT.out.quiet HO2.out).f;obtain⟨r0,r1,r2⟩:=(HT.out.quiet HO2.out).r;clear ho')
  all_goals go_ret
  all_goals exact⟨rfl,HO2.out⟩
 ·cases ok
  all_goals
   go_enter Tryz.func146,Tryz.ntmps146
   go_wp2_with (go_at_call 161;refine(HS.out _ (Out.refl 0 0 _)).mono ?_;rintro e w2 ⟨rfl,ho'⟩;have HO2:=Z0 (ho'.alloc (.cells #[.int .i64 0,.int .i64 0,.int .i64 0] 147));obtain⟨f0,f1,f2⟩:=(HT.out.quiet HO2.out).f;obtain⟨r0,r1,r2⟩:=(HT.out.quiet HO2.out).r;clear ho');go_ret;exact⟨rfl,HO2.out⟩
 ·cases ok
  all_goals
   go_enter Tryz.func146,Tryz.ntmps146
   go_wp2_with (go_at_call 161;refine(HS.out _ (Out.refl 0 0 _)).mono ?_;rintro e w2 ⟨rfl,ho'⟩;have HO2:=Z0 (ho'.alloc (.cells #[.int .i64 3,.int .i64 0,.int .i64 0] 147));obtain⟨f0,f1,f2⟩:=(HT.out.quiet HO2.out).f;obtain⟨r0,r1,r2⟩:=(HT.out.quiet HO2.out).r;clear ho');go_ret;exact⟨rfl,HO2.out⟩
theorem q7y {n:Nat} {S:Nat->Int × Int × Int} {p:Int} (hg:Good n S) (h:z4n S n p=false):∃ x,stP S n p=(x,0,0)/\j6w x (inB n p):=by
 unfold z4n at h;cases hb:inB n p with
 | false=>exact⟨0,by unfold stP;rw[hb];rfl,.inl rfl⟩
 | true=>
  rw[hb] at h;unfold stP;rw[hb];have hi:p.toNat<n:=by unfold inB at hb;simp at hb;omega
  rcases hg.cases hi with e | ⟨c,_,_,e⟩ | ⟨k,_,_,_,e⟩ | e
  ·exact⟨0,by rw[if_pos rfl,e],.inr (.inl rfl)⟩
  ·rw[e] at h;simp at h
  ·rw[e] at h;simp at h
  ·exact⟨3,by rw[if_pos rfl,e],.inr (.inr rfl)⟩
theorem q6h {w:World} {b bw n:Nat} {S:Nat->Int × Int × Int} (h:TblAt 132 w b bw n S) (hT:Tab w) (p:Int) :
  Calls Tryz.prog 146 #[.pointer (some ⟨b,0,none⟩),.int .i64 p] w fun e w'=>e=.returned (.int .i64 (gvE S n p))/\TblAt 132 w' b bw n (gvS S n p)/\Out bw (bw+1) w w':=by
 unfold gvE gvS;by_cases hb:z4n S n p=true
 ·rw[if_pos hb,if_pos hb];have hb':=hb;unfold z4n inB at hb;simp at hb;obtain⟨k,rfl⟩:∃ k:Nat,p=k:=⟨p.toNat,by omega⟩
  exact j6k h hT k (by omega) (by simpa using hb.2)
 ·rw[if_neg hb,if_neg hb];obtain⟨x,e,hx⟩:=q7y h.good (by simpa using hb);refine(j9l hT p x (inB n p) hx (fun w' ho=>?_)).mono fun e w' ⟨a,o⟩=>⟨a,h.quiet o,o.any _ _⟩
  have:=q2i (h.quiet ho) p;rw[e] at this;exact this.mono fun e w' ⟨a,b⟩=>⟨a,ho.trans b⟩
theorem z4h:(Tryz.prog.info? 147).map (fun i=>(i.zero,i.size,i.bytes))=some (some (.agg #[.int .i64 0,.int .i64 0,.int .i64 0]),3,24):=by kernel_rfl
theorem Q3 {T:TypeId} {z:Value} {a b:Nat} (h:(Tryz.prog.info? T).map (fun i=>(i.zero,i.size,i.bytes))=some (some z,a,b)):∃ i,Tryz.prog.info? T=some i/\i.zero=some z/\i.size=a/\i.bytes=b:=by
 cases hi:Tryz.prog.info? T with
 | none=>rw[hi] at h;cases h
 | some i=>rw[hi] at h;simp at h;exact⟨i,rfl,h.1,h.2.1,h.2.2⟩
theorem made3 {i k:Nat} (h:i<k):(madeCells #[Value.int .i64 0,.int .i64 0,.int .i64 0] k)[i]? = some (.int .i64 0):=by
 have hm:i % 3=0\/i % 3=1\/i % 3=2:=by omega
 rcases hm with hm | hm | hm <;> simp[madeCells,h,hm]
theorem z9h (n:Nat) (hn:n<=4096):∃ cur:Array Value,(∀ i,i<n*3->cur[i]? = some (.int .i64 0))/\cur.size=n*3/\∀ w:World,(Instr.makeSlice 78 (.int .i64 (n:Int)) (.int .i64 (n:Int))).run Tryz.prog w=.ok (.slice (some ⟨w.heap.size,0,none⟩) n n) (w.alloc (.cells cur 147)):=by
 obtain⟨i0,hi,hz0,hz1,hz2⟩:=Q3 z4h;refine⟨madeCells #[Value.int .i64 0,.int .i64 0,.int .i64 0] (n*3),fun i h=>made3 h,size_madeCells _ _,fun w=>?_⟩;have:=run_make (P:=Tryz.prog) w 78 147 i0 _ Tryz.underlying78 hi hz0 .i64 .i64 (n:Int) (n:Int) (by omega) (Int.le_refl _) (by rw[hz2];omega) (by omega);rw[this,hz1];simp[Value.cells]
theorem q1y {T:TypeId} {w:World} {cur:Array Value} {n:Nat} (h1:1<=n) (h2:n<=4096) (hw:4<=w.heap.size) (hc:∀ i,i<n*3->cur[i]? = some (.int .i64 0)) (hs:cur.size=n*3) :
  TblAt T ((w.alloc (.cells cur 147)).alloc (.cells #[.slice (some ⟨w.heap.size,0,none⟩) n n] T)) (w.heap.size+1) w.heap.size n (fun _=>(0,0,0)):=by
 refine⟨n,?_,Nat.le_refl _,by omega,by omega,hw,h1,h2,q2s n,cur,?_,by omega,fun i hi=>?_⟩
 ·have:=heap_alloc_new (w.alloc (.cells cur 147)) (.cells #[.slice (some ⟨w.heap.size,0,none⟩) n n] T);simpa using this
 ·rw[heap_alloc_old _ _ (by simp)];exact heap_alloc_new _ _
 ·rw[hc i hi];unfold q2b fld;simp
def j2u (n:Int):Bool:=decide (1<=n) && decide (n<=4096)
theorem j8z {w:World} (hT:Tab w) (n:Nat) (h1:1<=n) (h2:n<=4096) :
  Calls Tryz.prog 46 #[.int .i64 n] w fun e w'=>e=.returned (.tuple #[.pointer (some ⟨w.heap.size+1,0,none⟩),.int .i64 0])/\TblAt 132 w' (w.heap.size+1) w.heap.size n (fun _=>(0,0,0))/\Out 0 0 w w'/\w'.heap.size=w.heap.size+2:=by
 obtain⟨cur,hc,hs,hmk⟩:=z9h n h2;have HN:=Z0 (fun T=>q1y (T:=T) h1 h2 hT.lt hc hs);have b1:(1:Int)<=(n:Int):=by omega
 have b2:(n:Int)<=4096:=by omega
 clear hT h1 h2 hc hs;go_enter Tryz.func46,Tryz.ntmps46
 go_wp2;go_ret2;exact⟨rfl,HN.out _,((Out.refl _ _ _).alloc _).alloc _,by simp⟩
theorem x2c (n:Int) (h:j2u n=false) (w:World) :
  Calls Tryz.prog 46 #[.int .i64 n] w fun e w'=>e=.returned (.tuple #[.pointer none,.int .i64 1])/\w'=w:=by
 unfold j2u at h;simp at h;by_cases h1:1<=n
 ·have h2:4096<n:=by omega
  clear h;go_enter Tryz.func46,Tryz.ntmps46
  go_wp2;go_ret2;exact⟨rfl,rfl⟩
 ·have h2:n<1:=by omega
  clear h h1;go_enter Tryz.func46,Tryz.ntmps46
  go_wp2;go_ret2;exact⟨rfl,rfl⟩
theorem q8l {w:World} (hT:4<=w.heap.size) (n:Nat) (h1:1<=n) (h2:n<=4096) :
  Calls Tryz.prog 54 #[.int .i64 n] w fun e w'=>e=.returned (.tuple #[.pointer (some ⟨w.heap.size+1,0,none⟩),.int .i64 0])/\TblAt 130 w' (w.heap.size+1) w.heap.size n (fun _=>(0,0,0))/\Out 0 0 w w'/\w'.heap.size=w.heap.size+2:=by
 obtain⟨cur,hc,hs,hmk⟩:=z9h n h2;have HN:=Z0 (fun T=>q1y (T:=T) h1 h2 hT hc hs);have b1:(1:Int)<=(n:Int):=by omega
 have b2:(n:Int)<=4096:=by omega
 clear hT h1 h2 hc hs;go_enter Tryz.func54,Tryz.ntmps54
 go_wp2;go_ret2;exact⟨rfl,HN.out _,((Out.refl _ _ _).alloc _).alloc _,by simp⟩
theorem j2n (n:Int) (h:j2u n=false) (w:World) :
  Calls Tryz.prog 54 #[.int .i64 n] w fun e w'=>e=.returned (.tuple #[.pointer none,.int .i64 1])/\w'=w:=by
 unfold j2u at h;simp at h;by_cases h1:1<=n
 ·have h2:4096<n:=by omega
  clear h;go_enter Tryz.func54,Tryz.ntmps54
  go_wp2;go_ret2;exact⟨rfl,rfl⟩
 ·have h2:n<1:=by omega
  clear h h1;go_enter Tryz.func54,Tryz.ntmps54
  go_wp2;go_ret2;exact⟨rfl,rfl⟩
end Go.Proofs.YtjbbkeoolodeaabGreatDoor
