import Derived.Test.YtjbbkeoolodeaabGreatDoorB29
namespace Go.Proofs.YtjbbkeoolodeaabGreatDoor
open Go.RowKit
set_option linter.unusedVariables false
set_option maxRecDepth 100000
set_option maxHeartbeats 16000000
set_option linter.unusedSimpArgs false
def z0x (j:Nat):List Nat:=[[],[2,2],[2],[],[1],[1],[],[6],[3,2],[4,5],[1,8],[6,7,1,1],[],[4,5,9]].getD j []
def z1o (j:Nat):Int:=[0,0,0,2,1,0,2,0,0,0,0,2,9,0].getD j 0
def U1 (j:Nat):Int:=if j=12 then 4 else 0
def q8x (j:Nat):Int:=[0,0,0,1,8,0,1,0,0,0,0,1,1,0].getD j 0
def j3c (f:Value) (a b c d:Int):Array Value:=#[f,.int .i64 a,.int .i64 b,.int .i64 c,.int .i64 d]
theorem info5 (f:Value) (a b c d:Int):(Tryz.prog.info? 142).map (·.size)=some (j3c f a b c d).size:=by rw[show (j3c f a b c d).size=5 from rfl];kernel_rfl
theorem j7g {fn:Func} {p:Tmp} {a:Act} {w:World} {g:Nat} {f:Value} {x y z u:Int} {post:Ending->World->Prop} (hr:fn.results = #[.cell p 142]) (hp:a.tmps.getD p undef=.pointer (some ⟨g,0,none⟩))
  (hd:a.defers=[]) (hg:w.heap[g]? = some (.cells (j3c f x y z u) 142 (0,0))) (h:post (.returned (.agg (j3c f x y z u))) w):bodyPost Tryz.prog fn post Exit.ret a w:=
 bodyPost_ret (v:=.agg (j3c f x y z u)) (results_cell_row hr a.tmps _ g 142 _ (0,0) _ hp hg Tryz.underlying142 rfl (info5 f x y z u)) hd h
theorem j5i {w:World} {base n:Nat} {cur:Array Value} {l:List Nat} (h:cur.toList=q1j l) (hn:n=l.length) (hb:base<=w.heap.size) (hm:n<=1000):YListIs (w.alloc (.cells cur 3)) base (.slice (some ⟨w.heap.size,0,none⟩) n n) l:=by
 have hc:cur.size=n:=by rw[<-Array.length_toList,h,hn];simp[q1j]
 refine⟨by simp[q1j],.inr ⟨w.heap.size,n,cur,by rw[hn],hb,heap_alloc_new _ _,by omega,by unfold maxLen;omega,by omega,?_⟩⟩;rw[h,List.take_of_length_le];simp[q1j]
theorem x1z {w:World} {o o2:Obj}:((w.alloc o).alloc o2).heap[w.heap.size]? = some o:=by
 rw[heap_alloc_old _ _ (by simp)];exact heap_alloc_new w o
def q3q (w:World) (j:Nat) (e:Ending) (w':World):Prop:=∃ f,e=.returned (.agg (j3c f (z1o j) (U1 j) (mo j) (q8x j)))/\YListIs w' w.heap.size f (z0x j)/\Out 0 0 w w'
theorem j2w {w:World} {a:Act} {cur:Array Value} {n j:Nat} {x y z u:Int} (hp:a.tmps.getD 2 undef=.pointer (some ⟨w.heap.size,0,none⟩)) (hd:a.defers=[]) (hc:cur.toList=q1j (z0x j)) (hn:n=(z0x j).length) (hm:n<=1000)
  (h1:x=z1o j) (h2:y=U1 j) (h3:z=mo j) (h4:u=q8x j) :
  bodyPost Tryz.prog Tryz.f103 (q3q w j) Exit.ret a ((w.alloc (.cells (j3c (.slice (some ⟨w.heap.size+1,0,none⟩) n n) x y z u) 142)).alloc (.cells cur 3)):=by
 subst h1 h2 h3 h4;refine j7g Tryz.results103 hp hd x1z ⟨_,rfl,?_,((Out.refl _ _ _).alloc _).alloc _⟩;have:=j5i (w:=w.alloc (.cells (j3c (.slice (some ⟨w.heap.size+1,0,none⟩) n n) (z1o j) (U1 j) (mo j) (q8x j)) 142)) (base:=w.heap.size) hc hn (by simp) hm;simpa using this
theorem j4e {w:World} {a:Act} {j:Nat} {x y z u:Int} (hp:a.tmps.getD 2 undef=.pointer (some ⟨w.heap.size,0,none⟩)) (hd:a.defers=[]) (hc:z0x j=[])
  (h1:x=z1o j) (h2:y=U1 j) (h3:z=mo j) (h4:u=q8x j) :
  bodyPost Tryz.prog Tryz.f103 (q3q w j) Exit.ret a (w.alloc (.cells (j3c (.slice none 0 0) x y z u) 142)):=by
 subst h1 h2 h3 h4;refine j7g Tryz.results103 hp hd (heap_alloc_new _ _) ⟨_,rfl,?_,(Out.refl _ _ _).alloc _⟩;rw[hc];exact YListIs.nil _ _
theorem j4g {j:Nat} (h1:1<=j) (h2:j<=13) (w:World):Calls Tryz.prog 103 #[.int .i64 j] w (q3q w j):=by
 rcases j2m h1 h2 with rfl | rfl | rfl | rfl | rfl | rfl | rfl | rfl | rfl | rfl | rfl | rfl | rfl
 all_goals
  clear h1 h2;first | rw[show ((1:Nat):Int)=1 from rfl] | rw[show ((2:Nat):Int)=2 from rfl] | rw[show ((3:Nat):Int)=3 from rfl] | rw[show ((4:Nat):Int)=4 from rfl] | rw[show ((5:Nat):Int)=5 from rfl] | rw[show ((6:Nat):Int)=6 from rfl] | rw[show ((7:Nat):Int)=7 from rfl] | rw[show ((8:Nat):Int)=8 from rfl] | rw[show ((9:Nat):Int)=9 from rfl] | rw[show ((10:Nat):Int)=10 from rfl] | rw[show ((11:Nat):Int)=11 from rfl] | rw[show ((12:Nat):Int)=12 from rfl] | rw[show ((13:Nat):Int)=13 from rfl]
  go_enter Tryz.func103,Tryz.ntmps103
  go_wp2;first
  | exact j2w rfl rfl rfl rfl (by decide) rfl rfl rfl rfl
  | exact j4e rfl rfl rfl rfl rfl rfl rfl
def j2v (y:Int):Prop:=y=4\/y=8\/y=16\/y=32\/y=64\/y=128\/y=256\/y=512
theorem q9n {y:Int} (h:j2v y):4<=y/\y<=512:=by unfold j2v at h;omega
theorem j0e {y:Int} (h:j2v y) (h2:y<512):j2v (y+y):=by unfold j2v at *;omega
theorem spine_iff {n:Int}:B9 n=true ↔ j2v n:=by unfold B9 j2v;simp[or_assoc]
theorem q9l (n y:Int) (h:j2v y) (h2:n<=y\/512<=y) (h3:y=4\/y<n*2):(y == n)=B9 n:=by
 rw[Bool.eq_iff_iff,spine_iff,beq_iff_eq];unfold j2v at *;omega
theorem q2r (n:Int) (w:World):Calls Tryz.prog 102 #[.int .i64 n] w fun e w'=>e=.returned (.bool (B9 n))/\w'=w:=by
 have E:=Z0 (q9l n);generalize B9 n=b at *
 go_enter Tryz.func102,Tryz.ntmps102
 go_wp2;go_loopw [3] (fun x wr=>∃ y:Int,x=.int .i64 y/\j2v y/\(y=4\/y<n*2)/\wr=w) (fun x _=>(512-intOf x).toNat)
 case atStart=>exact⟨4,rfl,.inl rfl,.inl rfl,rfl⟩
 case round=>
  obtain⟨y,rfl,hp,hy,rfl⟩:=hrel;obtain⟨p1,p2⟩:=q9n hp;have HP:=Z0 hp;clear hp;by_cases h1:y<n
  ·by_cases h2:y<512
   ·go_wp2;go_roundw
    case rel=>exact⟨y+y,rfl,j0e HP.out h2,.inr (by omega),trivial⟩
    case measure=>simp[intOf];omega
   ·have hr:=E.out y HP.out (by omega) hy;go_wp2;go_ret;exact⟨rfl,rfl⟩
  ·have hr:=E.out y HP.out (by omega) hy;go_wp2;go_ret;exact⟨rfl,rfl⟩
theorem j4u {w:World} {v:Value} {base:Nat} {l:List Nat} (h:YListIs w base v l) :
  ∃ a cap,v=.slice a l.length cap/\(0<l.length->∃ g,a=some ⟨g,0,none⟩/\base<=g/\g<w.heap.size/\∀ i (hi:i<l.length),w.cell? ⟨g,i,none⟩=some (.int .i64 (l[i]:Nat))):=by
 obtain⟨hlen,hcase⟩:=h;rcases hcase with ⟨hv,h0⟩ | ⟨g,cap',cur,rfl,hg1,hg2,hg3,hg4,hg5,hg6⟩
 ·exact⟨none,0,by rw[hv,h0],fun h=>by omega⟩
 ·refine⟨_,_,rfl,fun _=>⟨g,rfl,hg1,Q4 hg2,fun i hi=>?_⟩⟩;have e:(cur.toList.take (l.length*1))[i]? = (q1j l)[i]? :=by rw[hg6]
  simp[q1j,hi] at e;simp[World.cell?,hg2,e]
theorem z7s {j:Nat} (h1:1<=j) (h2:j<=13):wd j=1+(z0x j).length/\(z0x j).length<=4/\0<=z1o j/\0<=U1 j/\(z1o j=0->mo j=0/\U1 j=0)/\(0<z1o j->q8x j=if j=4 then 8 else 1)/\(j ≠ 12->U1 j=0)/\(j=12->U1 j=4/\mo j=512/\z1o j=9)/\(j=4->z1o j=1)/\mo j<=4096:=by
 rcases j2m h1 h2 with rfl | rfl | rfl | rfl | rfl | rfl | rfl | rfl | rfl | rfl | rfl | rfl | rfl <;> decide
theorem j2h {j:Nat} (h1:1<=j) (h2:j<=13) (w:World):Calls Tryz.prog 103 #[.int .i64 j] w fun e w'=>∃ ao cap,e=.returned (.agg #[.slice ao (z0x j).length cap,.int .i64 (z1o j),.int .i64 (U1 j),.int .i64 (mo j),.int .i64 (q8x j)])/\Out 0 0 w w':=by
 refine(j4g h1 h2 w).mono ?_;rintro e w1 ⟨f,rfl,hl,ho⟩;obtain⟨ao,cap,rfl,_⟩:=j4u hl;exact⟨ao,cap,rfl,ho⟩
theorem q6v {n:Int} (h:B9 n=true):4<=n/\n<=512:=q9n (spine_iff.1 h)
theorem j3k {j:Nat} {n:Int} (h1:1<=j) (h2:j<=13):F4 j n=true ↔ U1 j<=n/\n<=mo j/\(j ≠ 12\/B9 n=true):=by
 obtain⟨r1,r2,r3,r4,r5,r6,r7,r8,r9,r10⟩:=z7s h1 h2;rw[sizeB_iff,known_iff];constructor
 ·rintro⟨_,a,b,c⟩;refine⟨?_,b,?_⟩
  ·by_cases e:j=12
   ·rw[(r8 e).1];rcases c with c | c
    ·omega
    ·exact(q6v c).1
   ·rw[r7 e];exact a
  ·rcases c with c | c
   ·left;omega
   ·exact .inr c
 ·rintro⟨a,b,c⟩;refine⟨by omega,by omega,b,?_⟩;rcases c with c | c
  ·left;omega
  ·exact .inr c
theorem z8c (k n:Int) (w:World):Calls Tryz.prog 104 #[.int .i64 k,.int .i64 n] w fun e w'=>e=.returned (.tuple #[.int .i64 (z3m k n),.bool (F4 k n)])/\Out 0 0 w w':=by
 by_cases hk:1<=k/\k<=13
 ·obtain⟨j,rfl⟩:∃ j:Nat,k=j:=⟨k.toNat,by omega⟩
  have j1:1<=j:=by omega
  have j2:j<=13:=by omega
  have H:=Z0 (j2h j1 j2);have B:=j3k (n:=n) j1 j2;have HH:=Z0 (q2r n);have RF:=z7s j1 j2;have k1:(1:Int)<=(j:Int):=by omega
  have k2:(j:Int)<=13:=by omega
  obtain⟨r1,r2,r3,r4,r5,r6,r7,r8,r9,r10⟩:=RF;by_cases ha:n<U1 j
  ·have hb:F4 j n=false:=by rw[<-Bool.not_eq_true,B];omega
   rw[z1h hb,hb];clear hk j1 j2 B hb r1 r2 r3 r5 r6 r7 r8 r9 r10;generalize (z0x j).length=L at *
   generalize z1o j=x at *
   generalize U1 j=y at *
   generalize mo j=z at *
   generalize q8x j=u at *
   go_enter Tryz.func104,Tryz.ntmps104
   go_wp2_with (first | (go_at_call 102;refine Z5 (HH.out _) ?_) | (go_at_call 103;refine(H.out _).mono ?_;rintro e w1 ⟨ao,cap,rfl,ho⟩;have HO:=Z0 ho;clear ho));go_ret2;exact⟨rfl,HO.out.alloc _⟩
  by_cases hm:mo j<n
  ·have hb:F4 j n=false:=by rw[<-Bool.not_eq_true,B];omega
   have ha':U1 j<=n:=by omega
   rw[z1h hb,hb];clear hk j1 j2 B hb r1 r2 r3 r5 r6 r7 r8 r9 ha r10;generalize (z0x j).length=L at *
   generalize z1o j=x at *
   generalize U1 j=y at *
   generalize mo j=z at *
   generalize q8x j=u at *
   go_enter Tryz.func104,Tryz.ntmps104
   go_wp2_with (first | (go_at_call 102;refine Z5 (HH.out _) ?_) | (go_at_call 103;refine(H.out _).mono ?_;rintro e w1 ⟨ao,cap,rfl,ho⟩;have HO:=Z0 ho;clear ho));go_ret2;exact⟨rfl,HO.out.alloc _⟩
  have ha':U1 j<=n:=by omega
  have hm':n<=mo j:=by omega
  by_cases h12:j=12
  ·subst h12;rw[show ((12:Nat):Int)=12 from rfl] at *;obtain⟨q1,q2,q3⟩:=r8 rfl;have hu:=r6 (by rw[q3];decide);rw[if_neg (by decide)] at hu;cases hs:B9 n
   ·have hb:F4 12 n=false:=by rw[<-Bool.not_eq_true,B,hs];simp
    rw[hs] at HH;rw[z1h hb,hb];clear hk j1 j2 B hb r1 r2 r3 r5 r6 r7 r8 r9 ha hm r4 q1 q2 q3 hu hs r10;generalize (z0x 12).length=L at *
    generalize z1o 12=x at *
    generalize U1 12=y at *
    generalize mo 12=z at *
    generalize q8x 12=u at *
    go_enter Tryz.func104,Tryz.ntmps104
    go_wp2_with (first | (go_at_call 102;refine Z5 (HH.out _) ?_) | (go_at_call 103;refine(H.out _).mono ?_;rintro e w1 ⟨ao,cap,rfl,ho⟩;have HO:=Z0 ho;clear ho));go_ret2;exact⟨rfl,HO.out.alloc _⟩
   ·have hb:F4 12 n=true:=by rw[B];exact⟨ha',hm',.inr hs⟩
    rw[hs] at HH;have HE:=Z0 (r1);rw[z0i hb,hb,r1,z1e (by decide)];have n1:n<=4096:=by omega
    have n0:0<=n:=by omega
    have h12':((12:Int) == 12)=true:=rfl;have hx:0<z1o 12:=by rw[q3];decide
    clear hk j1 j2 B hb r1 r3 r5 r6 r7 r8 r9 ha hm r4 q1 q2 q3 hs r10 HE;rw[hu] at H;generalize (z0x 12).length=L at *
    generalize z1o 12=x at *
    generalize U1 12=y at *
    generalize mo 12=z at *
    go_enter Tryz.func104,Tryz.ntmps104
    go_wp2_with (first | (go_at_call 102;refine Z5 (HH.out _) ?_) | (go_at_call 103;refine(H.out _).mono ?_;rintro e w1 ⟨ao,cap,rfl,ho⟩;have HO:=Z0 ho;clear ho));go_loopw [7,8] (fun a b wr=>∃ c:Int,0<=c/\a=.int .i64 (1+L+c)/\b=.int .i64 (c*1)/\c*1<n+1/\wr=w1.alloc (.cells #[.slice ao L cap,.int .i64 x,.int .i64 y,.int .i64 z,.int .i64 1] 142)) (fun _ b _=>(n-intOf b).toNat)
    case atStart=>exact⟨0,by decide,by simp,rfl,by omega,rfl⟩
    case round=>
     obtain⟨c,c0,rfl,rfl,c1,rfl⟩:=hrel;by_cases hc:c*1<n
     ·go_wp2;go_roundw
      case rel=>exact⟨c+1,by omega,by congr 1;omega,by congr 1;omega,by omega,trivial⟩
      case measure=>simp[intOf];omega
     ·have hc':n<=c*1:=by omega
      go_wp2;go_ret2;exact⟨z9a (by omega) rfl,HO.out.alloc _⟩
  have h12':((j:Int) == 12)=false:=by simp;omega
  have hb:F4 j n=true:=by rw[B];exact⟨ha',hm',.inl h12⟩
  have n0:0<=n:=by omega
  have n1:n<=4096:=by omega
  rw[z0i hb,hb,r1];by_cases hx:z1o j=0
  ·have hn:n=0:=by have:=r5 hx;omega
   rw[show z3u j n=0 from by unfold z3u;rw[hn];split <;> decide];clear hk j1 j2 B hb r1 r3 r5 r6 r7 r8 r9 ha hm r4 r10 h12 hn n0 n1;generalize (z0x j).length=L at *
   generalize z1o j=x at *
   generalize U1 j=y at *
   generalize mo j=z at *
   generalize q8x j=u at *
   go_enter Tryz.func104,Tryz.ntmps104
   go_wp2_with (first | (go_at_call 102;refine Z5 (HH.out _) ?_) | (go_at_call 103;refine(H.out _).mono ?_;rintro e w1 ⟨ao,cap,rfl,ho⟩;have HO:=Z0 ho;clear ho));go_ret2;exact⟨z9a (by omega) rfl,HO.out.alloc _⟩
  have hx':0<z1o j:=by omega
  have hu:=r6 hx';by_cases h4:j=4
  ·subst h4;rw[if_pos rfl] at hu;rw[show z3u ((4:Nat):Int) n=(n+7) / 8 from rfl];rw[show ((4:Nat):Int)=4 from rfl] at *;clear hk j1 j2 B hb r1 r3 r5 r6 r7 r8 r9 ha hm r4 r10 h12 hx;rw[hu] at H;generalize (z0x 4).length=L at *
   generalize z1o 4=x at *
   generalize U1 4=y at *
   generalize mo 4=z at *
   go_enter Tryz.func104,Tryz.ntmps104
   go_wp2_with (first | (go_at_call 102;refine Z5 (HH.out _) ?_) | (go_at_call 103;refine(H.out _).mono ?_;rintro e w1 ⟨ao,cap,rfl,ho⟩;have HO:=Z0 ho;clear ho));go_loopw [7,8] (fun a b wr=>∃ c:Int,0<=c/\a=.int .i64 (1+L+c)/\b=.int .i64 (c*8)/\c*8<n+8/\wr=w1.alloc (.cells #[.slice ao L cap,.int .i64 x,.int .i64 y,.int .i64 z,.int .i64 8] 142)) (fun _ b _=>(n-intOf b).toNat)
   case atStart=>exact⟨0,by decide,by simp,rfl,by omega,rfl⟩
   case round=>
    obtain⟨c,c0,rfl,rfl,c1,rfl⟩:=hrel;by_cases hc:c*8<n
    ·go_wp2;go_roundw
     case rel=>exact⟨c+1,by omega,by congr 1;omega,by congr 1;omega,by omega,trivial⟩
     case measure=>simp[intOf];omega
    ·have hc':n<=c*8:=by omega
     go_wp2;go_ret2;exact⟨z9a (by omega) rfl,HO.out.alloc _⟩
  ·rw[if_neg h4] at hu;rw[z1e (by omega)];clear hk j1 j2 B hb r1 r3 r5 r6 r7 r8 r9 ha hm r4 r10 h12 hx h4;rw[hu] at H;generalize (z0x j).length=L at *
   generalize z1o j=x at *
   generalize U1 j=y at *
   generalize mo j=z at *
   go_enter Tryz.func104,Tryz.ntmps104
   go_wp2_with (first | (go_at_call 102;refine Z5 (HH.out _) ?_) | (go_at_call 103;refine(H.out _).mono ?_;rintro e w1 ⟨ao,cap,rfl,ho⟩;have HO:=Z0 ho;clear ho));go_loopw [7,8] (fun a b wr=>∃ c:Int,0<=c/\a=.int .i64 (1+L+c)/\b=.int .i64 (c*1)/\c*1<n+1/\wr=w1.alloc (.cells #[.slice ao L cap,.int .i64 x,.int .i64 y,.int .i64 z,.int .i64 1] 142)) (fun _ b _=>(n-intOf b).toNat)
   case atStart=>exact⟨0,by decide,by simp,rfl,by omega,rfl⟩
   case round=>
    obtain⟨c,c0,rfl,rfl,c1,rfl⟩:=hrel;by_cases hc:c*1<n
    ·go_wp2;go_roundw
     case rel=>exact⟨c+1,by omega,by congr 1;omega,by congr 1;omega,by omega,trivial⟩
     case measure=>simp[intOf];omega
    ·have hc':n<=c*1:=by omega
     go_wp2;go_ret2;exact⟨z9a (by omega) rfl,HO.out.alloc _⟩
 ·have hb:F4 k n=false:=by rw[<-Bool.not_eq_true,sizeB_iff,known_iff];exact fun h=>hk h.1
  rw[z1h hb,hb];clear hb;have hk':k<1\/13<k:=by omega
  clear hk;rcases hk' with hk | hk
  all_goals
   go_enter Tryz.func104,Tryz.ntmps104
   go_wp2;go_ret2;exact⟨rfl,Out.refl _ _ _⟩
theorem q7s {s:Int} (s1:-9223372036854775808<=s) (s2:s<=9223372036854775807):B9 (wrap64 (s-1))=B9 (s-1):=by
 by_cases h:-9223372036854775808<=s-1
 ·rw[show wrap64 (s-1)=s-1 from by unfold wrap64;omega]
 ·have e:wrap64 (s-1)=9223372036854775807:=by unfold wrap64;omega
  have e2:s-1 = -9223372036854775809:=by omega
  rw[e,e2];decide
theorem q6y (w:World) (cs:Array Value) (T:TypeId) (i:Nat):(w.alloc (.cells cs T)).cell? ⟨w.heap.size,i,none⟩=cs[i]? :=by
 have h:=heap_alloc_new w (.cells cs T);simp only[World.cell?,h];simp
theorem j5l {j:Nat} (h1:1<=j) (h2:j<=13):z3m j (U1 j)=wd j+U1 j/\z3m j (mo j)=wd j+z3u j (mo j):=by
 rcases j2m h1 h2 with rfl | rfl | rfl | rfl | rfl | rfl | rfl | rfl | rfl | rfl | rfl | rfl | rfl <;> decide +kernel
theorem j5m {j:Nat} {s:Int} (h1:1<=j) (h2:j<=13):W8 j s=true ↔ (j ≠ 12\/B9 (s-1)=true)/\z3m j (U1 j)<=s/\s<=z3m j (mo j):=by
 obtain⟨r1,r2,r3,r4,r5,r6,r7,r8,r9,r10⟩:=z7s h1 h2;obtain⟨l1,l2⟩:=j5l h1 h2;rw[fitsB_iff,known_iff,l1,l2];constructor
 ·rintro⟨_,a,b,c⟩;have c':j ≠ 12\/B9 (s-1)=true:=by
   rcases c with c | c
   ·left;omega
   ·exact .inr c
  refine⟨c',?_,b⟩;by_cases e:j=12
  ·rcases c' with c' | c'
   ·exact absurd e c'
   ·have:=(q6v c').1;have:=(r8 e).1;subst e;have:wd ((12:Nat):Int)=1:=rfl;omega
  ·rw[r7 e];omega
 ·rintro⟨c,a,b⟩;refine⟨by omega,by omega,b,?_⟩;rcases c with c | c
  ·left;omega
  ·exact .inr c
theorem q5l (k s:Int) (w:World) (s1:-9223372036854775808<=s) (s2:s<=9223372036854775807):Calls Tryz.prog 55 #[.int .i64 k,.int .i64 s] w fun e w'=>e=.returned (.bool (W8 k s))/\Out 0 0 w w':=by
 by_cases hk:1<=k/\k<=13
 ·obtain⟨j,rfl⟩:∃ j:Nat,k=j:=⟨k.toNat,by omega⟩
  have j1:1<=j:=by omega
  have j2:j<=13:=by omega
  have k1:(1:Int)<=(j:Int):=by omega
  have k2:(j:Int)<=13:=by omega
  have H:=Z0 (j2h j1 j2);have B:=j5m (s:=s) j1 j2;have HH:=Z0 (q2r (wrap64 (s-1)));rw[q7s s1 s2] at HH;have HS1:=Z0 (z8c j (U1 j));have HS2:=Z0 (z8c j (mo j));obtain⟨f,hf⟩:∃ f,W8 j s=f:=⟨_,rfl⟩
  obtain⟨sb,hs⟩:∃ sb,B9 (s-1)=sb:=⟨_,rfl⟩
  rw[hf,hs] at B;rw[hs] at HH;rw[hf];obtain⟨t,ht⟩:∃ t,wrap64 (s-1)=t:=⟨_,rfl⟩
  rw[ht] at HH;clear s1 s2 hk hf hs;generalize z3m j (U1 j)=lo at *
  generalize z3m j (mo j)=hi at *
  generalize F4 j (U1 j)=b1 at *
  generalize F4 j (mo j)=b2 at *
  generalize (z0x j).length=L at *
  generalize z1o j=x at *
  generalize U1 j=y at *
  generalize mo j=z at *
  generalize q8x j=u at *
  by_cases h12:j=12
  ·subst h12;rw[show ((12:Nat):Int)=12 from rfl] at *;cases sb
   ·have:f=false:=by rw[<-Bool.not_eq_true,B];simp
    subst this;clear B j1 j2;go_enter Tryz.func55,Tryz.ntmps55
    go_wp2_with (go_at_call 102;refine Z5 (HH.out _) ?_);go_ret;exact⟨rfl,Out.refl _ _ _⟩
   ·have B':f=true ↔ lo<=s/\s<=hi:=by rw[B];simp
    have HB:=Z0 B';clear B B' j1 j2;go_enter Tryz.func55,Tryz.ntmps55
    go_wp2_with (first | (go_at_call 102;refine Z5 (HH.out _) ?_) | (go_at_call 103;refine(H.out _).mono ?_;rintro e w1 ⟨ao,cap,rfl,ho⟩;have HO:=Z0 ho;clear ho));refine(HS1.out _).mono ?_;rintro e w2 ⟨rfl,o2⟩;have c3:w2.cell? ⟨w1.heap.size,3,none⟩=some (.int .i64 z):=o2.cell (q6y _ _ _ 3) z0;have HO2:=Z0 ((HO.out.alloc _).trans o2);clear o2 HO;go_wp2_with fail;refine(HS2.out _).mono ?_;rintro e w3 ⟨rfl,o3⟩;have HO3:=Z0 (HO2.out.trans o3);clear o3 HO2 c3;go_wp2
    all_goals go_ret
    all_goals refine⟨K8 ?_,HO3.out⟩
    all_goals (have:=HB.out;rw[Bool.eq_iff_iff,this];simp;try omega)
  ·have h12':((j:Int) == 12)=false:=by simp;omega
   have B':f=true ↔ lo<=s/\s<=hi:=by rw[B];simp[h12]
   have HB:=Z0 B';clear B B' j1 j2 h12;go_enter Tryz.func55,Tryz.ntmps55
   go_wp2_with (first | (go_at_call 102;refine Z5 (HH.out _) ?_) | (go_at_call 103;refine(H.out _).mono ?_;rintro e w1 ⟨ao,cap,rfl,ho⟩;have HO:=Z0 ho;clear ho));refine(HS1.out _).mono ?_;rintro e w2 ⟨rfl,o2⟩;have c3:w2.cell? ⟨w1.heap.size,3,none⟩=some (.int .i64 z):=o2.cell (q6y _ _ _ 3) z0;have HO2:=Z0 ((HO.out.alloc _).trans o2);clear o2 HO;go_wp2_with fail;refine(HS2.out _).mono ?_;rintro e w3 ⟨rfl,o3⟩;have HO3:=Z0 (HO2.out.trans o3);clear o3 HO2 c3;go_wp2
   all_goals go_ret
   all_goals refine⟨K8 ?_,HO3.out⟩
   all_goals (have:=HB.out;rw[Bool.eq_iff_iff,this];simp;try omega)
 ·have hb:W8 k s=false:=by rw[<-Bool.not_eq_true,fitsB_iff,known_iff];exact fun h=>hk h.1
  rw[hb];clear hb;have hk':k<1\/13<k:=by omega
  clear hk;rcases hk' with hk | hk
  all_goals
   go_enter Tryz.func55,Tryz.ntmps55
   go_wp2;go_ret;exact⟨rfl,Out.refl _ _ _⟩
end Go.Proofs.YtjbbkeoolodeaabGreatDoor
