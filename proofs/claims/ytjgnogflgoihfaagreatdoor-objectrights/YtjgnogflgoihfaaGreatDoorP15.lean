import Derived.Test.YtjgnogflgoihfaaGreatDoorP14
namespace Go.Proofs.YtjgnogflgoihfaaGreatDoor
open Go.RowKit
set_option linter.unusedVariables false
set_option maxRecDepth 100000
set_option maxHeartbeats 16000000
set_option linter.unusedSimpArgs false
theorem q3n {w:World} {b bw n:Nat} {S:Nat->Int × Int × Int} (h:TblAt 144 w b bw n S) (p:Nat) (hp:p<n) (y z:Int) (hS:S p=(1,y,z)) (hg:Good n (setF S p 1)) (hpL:p+1<=n) :
  Kz 142 #[Pq b,Iz p] w fun e w'=>e=.returned (Iz 0)/\TblAt 144 w' b bw n (setF S p 1)/\Out bw (bw+1) w w':=by
 obtain⟨cap,c0,_⟩:=h.cell;have HH:=Q3 h;have HN:=Q3 h.nums;have HG:=Q3 hg;obtain⟨q0,q1,q2⟩:=h.row.page hp hS;have dD:Hid (PRow w bw n (q0q S p 0 (0,0,0))):=by rw[z4s];exact h.row
 have b0:(0:Int)<=(p:Int):=by omega
 have b1:(p:Int)<(n:Int):=by omega
 have b2:(n:Int)<=4096:=by have:=HN.out;omega
 have HC:Hid (∀ wr,Out bw (bw+1) w wr->cq wr b 0=some (Sz bw n cap)):=fun wr o=>o.cell c0 (by have:=HN.out;omega)
 clear h hS hg;go_enter Tryz.func142,Tryz.ntmps142
 go_wp2_with fail;clear q0 q1 q2 c0;go_loopw [6] (fun u wr=>∃ i:Nat,i<=1/\u=Iz i/\PRow wr bw n (q0q S p i (0,0,0))/\Out bw (bw+1) w wr) (fun u _=>1-(intOf u).toNat)
 case atStart=>exact⟨0,Nat.zero_le _,rfl,dD.out,Out.refl _ _ _⟩
 case round=>
  clear dD;obtain⟨i,i1,rfl,hr,ho⟩:=hrel;have HO:=Q3 ho;have c0:=HC.out _ ho;have a0:(0:Int)<=(i:Int):=by omega
  by_cases hi:i<1
  ·have a1:(i:Int)<(1:Int):=by omega
   obtain⟨x',y',z',hp'⟩:=z2j (q0q S p i (0,0,0) (p+i));obtain⟨q0,q1,q2⟩:=hr.page (by omega) hp';have fz0:=Row.frozen hr ((p+i)*3);have fz1:=Row.frozen hr ((p+i)*3+1);have fz2:=Row.frozen hr ((p+i)*3+2);have mR:=hr.set (p+i) 0 0 0;rw[z6k] at mR;have eH:=Q3 mR;have aI:=Q3 (ho.set3 (b:=bw) (o:=(p+i)*3) z1 (Iz 0) (Iz 0) (Iz 0));have b6:((p+i:Nat):Int)<(n:Int):=by omega
   clear hr ho hp' mR HO;go_wp2;go_roundw
   case rel=>exact⟨i+1,by omega,by go_num,eH.out,aI.out⟩
   case measure=>simp[intOf];omega
  ·have a1:(1:Int)<=(i:Int):=by omega
   have eH:Hid (PRow wr bw n (setF S p 1)):=by rw[q9b];rw[show i=1 from by omega] at hr;exact hr
   clear hr ho hi;go_wp2;go_ret;exact⟨rfl,HH.out.turn HO.out eH.out HG.out,HO.out⟩
theorem q8o {w:World} {b bw n:Nat} {S:Nat->Int × Int × Int} (h:TblAt 144 w b bw n S) (p:Nat) (hp:p<n) (y z:Int) (k:Nat) (kP:k<=16) (hz:z=(k:Int)) (hS:S p=(2,y,z)) (hg:Good n (setF S p k)) (hpL:p+k<=n) :
  Kz 142 #[Pq b,Iz p] w fun e w'=>e=.returned (Iz 0)/\TblAt 144 w' b bw n (setF S p k)/\Out bw (bw+1) w w':=by
 obtain⟨cap,c0,_⟩:=h.cell;have HH:=Q3 h;have HN:=Q3 h.nums;have HG:=Q3 hg;obtain⟨q0,q1,q2⟩:=h.row.page hp hS;have dD:Hid (PRow w bw n (q0q S p 0 (0,0,0))):=by rw[z4s];exact h.row
 have b0:(0:Int)<=(p:Int):=by omega
 have b1:(p:Int)<(n:Int):=by omega
 have b2:(n:Int)<=4096:=by have:=HN.out;omega
 have HC:Hid (∀ wr,Out bw (bw+1) w wr->cq wr b 0=some (Sz bw n cap)):=fun wr o=>o.cell c0 (by have:=HN.out;omega)
 clear h hS hg;subst hz;have b3:(k:Int)<=16:=by omega
 go_enter Tryz.func142,Tryz.ntmps142
 go_wp2_with fail;clear q0 q1 q2 c0;go_loopw [6] (fun u wr=>∃ i:Nat,i<=k/\u=Iz i/\PRow wr bw n (q0q S p i (0,0,0))/\Out bw (bw+1) w wr) (fun u _=>k-(intOf u).toNat)
 case atStart=>exact⟨0,Nat.zero_le _,rfl,dD.out,Out.refl _ _ _⟩
 case round=>
  clear dD;obtain⟨i,i1,rfl,hr,ho⟩:=hrel;have HO:=Q3 ho;have c0:=HC.out _ ho;have a0:(0:Int)<=(i:Int):=by omega
  by_cases hi:i<k
  ·have a1:(i:Int)<(k:Int):=by omega
   obtain⟨x',y',z',hp'⟩:=z2j (q0q S p i (0,0,0) (p+i));obtain⟨q0,q1,q2⟩:=hr.page (by omega) hp';have fz0:=Row.frozen hr ((p+i)*3);have fz1:=Row.frozen hr ((p+i)*3+1);have fz2:=Row.frozen hr ((p+i)*3+2);have mR:=hr.set (p+i) 0 0 0;rw[z6k] at mR;have eH:=Q3 mR;have aI:=Q3 (ho.set3 (b:=bw) (o:=(p+i)*3) z1 (Iz 0) (Iz 0) (Iz 0));have b6:((p+i:Nat):Int)<(n:Int):=by omega
   clear hr ho hp' mR HO;go_wp2;go_roundw
   case rel=>exact⟨i+1,by omega,by go_num,eH.out,aI.out⟩
   case measure=>simp[intOf];omega
  ·have a1:(k:Int)<=(i:Int):=by omega
   have eH:Hid (PRow wr bw n (setF S p k)):=by rw[q9b];rw[show i=k from by omega] at hr;exact hr
   clear hr ho hi;go_wp2;go_ret;exact⟨rfl,HH.out.turn HO.out eH.out HG.out,HO.out⟩
theorem j2u {w:World} {b bw n:Nat} {S:Nat->Int × Int × Int} (h:TblAt 144 w b bw n S) (p:Int) (hb:z6c S n p=false) :
  Kz 142 #[Pq b,Iz p] w fun e w'=>e=.returned (Iz 1)/\w'=w:=by
 obtain⟨cap,c0,_⟩:=h.cell;have hn:=h.nums;by_cases hi:inB n p=true
 ·unfold inB at hi;simp at hi;obtain⟨k,rfl⟩:∃ k:Nat,p=k:=⟨p.toNat,by omega⟩
  have e1:inB n (k:Int)=true:=by unfold inB;simp;omega
  have hk:k<n:=by omega
  have b0:(0:Int)<=(k:Int):=by omega
  have b1:(k:Int)<(n:Int):=by omega
  have b2:(n:Int)<=4096:=by omega
  unfold z6c at hb;rw[e1] at hb;rcases h.good.cases hk with e | ⟨c,_,_,e⟩ | ⟨c,_,_,_,e⟩ | e
  ·obtain⟨q0,q1,q2⟩:=h.row.page hk e;clear h hn hb e e1 hi;go_enter Tryz.func142,Tryz.ntmps142
   go_wp2;go_ret;exact⟨rfl,rfl⟩
  ·rw[show ((k:Nat):Int).toNat=k from by omega,e] at hb;simp at hb
  ·rw[show ((k:Nat):Int).toNat=k from by omega,e] at hb;simp at hb
  ·obtain⟨q0,q1,q2⟩:=h.row.page hk e;clear h hn hb e e1 hi;go_enter Tryz.func142,Tryz.ntmps142
   go_wp2;go_ret;exact⟨rfl,rfl⟩
 ·unfold inB at hi;simp at hi;have b2:(n:Int)<=4096:=by omega
  by_cases h0:0<=p
  ·have b1:(n:Int)<=p:=by omega
   clear h hn hb hi;go_enter Tryz.func142,Tryz.ntmps142
   go_wp2;go_ret;exact⟨rfl,rfl⟩
  ·have b1:p<0:=by omega
   clear h hn hb hi h0;go_enter Tryz.func142,Tryz.ntmps142
   go_wp2;go_ret;exact⟨rfl,rfl⟩
theorem z1k {w:World} {b bw n:Nat} {S:Nat->Int × Int × Int} (h:TblAt 144 w b bw n S) (p:Int) :
  Calls Tryz.prog 142 #[.pointer (some ⟨b,0,none⟩),.int .i64 p] w fun e w'=>e=.returned (.int .i64 (gvE S n p))/\TblAt 144 w' b bw n (gvS S n p)/\Out bw (bw+1) w w':=by
 unfold gvE gvS;by_cases hb:z6c S n p=true
 ·rw[if_pos hb,if_pos hb];unfold z6c inB at hb;simp at hb;obtain⟨k,rfl⟩:∃ k:Nat,p=k:=⟨p.toNat,by omega⟩
  have hk:k<n:=by omega
  have kC:(S k).1=1\/(S k).1=2:=by simpa using hb.2
  rw[show ((k:Nat):Int).toNat=k from by omega];obtain⟨l1,l2,l3,_,hc⟩:=z7a h.good hk kC;have hg:=q4v h.good hk kC;obtain⟨x,y,z,e⟩:=z2j (S k);rcases hc with ⟨c1,c2,c3⟩ | ⟨c1,c2⟩
  ·rw[c2] at hg l3 ⊢;rw[e] at c1;simp at c1;subst c1;exact q3n h k hk y z e hg l3
  ·rw[e] at c1 c2;simp at c1 c2;subst c1;rw[e] at hg l3 l2 ⊢;exact q8o h k hk y z (z6e (2,y,z)) l2 c2 e hg l3
 ·rw[if_neg hb,if_neg hb];exact(j2u h p (by simpa using hb)).mono fun e w' ⟨a,o⟩=>⟨a,by rw[o];exact h,by rw[o];exact Out.refl _ _ _⟩
def q6t (l:List Nat):List Value:=l.map (fun(x:Nat)=>Value.int .i64 (x:Int))
def YListIs (w:World) (base:Nat) (v:Value) (l:List Nat):Prop:=w.ownsRow base 3 1 v l.length (q6t l)
theorem YListIs.nil (w:World) (base:Nat):YListIs w base (.slice none 0 0) []:=World.ownsRow_nil _ _ _ _
def F9 (j:Nat):List Nat:=[[],[2,2],[2],[],[1],[1],[],[6],[3,2],[4,5],[1,8],[6,7,1,1],[],[4,5,9]].getD j []
def z1g (j:Nat):Int:=[0,0,0,2,1,0,2,0,0,0,0,2,9,0].getD j 0
def F6 (j:Nat):Int:=if j=12 then 4 else 0
def q8i (j:Nat):Int:=[0,0,0,1,8,0,1,0,0,0,0,1,1,0].getD j 0
def j3b (f:Value) (a b c d:Int):Array Value:=#[f,.int .i64 a,.int .i64 b,.int .i64 c,.int .i64 d]
theorem info5 (f:Value) (a b c d:Int):(Tryz.prog.info? 172).map (·.size)=some (j3b f a b c d).size:=by rw[show (j3b f a b c d).size=5 from rfl];kernel_rfl
theorem x2z {fn:Func} {p:Tmp} {a:Act} {w:World} {g:Nat} {f:Value} {x y z u:Int} {post:Ending->World->Prop} (hr:fn.results = #[.cell p 172]) (hp:a.tmps.getD p undef=.pointer (some ⟨g,0,none⟩))
  (hd:a.defers=[]) (hg:w.heap[g]? = some (.cells (j3b f x y z u) 172 (0,0))) (h:post (.returned (.agg (j3b f x y z u))) w):bodyPost Tryz.prog fn post Exit.ret a w:=
 bodyPost_ret (v:=.agg (j3b f x y z u)) (results_cell_row hr a.tmps _ g 172 _ (0,0) _ hp hg Tryz.underlying172 rfl (info5 f x y z u)) hd h
theorem x0j {w:World} {base n:Nat} {eT:Array Value} {l:List Nat} (h:eT.toList=q6t l) (hn:n=l.length) (hb:base<=w.heap.size) (hm:n<=1000):YListIs (w.alloc (.cells eT 3)) base (.slice (some ⟨w.heap.size,0,none⟩) n n) l:=by
 have hc:eT.size=n:=by rw[<-Array.length_toList,h,hn];simp[q6t]
 refine⟨by simp[q6t],.inr ⟨w.heap.size,n,eT,by rw[hn],hb,heap_alloc_new _ _,by omega,by unfold maxLen;omega,by omega,?_⟩⟩;rw[h,List.take_of_length_le];simp[q6t]
theorem x7w {w:World} {o o2:Obj}:((w.alloc o).alloc o2).heap[w.heap.size]? = some o:=by
 rw[heap_alloc_old _ _ _ (by simp)];exact heap_alloc_new w o
def q6w (w:World) (j:Nat) (e:Ending) (w':World):Prop:=∃ f,e=.returned (.agg (j3b f (z1g j) (F6 j) (mo j) (q8i j)))/\YListIs w' w.heap.size f (F9 j)/\Out 0 0 w w'
theorem x1l {w:World} {a:Act} {eT:Array Value} {n j:Nat} {x y z u:Int} (hp:a.tmps.getD 2 undef=.pointer (some ⟨w.heap.size,0,none⟩)) (hd:a.defers=[]) (hc:eT.toList=q6t (F9 j)) (hn:n=(F9 j).length) (hm:n<=1000)
  (h1:x=z1g j) (h2:y=F6 j) (h3:z=mo j) (h4:u=q8i j) :
  bodyPost Tryz.prog Tryz.f113 (q6w w j) Exit.ret a ((w.alloc (.cells (j3b (.slice (some ⟨w.heap.size+1,0,none⟩) n n) x y z u) 172)).alloc (.cells eT 3)):=by
 subst h1 h2 h3 h4;refine x2z Tryz.results113 hp hd x7w ⟨_,rfl,?_,((Out.refl _ _ _).alloc _).alloc _⟩;have:=x0j (w:=w.alloc (.cells (j3b (.slice (some ⟨w.heap.size+1,0,none⟩) n n) (z1g j) (F6 j) (mo j) (q8i j)) 172)) (base:=w.heap.size) hc hn (by simp) hm;simpa using this
theorem x1k {w:World} {a:Act} {j:Nat} {x y z u:Int} (hp:a.tmps.getD 2 undef=.pointer (some ⟨w.heap.size,0,none⟩)) (hd:a.defers=[]) (hc:F9 j=[])
  (h1:x=z1g j) (h2:y=F6 j) (h3:z=mo j) (h4:u=q8i j) :
  bodyPost Tryz.prog Tryz.f113 (q6w w j) Exit.ret a (w.alloc (.cells (j3b (.slice none 0 0) x y z u) 172)):=by
 subst h1 h2 h3 h4;refine x2z Tryz.results113 hp hd (heap_alloc_new _ _) ⟨_,rfl,?_,(Out.refl _ _ _).alloc _⟩;rw[hc];exact YListIs.nil _ _
theorem j1l {j:Nat} (h1:1<=j) (h2:j<=13) (w:World):Kz 113 #[Iz j] w (q6w w j):=by
 rcases q2x h1 h2 with rfl | rfl | rfl | rfl | rfl | rfl | rfl | rfl | rfl | rfl | rfl | rfl | rfl
 all_goals
  clear h1 h2;first | rw[show ((1:Nat):Int)=1 from rfl] | rw[show ((2:Nat):Int)=2 from rfl] | rw[show ((3:Nat):Int)=3 from rfl] | rw[show ((4:Nat):Int)=4 from rfl] | rw[show ((5:Nat):Int)=5 from rfl] | rw[show ((6:Nat):Int)=6 from rfl] | rw[show ((7:Nat):Int)=7 from rfl] | rw[show ((8:Nat):Int)=8 from rfl] | rw[show ((9:Nat):Int)=9 from rfl] | rw[show ((10:Nat):Int)=10 from rfl] | rw[show ((11:Nat):Int)=11 from rfl] | rw[show ((12:Nat):Int)=12 from rfl] | rw[show ((13:Nat):Int)=13 from rfl]
  go_enter Tryz.func113,Tryz.ntmps113
  go_wp2;first
  | exact x1l rfl rfl rfl rfl (by decide) rfl rfl rfl rfl
  | exact x1k rfl rfl rfl rfl rfl rfl rfl
def j8q (y:Int):Prop:=y=4\/y=8\/y=16\/y=32\/y=64\/y=128\/y=256\/y=512
theorem j6w {y:Int} (h:j8q y):4<=y/\y<=512:=by unfold j8q at h;omega
theorem j6x {y:Int} (h:j8q y) (h2:y<512):j8q (y+y):=by unfold j8q at *;omega
theorem spine_iff {n:Int}:z0m n=true ↔ j8q n:=by unfold z0m j8q;simp[or_assoc]
theorem j7y (n y:Int) (h:j8q y) (h2:n<=y\/512<=y) (h3:y=4\/y<n*2):(y == n)=z0m n:=by
 rw[Bool.eq_iff_iff,spine_iff,beq_iff_eq];unfold j8q at *;omega
theorem q4x (n:Int) (w:World):Kz 114 #[Iz n] w fun e w'=>e=.returned (.bool (z0m n))/\w'=w:=by
 have E:=Q3 (j7y n);generalize z0m n=b at *
 go_enter Tryz.func114,Tryz.ntmps114
 go_wp2;go_loopw [3] (fun x wr=>∃ y:Int,x=Iz y/\j8q y/\(y=4\/y<n*2)/\wr=w) (fun x _=>(512-intOf x).toNat)
 case atStart=>exact⟨4,rfl,.inl rfl,.inl rfl,rfl⟩
 case round=>
  obtain⟨y,rfl,hp,hy,rfl⟩:=hrel;obtain⟨p1,p2⟩:=j6w hp;have HP:=Q3 hp;clear hp;by_cases h1:y<n
  ·by_cases h2:y<512
   ·go_wp2;go_roundw
    case rel=>exact⟨y+y,rfl,j6x HP.out h2,.inr (by omega),trivial⟩
    case measure=>simp[intOf];omega
   ·have hr:=E.out y HP.out (by omega) hy;go_wp2;go_ret;exact⟨rfl,rfl⟩
  ·have hr:=E.out y HP.out (by omega) hy;go_wp2;go_ret;exact⟨rfl,rfl⟩
theorem j0s {w:World} {v:Value} {base:Nat} {l:List Nat} (h:YListIs w base v l) :
  ∃ a cap,v=.slice a l.length cap/\(0<l.length->∃ g,a=some ⟨g,0,none⟩/\base<=g/\g<w.heap.size/\∀ i (hi:i<l.length),w.cell? ⟨g,i,none⟩=some (.int .i64 (l[i]:Nat))):=by
 obtain⟨cJ,kQ⟩:=h;rcases kQ with ⟨hv,h0⟩ | ⟨g,eD,eT,rfl,hg1,pP,hg3,hg4,hg5,hg6⟩
 ·exact⟨none,0,by rw[hv,h0],fun h=>by omega⟩
 ·refine⟨_,_,rfl,fun _=>⟨g,rfl,hg1,Q8 pP,fun i hi=>?_⟩⟩;have e:(eT.toList.take (l.length*1))[i]? = (q6t l)[i]? :=by rw[hg6]
  simp[q6t,hi] at e;simp[World.cell?,pP,e]
theorem z3k {j:Nat} (h1:1<=j) (h2:j<=13):wd j=1+(F9 j).length/\(F9 j).length<=4/\0<=z1g j/\0<=F6 j/\(z1g j=0->mo j=0/\F6 j=0)/\(0<z1g j->q8i j=if j=4 then 8 else 1)/\(j ≠ 12->F6 j=0)/\(j=12->F6 j=4/\mo j=512/\z1g j=9)/\(j=4->z1g j=1)/\mo j<=4096:=by
 rcases q2x h1 h2 with rfl | rfl | rfl | rfl | rfl | rfl | rfl | rfl | rfl | rfl | rfl | rfl | rfl <;> decide
theorem j7p {j:Nat} (h1:1<=j) (h2:j<=13) (w:World):Calls Tryz.prog 113 #[.int .i64 j] w fun e w'=>∃ ao cap,e=.returned (.agg #[.slice ao (F9 j).length cap,.int .i64 (z1g j),.int .i64 (F6 j),.int .i64 (mo j),.int .i64 (q8i j)])/\Out 0 0 w w':=by
 refine(j1l h1 h2 w).mono ?_;rintro e w1 ⟨f,rfl,hl,ho⟩;obtain⟨ao,cap,rfl,_⟩:=j0s hl;exact⟨ao,cap,rfl,ho⟩
theorem j1c {n:Int} (h:z0m n=true):4<=n/\n<=512:=j6w (spine_iff.1 h)
theorem x1i {j:Nat} {n:Int} (h1:1<=j) (h2:j<=13):U9 j n=true ↔ F6 j<=n/\n<=mo j/\(j ≠ 12\/z0m n=true):=by
 obtain⟨r1,r2,r3,r4,r5,r6,r7,r8,r9,r10⟩:=z3k h1 h2;rw[sizeB_iff,known_iff];constructor
 ·rintro⟨_,a,b,c⟩;refine⟨?_,b,?_⟩
  ·by_cases e:j=12
   ·rw[(r8 e).1];rcases c with c | c
    ·omega
    ·exact(j1c c).1
   ·rw[r7 e];exact a
  ·rcases c with c | c
   ·left;omega
   ·exact .inr c
 ·rintro⟨a,b,c⟩;refine⟨by omega,by omega,b,?_⟩;rcases c with c | c
  ·left;omega
  ·exact .inr c
theorem G7 (k n:Int) (w:World):Kz 58 #[Iz k,Iz n] w fun e w'=>e=.returned (.tuple #[Iz (U2 k n),.bool (U9 k n)])/\Out 0 0 w w':=by
 by_cases hk:1<=k/\k<=13
 ·obtain⟨j,rfl⟩:∃ j:Nat,k=j:=⟨k.toNat,by omega⟩
  have j1:1<=j:=by omega
  have j2:j<=13:=by omega
  have H:=Q3 (j7p j1 j2);have B:=x1i (n:=n) j1 j2;have HH:=Q3 (q4x n);have RF:=z3k j1 j2;have k1:(1:Int)<=(j:Int):=by omega
  have k2:(j:Int)<=13:=by omega
  obtain⟨r1,r2,r3,r4,r5,r6,r7,r8,r9,r10⟩:=RF;by_cases ha:n<F6 j
  ·have hb:U9 j n=false:=by rw[<-Bool.not_eq_true,B];omega
   rw[z2u hb,hb];clear hk j1 j2 B hb r1 r2 r3 r5 r6 r7 r8 r9 r10;generalize (F9 j).length=L at *
   generalize z1g j=x at *
   generalize F6 j=y at *
   generalize mo j=z at *
   generalize q8i j=u at *
   go_enter Tryz.func58,Tryz.ntmps58
   go_wp2_with (first | (go_at_call 114;refine Q4 (HH.out _) ?_) | (go_at_call 113;refine(H.out _).mono ?_;rintro e w1 ⟨ao,cap,rfl,ho⟩;have HO:=Q3 ho;clear ho));go_ret2;exact⟨rfl,HO.out.alloc _⟩
  by_cases hm:mo j<n
  ·have hb:U9 j n=false:=by rw[<-Bool.not_eq_true,B];omega
   have ha':F6 j<=n:=by omega
   rw[z2u hb,hb];clear hk j1 j2 B hb r1 r2 r3 r5 r6 r7 r8 r9 ha r10;generalize (F9 j).length=L at *
   generalize z1g j=x at *
   generalize F6 j=y at *
   generalize mo j=z at *
   generalize q8i j=u at *
   go_enter Tryz.func58,Tryz.ntmps58
   go_wp2_with (first | (go_at_call 114;refine Q4 (HH.out _) ?_) | (go_at_call 113;refine(H.out _).mono ?_;rintro e w1 ⟨ao,cap,rfl,ho⟩;have HO:=Q3 ho;clear ho));go_ret2;exact⟨rfl,HO.out.alloc _⟩
  have ha':F6 j<=n:=by omega
  have hm':n<=mo j:=by omega
  by_cases h12:j=12
  ·subst h12;rw[show ((12:Nat):Int)=12 from rfl] at *;obtain⟨q1,q2,q3⟩:=r8 rfl;have hu:=r6 (by rw[q3];decide);rw[if_neg (by decide)] at hu;cases hs:z0m n
   ·have hb:U9 12 n=false:=by rw[<-Bool.not_eq_true,B,hs];simp
    rw[hs] at HH;rw[z2u hb,hb];clear hk j1 j2 B hb r1 r2 r3 r5 r6 r7 r8 r9 ha hm r4 q1 q2 q3 hu hs r10;generalize (F9 12).length=L at *
    generalize z1g 12=x at *
    generalize F6 12=y at *
    generalize mo 12=z at *
    generalize q8i 12=u at *
    go_enter Tryz.func58,Tryz.ntmps58
    go_wp2_with (first | (go_at_call 114;refine Q4 (HH.out _) ?_) | (go_at_call 113;refine(H.out _).mono ?_;rintro e w1 ⟨ao,cap,rfl,ho⟩;have HO:=Q3 ho;clear ho));go_ret2;exact⟨rfl,HO.out.alloc _⟩
   ·have hb:U9 12 n=true:=by rw[B];exact⟨ha',hm',.inr hs⟩
    rw[hs] at HH;have HE:=Q3 (r1);rw[z1t hb,hb,r1,z3e (by decide)];have n1:n<=4096:=by omega
    have n0:0<=n:=by omega
    have h12':((12:Int) == 12)=true:=rfl;have hx:0<z1g 12:=by rw[q3];decide
    clear hk j1 j2 B hb r1 r3 r5 r6 r7 r8 r9 ha hm r4 q1 q2 q3 hs r10 HE;rw[hu] at H;generalize (F9 12).length=L at *
    generalize z1g 12=x at *
    generalize F6 12=y at *
    generalize mo 12=z at *
    go_enter Tryz.func58,Tryz.ntmps58
    go_wp2_with (first | (go_at_call 114;refine Q4 (HH.out _) ?_) | (go_at_call 113;refine(H.out _).mono ?_;rintro e w1 ⟨ao,cap,rfl,ho⟩;have HO:=Q3 ho;clear ho));go_loopw [7,8] (fun a b wr=>∃ c:Int,0<=c/\a=Iz (1+L+c)/\b=Iz (c*1)/\c*1<n+1/\wr=w1.alloc (.cells #[.slice ao L cap,Iz x,Iz y,Iz z,Iz 1] 172)) (fun _ b _=>(n-intOf b).toNat)
    case atStart=>exact⟨0,by decide,by simp,rfl,by omega,rfl⟩
    case round=>
     obtain⟨c,c0,rfl,rfl,c1,rfl⟩:=hrel;by_cases hc:c*1<n
     ·go_wp2;go_roundw
      case rel=>exact⟨c+1,by omega,by congr 1;omega,by congr 1;omega,by omega,trivial⟩
      case measure=>simp[intOf];omega
     ·have hc':n<=c*1:=by omega
      go_wp2;go_ret2;exact⟨q0h (by omega) rfl,HO.out.alloc _⟩
  have h12':((j:Int) == 12)=false:=by simp;omega
  have hb:U9 j n=true:=by rw[B];exact⟨ha',hm',.inl h12⟩
  have n0:0<=n:=by omega
  have n1:n<=4096:=by omega
  rw[z1t hb,hb,r1];by_cases hx:z1g j=0
  ·have hn:n=0:=by have:=r5 hx;omega
   rw[show z3p j n=0 from by unfold z3p;rw[hn];split <;> decide];clear hk j1 j2 B hb r1 r3 r5 r6 r7 r8 r9 ha hm r4 r10 h12 hn n0 n1;generalize (F9 j).length=L at *
   generalize z1g j=x at *
   generalize F6 j=y at *
   generalize mo j=z at *
   generalize q8i j=u at *
   go_enter Tryz.func58,Tryz.ntmps58
   go_wp2_with (first | (go_at_call 114;refine Q4 (HH.out _) ?_) | (go_at_call 113;refine(H.out _).mono ?_;rintro e w1 ⟨ao,cap,rfl,ho⟩;have HO:=Q3 ho;clear ho));go_ret2;exact⟨q0h (by omega) rfl,HO.out.alloc _⟩
  have hx':0<z1g j:=by omega
  have hu:=r6 hx';by_cases h4:j=4
  ·subst h4;rw[if_pos rfl] at hu;rw[show z3p ((4:Nat):Int) n=(n+7) / 8 from rfl];rw[show ((4:Nat):Int)=4 from rfl] at *;clear hk j1 j2 B hb r1 r3 r5 r6 r7 r8 r9 ha hm r4 r10 h12 hx;rw[hu] at H;generalize (F9 4).length=L at *
   generalize z1g 4=x at *
   generalize F6 4=y at *
   generalize mo 4=z at *
   go_enter Tryz.func58,Tryz.ntmps58
   go_wp2_with (first | (go_at_call 114;refine Q4 (HH.out _) ?_) | (go_at_call 113;refine(H.out _).mono ?_;rintro e w1 ⟨ao,cap,rfl,ho⟩;have HO:=Q3 ho;clear ho));go_loopw [7,8] (fun a b wr=>∃ c:Int,0<=c/\a=Iz (1+L+c)/\b=Iz (c*8)/\c*8<n+8/\wr=w1.alloc (.cells #[.slice ao L cap,Iz x,Iz y,Iz z,Iz 8] 172)) (fun _ b _=>(n-intOf b).toNat)
   case atStart=>exact⟨0,by decide,by simp,rfl,by omega,rfl⟩
   case round=>
    obtain⟨c,c0,rfl,rfl,c1,rfl⟩:=hrel;by_cases hc:c*8<n
    ·go_wp2;go_roundw
     case rel=>exact⟨c+1,by omega,by congr 1;omega,by congr 1;omega,by omega,trivial⟩
     case measure=>simp[intOf];omega
    ·have hc':n<=c*8:=by omega
     go_wp2;go_ret2;exact⟨q0h (by omega) rfl,HO.out.alloc _⟩
  ·rw[if_neg h4] at hu;rw[z3e (by omega)];clear hk j1 j2 B hb r1 r3 r5 r6 r7 r8 r9 ha hm r4 r10 h12 hx h4;rw[hu] at H;generalize (F9 j).length=L at *
   generalize z1g j=x at *
   generalize F6 j=y at *
   generalize mo j=z at *
   go_enter Tryz.func58,Tryz.ntmps58
   go_wp2_with (first | (go_at_call 114;refine Q4 (HH.out _) ?_) | (go_at_call 113;refine(H.out _).mono ?_;rintro e w1 ⟨ao,cap,rfl,ho⟩;have HO:=Q3 ho;clear ho));go_loopw [7,8] (fun a b wr=>∃ c:Int,0<=c/\a=Iz (1+L+c)/\b=Iz (c*1)/\c*1<n+1/\wr=w1.alloc (.cells #[.slice ao L cap,Iz x,Iz y,Iz z,Iz 1] 172)) (fun _ b _=>(n-intOf b).toNat)
   case atStart=>exact⟨0,by decide,by simp,rfl,by omega,rfl⟩
   case round=>
    obtain⟨c,c0,rfl,rfl,c1,rfl⟩:=hrel;by_cases hc:c*1<n
    ·go_wp2;go_roundw
     case rel=>exact⟨c+1,by omega,by congr 1;omega,by congr 1;omega,by omega,trivial⟩
     case measure=>simp[intOf];omega
    ·have hc':n<=c*1:=by omega
     go_wp2;go_ret2;exact⟨q0h (by omega) rfl,HO.out.alloc _⟩
 ·have hb:U9 k n=false:=by rw[<-Bool.not_eq_true,sizeB_iff,known_iff];exact fun h=>hk h.1
  rw[z2u hb,hb];clear hb;have hk':k<1\/13<k:=by omega
  clear hk;rcases hk' with hk | hk
  all_goals
   go_enter Tryz.func58,Tryz.ntmps58
   go_wp2;go_ret2;exact⟨rfl,Out.refl _ _ _⟩
theorem j3g {s:Int} (s1:-9223372036854775808<=s) (s2:s<=9223372036854775807):z0m (wrap64 (s-1))=z0m (s-1):=by
 by_cases h:-9223372036854775808<=s-1
 ·rw[show wrap64 (s-1)=s-1 from by unfold wrap64;omega]
 ·have e:wrap64 (s-1)=9223372036854775807:=by unfold wrap64;omega
  have e2:s-1 = -9223372036854775809:=by omega
  rw[e,e2];decide
theorem j0o (w:World) (cs:Array Value) (T:TypeId) (i:Nat):(w.alloc (.cells cs T)).cell? ⟨w.heap.size,i,none⟩=cs[i]? :=by
 have h:=heap_alloc_new w (.cells cs T);simp only[World.cell?,h];simp
theorem x0l {j:Nat} (h1:1<=j) (h2:j<=13):U2 j (F6 j)=wd j+F6 j/\U2 j (mo j)=wd j+z3p j (mo j):=by
 rcases q2x h1 h2 with rfl | rfl | rfl | rfl | rfl | rfl | rfl | rfl | rfl | rfl | rfl | rfl | rfl <;> decide +kernel
theorem x1h {j:Nat} {s:Int} (h1:1<=j) (h2:j<=13):F4 j s=true ↔ (j ≠ 12\/z0m (s-1)=true)/\U2 j (F6 j)<=s/\s<=U2 j (mo j):=by
 obtain⟨r1,r2,r3,r4,r5,r6,r7,r8,r9,r10⟩:=z3k h1 h2;obtain⟨l1,l2⟩:=x0l h1 h2;rw[fitsB_iff,known_iff,l1,l2];constructor
 ·rintro⟨_,a,b,c⟩;have c':j ≠ 12\/z0m (s-1)=true:=by
   rcases c with c | c
   ·left;omega
   ·exact .inr c
  refine⟨c',?_,b⟩;by_cases e:j=12
  ·rcases c' with c' | c'
   ·exact absurd e c'
   ·have:=(j1c c').1;have:=(r8 e).1;subst e;have:wd ((12:Nat):Int)=1:=rfl;omega
  ·rw[r7 e];omega
 ·rintro⟨c,a,b⟩;refine⟨by omega,by omega,b,?_⟩;rcases c with c | c
  ·left;omega
  ·exact .inr c
theorem q0d (k s:Int) (w:World) (s1:-9223372036854775808<=s) (s2:s<=9223372036854775807):Kz 115 #[Iz k,Iz s] w fun e w'=>e=.returned (.bool (F4 k s))/\Out 0 0 w w':=by
 by_cases hk:1<=k/\k<=13
 ·obtain⟨j,rfl⟩:∃ j:Nat,k=j:=⟨k.toNat,by omega⟩
  have j1:1<=j:=by omega
  have j2:j<=13:=by omega
  have k1:(1:Int)<=(j:Int):=by omega
  have k2:(j:Int)<=13:=by omega
  have H:=Q3 (j7p j1 j2);have B:=x1h (s:=s) j1 j2;have HH:=Q3 (q4x (wrap64 (s-1)));rw[j3g s1 s2] at HH;have mG:=Q3 (G7 j (F6 j));have kZ:=Q3 (G7 j (mo j));obtain⟨f,hf⟩:∃ f,F4 j s=f:=⟨_,rfl⟩
  obtain⟨sb,hs⟩:∃ sb,z0m (s-1)=sb:=⟨_,rfl⟩
  rw[hf,hs] at B;rw[hs] at HH;rw[hf];obtain⟨t,ht⟩:∃ t,wrap64 (s-1)=t:=⟨_,rfl⟩
  rw[ht] at HH;clear s1 s2 hk hf hs;generalize U2 j (F6 j)=lo at *
  generalize U2 j (mo j)=hi at *
  generalize U9 j (F6 j)=b1 at *
  generalize U9 j (mo j)=b2 at *
  generalize (F9 j).length=L at *
  generalize z1g j=x at *
  generalize F6 j=y at *
  generalize mo j=z at *
  generalize q8i j=u at *
  by_cases h12:j=12
  ·subst h12;rw[show ((12:Nat):Int)=12 from rfl] at *;cases sb
   ·have:f=false:=by rw[<-Bool.not_eq_true,B];simp
    subst this;clear B j1 j2;go_enter Tryz.func115,Tryz.ntmps115
    go_wp2_with (go_at_call 114;refine Q4 (HH.out _) ?_);go_ret;exact⟨rfl,Out.refl _ _ _⟩
   ·have B':f=true ↔ lo<=s/\s<=hi:=by rw[B];simp
    have HB:=Q3 B';clear B B' j1 j2;go_enter Tryz.func115,Tryz.ntmps115
    go_wp2_with (first | (go_at_call 114;refine Q4 (HH.out _) ?_) | (go_at_call 113;refine(H.out _).mono ?_;rintro e w1 ⟨ao,cap,rfl,ho⟩;have HO:=Q3 ho;clear ho));refine(mG.out _).mono ?_;rintro e w2 ⟨rfl,o2⟩;have c3:cq w2 w1.heap.size 3=some (Iz z):=o2.cell (j0o _ _ _ 3) z0;have aI:=Q3 ((HO.out.alloc _).trans o2);clear o2 HO;go_wp2_with fail;refine(kZ.out _).mono ?_;rintro e w3 ⟨rfl,o3⟩;have bQ:=Q3 (aI.out.trans o3);clear o3 aI c3;go_wp2
    all_goals go_ret
    all_goals refine⟨B7 ?_,bQ.out⟩
    all_goals (have:=HB.out;rw[Bool.eq_iff_iff,this];simp;try omega)
  ·have h12':((j:Int) == 12)=false:=by simp;omega
   have B':f=true ↔ lo<=s/\s<=hi:=by rw[B];simp[h12]
   have HB:=Q3 B';clear B B' j1 j2 h12;go_enter Tryz.func115,Tryz.ntmps115
   go_wp2_with (first | (go_at_call 114;refine Q4 (HH.out _) ?_) | (go_at_call 113;refine(H.out _).mono ?_;rintro e w1 ⟨ao,cap,rfl,ho⟩;have HO:=Q3 ho;clear ho));refine(mG.out _).mono ?_;rintro e w2 ⟨rfl,o2⟩;have c3:cq w2 w1.heap.size 3=some (Iz z):=o2.cell (j0o _ _ _ 3) z0;have aI:=Q3 ((HO.out.alloc _).trans o2);clear o2 HO;go_wp2_with fail;refine(kZ.out _).mono ?_;rintro e w3 ⟨rfl,o3⟩;have bQ:=Q3 (aI.out.trans o3);clear o3 aI c3;go_wp2
   all_goals go_ret
   all_goals refine⟨B7 ?_,bQ.out⟩
   all_goals (have:=HB.out;rw[Bool.eq_iff_iff,this];simp;try omega)
 ·have hb:F4 k s=false:=by rw[<-Bool.not_eq_true,fitsB_iff,known_iff];exact fun h=>hk h.1
  rw[hb];clear hb;have hk':k<1\/13<k:=by omega
  clear hk;rcases hk' with hk | hk
  all_goals
   go_enter Tryz.func115,Tryz.ntmps115
   go_wp2;go_ret;exact⟨rfl,Out.refl _ _ _⟩
theorem j2e {j i:Nat} (h1:1<=j) (h2:j<=13) (i1:1<=i) (i2:i-1<(F9 j).length):(((F9 j)[i-1]:Nat):Int)=z4d j i:=by
 have hl:=(z3k h1 h2).2.1;have hi:i=1\/i=2\/i=3\/i=4:=by omega
 rcases q2x h1 h2 with rfl | rfl | rfl | rfl | rfl | rfl | rfl | rfl | rfl | rfl | rfl | rfl | rfl <;> rcases hi with rfl | rfl | rfl | rfl <;> first | rfl | (revert i2;decide)
theorem j7h {j i:Nat} (h1:1<=j) (h2:j<=13) (i1:(F9 j).length<i) (hr:z1g j ≠ 0):z1g j=z4d j i:=by
 rcases q2x h1 h2 with rfl | rfl | rfl | rfl | rfl | rfl | rfl | rfl | rfl | rfl | rfl | rfl | rfl <;> first | (exact absurd rfl hr) | rfl | skip
 simp[F9] at i1;unfold z4d q1j;simp[z1g];have q1:(i:Int) ≠ 2:=by omega
 have q2:(i:Int) ≠ 3:=by omega
 have q3:(i:Int) ≠ 4:=by omega
 have q4:(1:Int)<(i:Int):=by omega
 simp[q1,q2,q3];omega
theorem j5k {j i:Nat} {s:Int} (h1:1<=j) (h2:j<=13) (hf:F4 j s=true) (i1:(F9 j).length<i) (i2:(i:Int)<s):z1g j ≠ 0:=by
 obtain⟨r1,r2,r3,r4,r5,r6,r7,r8,r9,r10⟩:=z3k h1 h2;obtain⟨_,a,b,c⟩:=fitsB_iff.1 hf;intro h;have m:=(r5 h).1;rw[m] at b;have:z3p (j:Int) 0=0:=by unfold z3p;split <;> decide
 omega
theorem B6 (k s i:Int) (w:World) (s1:-9223372036854775808<=s) (s2:s<=9223372036854775807) :
  Kz 62 #[Iz k,Iz s,Iz i] w fun e w'=>e=.returned (Iz (J9 k s i))/\Out 0 0 w w':=by
 have HF:=Q3 (fun w=>q0d k s w s1 s2);clear s1 s2;cases hf:F4 k s
 ·rw[hf] at HF;have e:J9 k s i=0:=by unfold J9;rw[hf];simp
  rw[e];clear e hf;go_enter Tryz.func62,Tryz.ntmps62
  go_wp2_with (go_at_call 115;refine(HF.out _).mono ?_;rintro e w1 ⟨rfl,ho⟩);go_ret;exact⟨rfl,ho⟩
 rw[hf] at HF;by_cases hi:1<=i/\i<s
 ·obtain⟨i1,i2⟩:=hi;have e:J9 k s i=z4d k i:=by unfold J9;rw[if_pos ⟨hf,i1,i2⟩]
  rw[e];obtain⟨hk,_⟩:=fitsB_iff.1 hf;obtain⟨j,rfl,j1,j2⟩:=z3d hk;obtain⟨p,rfl⟩:∃ p:Nat,i=p:=⟨i.toNat,by omega⟩
  have p1:1<=p:=by omega
  have HR:=Q3 (j1l j1 j2);have F1:=Q3 (fun h=>j2e j1 j2 p1 h);have F2:=Q3 (fun h=>j7h j1 j2 h (j5k j1 j2 hf h i2));obtain⟨pp,hpp⟩:∃ pp:Nat,p=pp+1:=⟨p-1,by omega⟩
  subst hpp;clear e hf hk;generalize z4d j ((pp+1:Nat):Int)=ro at *
  go_enter Tryz.func62,Tryz.ntmps62
  go_wp2_with (go_at_call 115;refine(HF.out _).mono ?_;rintro e w1 ⟨rfl,ho⟩);refine(HR.out _).mono ?_;rintro e w2 ⟨f,rfl,hl,gN⟩;obtain⟨ao,cap,rfl,mI⟩:=j0s hl;have HO:=Q3 ((ho.trans gN).alloc (.cells (j3b (.slice ao (F9 j).length cap) (z1g j) (F6 j) (mo j) (q8i j)) 172));by_cases hp:pp<(F9 j).length
  ·obtain⟨g,rfl,g1,g2,g3⟩:=mI (by omega);have hc:=((Out.refl 0 0 w2).alloc (.cells (j3b (Sz g (F9 j).length cap) (z1g j) (F6 j) (mo j) (q8i j)) 172)).cell (g3 pp hp) z0;have e1:(((F9 j)[pp]'hp:Nat):Int)=ro:=F1.out hp;rw[e1] at hc;clear e1;have b1:(pp:Int)<((F9 j).length:Int):=by omega
   have b2:((F9 j).length:Int)<=4:=by have:=(z3k j1 j2).2.1;omega
   have b0:(0:Int)<=(pp:Int):=by omega
   clear hl g3 mI ho gN F1 F2 HR HF;generalize (F9 j).length=L at *
   generalize z1g j=x at *
   generalize F6 j=y at *
   generalize mo j=z at *
   generalize q8i j=u at *
   unfold j3b at *;go_wp2;go_ret;exact⟨rfl,HO.out⟩
  ·have e2:=F2.out (by omega);have b1:((F9 j).length:Int)<=(pp:Int):=by omega
   rw[e2] at HO ⊢;clear hl mI ho gN F1 F2 HR HF e2;generalize (F9 j).length=L at *
   generalize F6 j=y at *
   generalize mo j=z at *
   generalize q8i j=u at *
   unfold j3b at *;go_wp2;go_ret;exact⟨rfl,HO.out⟩
 ·have e:J9 k s i=0:=by unfold J9;rw[if_neg (fun h=>hi h.2)]
  rw[e];have bV:i<1\/(1<=i/\s<=i):=by omega
  clear e hf hi;rcases bV with h | ⟨h,h'⟩
  all_goals
   go_enter Tryz.func62,Tryz.ntmps62
   go_wp2_with (go_at_call 115;refine(HF.out _).mono ?_;rintro e w1 ⟨rfl,ho⟩);go_ret;exact⟨rfl,ho⟩
def obC (st:Sp) (j:Nat):Int:=
 if Y9 (st.O (j / 5)) then (if j % 5=0 then ((j / 5:Nat):Int) else if j % 5=1 then (st.O (j / 5)).1 else if j % 5=2 then (st.O (j / 5)).2.1 else if j % 5=3 then (st.O (j / 5)).2.2.1 else (st.O (j / 5)).2.2.2) else 0
structure RfAt (w:World) (lo hi:Nat) (s:Nat->Nat) (n cw co:Nat) (st:Sp):Prop where
 n1:1<=n
 n2:n<=4096
 top:hi<=w.heap.size
 glob:4<=lo
 inn:∀ i,i<5->lo<=s i/\s i<hi
 ne:∀ i j,i<5->j<5->s i=s j->i=j
 box:w.heap[s 0]? = some (.cells #[.slice (some ⟨s 1,0,none⟩) (64*n) cw,.pointer (some ⟨s 2,0,none⟩),.slice (some ⟨s 4,0,none⟩) (64*n) co,.int .i64 st.last] 107 (0,0))
 rw:Row w (s 1) 3 (64*n) (fun j=>.int .i64 (st.W j))
 rt:TblAt 144 w (s 2) (s 3) n st.S
 ro:Row w (s 4) 81 (64*n*5) (fun j=>.int .i64 (obC st j))
section
variable {w w':World} {lo hi n cw co:Nat} {s:Nat->Nat} {st:Sp}
theorem RfAt.kept {x y:Nat} (h:RfAt w lo hi s n cw co st) (o:Out x y w w') (hd:hi<=x\/y<=lo):RfAt w' lo hi s n cw co st:=
 have f:∀ i,i<5->s i<x\/y<=s i:=fun i hi=>by have:=h.inn i hi;omega
 ⟨h.n1,h.n2,Nat.le_trans h.top o.size,h.glob,h.inn,h.ne,o.heap h.box (f 0 (by omega)),h.rw.kept o (f 1 (by omega)),h.rt.kept o (f 2 (by omega)) (f 3 (by omega)),h.ro.kept o (f 4 (by omega))⟩
theorem RfAt.quiet (h:RfAt w lo hi s n cw co st) (o:Out 0 0 w w'):RfAt w' lo hi s n cw co st:=h.kept o z0
theorem RfAt.cells (h:RfAt w lo hi s n cw co st):w.cell? ⟨s 0,0,none⟩=some (.slice (some ⟨s 1,0,none⟩) (64*n) cw)/\w.cell? ⟨s 0,1,none⟩=some (.pointer (some ⟨s 2,0,none⟩))/\w.cell? ⟨s 0,2,none⟩=some (.slice (some ⟨s 4,0,none⟩) (64*n) co)/\w.cell? ⟨s 0,3,none⟩=some (.int .i64 st.last)/\∀ j,w.frozen? ⟨s 0,j,none⟩=false:=by
 refine⟨?_,?_,?_,?_,fun j=>?_⟩ <;> simp[World.cell?,World.frozen?,h.box]
theorem RfAt.setW (h:RfAt w lo hi s n cw co st) {a:Nat} (ha:a<64*n) (x:Int):RfAt (w.setCell ⟨s 1,a,none⟩ (.int .i64 x)) lo hi s n cw co { st with W:=z3a st.W a x }/\Out lo hi w (w.setCell ⟨s 1,a,none⟩ (.int .i64 x)):=by
 have o:Out (s 1) (s 1+1) w (w.setCell ⟨s 1,a,none⟩ (.int .i64 x)):=(Out.refl _ _ _).setCell (p:=⟨s 1,a,none⟩) z1 _;have h1:=h.inn 1 (by omega);have f:∀ i,i<5->i ≠ 1->s i<s 1\/s 1+1<=s i:=fun i hi iF=>by
  have:s i ≠ s 1:=fun e=>iF (h.ne i 1 hi (by omega) e)
  omega
 refine⟨⟨h.n1,h.n2,Nat.le_trans h.top o.size,h.glob,h.inn,h.ne,o.heap h.box (f 0 (by omega) (by omega)),?_,h.rt.kept o (f 2 (by omega) (by omega)) (f 3 (by omega) (by omega)),h.ro.kept o (f 4 (by omega) (by omega))⟩,o.wide h1.1 (by omega)⟩;refine(h.rw.set a (.int .i64 x)).congr fun j _=>?_
 show (if j=a then _ else _)=Value.int .i64 (z3a st.W a x j)
 unfold z3a;by_cases e:j=a
 ·rw[if_pos e,if_pos e]
 ·rw[if_neg e,if_neg e]
theorem z5r (h:RfAt w lo hi s n cw co st) (a x:Int):Kz 79 #[Pq (s 0),Iz a,Iz x] w fun e w'=>e=.returned (.bool (inB (64*n) a))/\RfAt w' lo hi s n cw co { st with W:=F8 n st.W a x }/\Out lo hi w w':=by
 have c0:=h.cells.1;have h2:=h.n2;obtain⟨M,hM⟩:∃ M,64*n=M:=⟨_,rfl⟩
 have M1:(M:Int)<=262144:=by omega
 have M0:(0:Int)<=(M:Int):=by omega
 have HH:=Q3 h;unfold F8;rw[hM] at c0 ⊢;by_cases h0:0<=a
 ·by_cases h1:a<(M:Int)
  ·obtain⟨k,rfl⟩:∃ k:Nat,a=(k:Int):=⟨a.toNat,by omega⟩
   have d0:=h.rw.cell (i:=k) (by omega);have d1:=h.rw.frozen k;have oP:inB M (k:Int)=true:=by unfold inB;simp;omega
   rw[oP,if_pos rfl,show ((k:Nat):Int).toNat=k from by omega];have HS:=Q3 (h.setW (a:=k) (by omega) x);clear h h2 hM oP;go_enter Tryz.func79,Tryz.ntmps79
   go_wp2;go_ret;exact⟨rfl,HS.out⟩
  ·have oP:inB M a=false:=by unfold inB;simp;omega
   rw[oP,if_neg (by simp)];clear h h2 hM oP;go_enter Tryz.func79,Tryz.ntmps79
   go_wp2;go_ret;exact⟨rfl,HH.out,Out.refl _ _ _⟩
 ·have oP:inB M a=false:=by unfold inB;simp;omega
  have h1:a<0:=by omega
  rw[oP,if_neg (by simp)];clear h h2 hM oP h0;go_enter Tryz.func79,Tryz.ntmps79
  go_wp2;go_ret;exact⟨rfl,HH.out,Out.refl _ _ _⟩
end
theorem z3t {x:Int} (h1:-1<=x) (h2:x<=262143) (w:World):Kz 118 #[Iz x] w fun e w'=>e=.returned (Iz (z0h x))/\w'=w:=by
 have HL:Hid (z0h x=x*8+4):=by show _=_;unfold z0h q8e;rw[if_pos (by simp;omega)]
 go_enter Tryz.func118,Tryz.ntmps118
 go_wp2;go_ret;exact⟨by rw[HL.out];rfl,rfl⟩
theorem q0f {z:Int} (z1:1<=z) (z2:z<=1024) (w:World):Kz 169 #[Iz z] w fun e w'=>e=.returned (Iz (U1 z:Int))/\w'=w:=by
 have HP:=Q3 (fun w=>z4v z w);by_cases hz:z<=32
 ·have hp:B9 z=0:=by unfold B9;rw[if_neg (by omega)]
  have HO:=Q3 (fun w=>z4u z w);have HW:=Q3 (fun w=>z8b (ofV z) w);have hs:=z0b z1 hz;have hr:(U1 z:Int)=Y5 (ofV z):=by
   unfold U1;rw[if_neg (by omega)];unfold wN;omega
  rw[hp] at HP;rw[hr];clear hp hr hs z1 z2 hz;go_enter Tryz.func169,Tryz.ntmps169
  go_wp2_with (first | (go_at_call 164;refine Q4 (HP.out _) ?_) | (go_at_call 117;refine Q4 (HO.out _) ?_) | (go_at_call 166;refine Q4 (HW.out _) ?_));go_ret;exact⟨rfl,rfl⟩
 ·have hk:=q5w (s:=z) (by omega) z2;obtain⟨k,hkk⟩:∃ k,((z+63) / 64).toNat=k:=⟨_,rfl⟩
  rw[hkk] at hk;have hp:B9 z=(k:Int):=by unfold B9;rw[if_pos (by omega),hk.2.2]
  have hr:(U1 z:Int)=(k:Int)*64:=by
   unfold U1;rw[if_pos (by omega),hkk];push_cast;rfl
  have k1:(0:Int)<(k:Int):=by omega
  have k2:(k:Int)<=16:=by omega
  rw[hp] at HP;rw[hr];clear hp hr hk hkk z1 z2 hz;go_enter Tryz.func169,Tryz.ntmps169
  go_wp2_with (go_at_call 164;refine Q4 (HP.out _) ?_);go_ret;exact⟨rfl,rfl⟩
theorem z6i (st:Sp) (a:Nat):obC st (a*5+1)=if Y9 (st.O a) then (st.O a).1 else 0:=by
 unfold obC;rw[show (a*5+1) / 5=a from by omega,show (a*5+1) % 5=1 from by omega];rfl
section
variable {n:Nat} {st:Sp} {c:Int}
theorem x7a {f a:Nat} (h1:f<=a) (h2:fr n st c a=true) (h3:∀ j,f<=j->j<a->fr n st c j=false):nf n st c f=(a:Int):=by
 have ha:=(fr_iff.1 h2).1;unfold nf;rcases U8 (fr n st c) (64*n) f with ⟨_,e⟩ | ⟨i,e,i1,i2,i3,i4⟩
 ·rw[e a h1 ha] at h2;cases h2
 ·have hfi:=i2 (by omega);by_cases h:i<a
  ·rw[h3 i hfi h] at i3;cases i3
  ·by_cases h':a<i
   ·rw[i4 a h1 h'] at h2;cases h2
   ·rw[e];omega
theorem x7b {f:Nat} (hf:f<=64*n) (h3:∀ j,f<=j->j<64*n->fr n st c j=false):nf n st c f = -1:=by
 unfold nf;rcases U8 (fr n st c) (64*n) f with ⟨e,_⟩ | ⟨i,e,i1,i2,i3,i4⟩
 ·exact e
 ·rw[h3 i (i2 hf) i1] at i3;cases i3
theorem j9u {p j:Nat} (h:st.S p ≠ (1,c,0)) (h1:64*p<=j) (h2:j<64*p+64):fr n st c j=false:=by
 cases hf:fr n st c j with
 | false=>rfl
 | true=>
  have:=(fr_iff.1 hf).2.1;rw[show j / 64=p from by omega] at this;exact absurd this h
theorem z4n (h0:0<=c) (h7:c<=7) {p i j:Nat} (hi:(i+1)*wN c<=64) (h1:64*p+i*wN c<j) (h2:j<64*p+(i+1)*wN c):fr n st c j=false:=by
 have hw:=q1y h0 h7;rw[Nat.add_mul] at h2 hi;obtain⟨q,hq⟩:∃ q,i*wN c=q:=⟨_,rfl⟩
 rw[hq] at h1 h2 hi;cases hf:fr n st c j with
 | false=>rfl
 | true=>
  obtain⟨_,_,e,_⟩:=fr_iff.1 hf;unfold G1 at e;simp only[Bool.and_eq_true,decide_eq_true_eq] at e;obtain⟨d,hd⟩:∃ d,j=64*p+q+d:=⟨j-(64*p+q),by omega⟩
  subst hd;rw[show (64*p+q+d) % 64=q+d from by omega,<-hq,Nat.mul_comm,Nat.mul_add_mod,Nat.mod_eq_of_lt (by omega)] at e;omega
theorem q4q (h0:0<=c) (h7:c<=7) {p i j:Nat} (hi:64<(i+1)*wN c) (h1:64*p+i*wN c<=j) (h2:j<64*p+64):fr n st c j=false:=by
 rw[Nat.add_mul] at hi;cases hf:fr n st c j with
 | false=>rfl
 | true=>
  obtain⟨_,_,e,_⟩:=fr_iff.1 hf;unfold G1 at e;simp only[Bool.and_eq_true,decide_eq_true_eq] at e;omega
end
theorem x2e {c:Nat} (h:c<8):∃ B z:Nat,B8 (c:Int)=(B:Int)/\Y5 (c:Int)=(z:Int)/\wN (c:Int)=z/\2<=z/\z<=32/\2<=B/\B<=32/\B*z<=64/\64<(B+1)*z:=by
 have:c=0\/c=1\/c=2\/c=3\/c=4\/c=5\/c=6\/c=7:=by omega
 rcases this with rfl | rfl | rfl | rfl | rfl | rfl | rfl | rfl
 ·exact⟨32,2,rfl,rfl,rfl,by decide⟩
 ·exact⟨16,4,rfl,rfl,rfl,by decide⟩
 ·exact⟨10,6,rfl,rfl,rfl,by decide⟩
 ·exact⟨8,8,rfl,rfl,rfl,by decide⟩
 ·exact⟨5,12,rfl,rfl,rfl,by decide⟩
 ·exact⟨4,16,rfl,rfl,rfl,by decide⟩
 ·exact⟨3,20,rfl,rfl,rfl,by decide⟩
 ·exact⟨2,32,rfl,rfl,rfl,by decide⟩
theorem z2l {w:World} {lo hi n cw co:Nat} {s:Nat->Nat} {st:Sp} (h:RfAt w lo hi s n cw co st) {c:Nat} (hc:c<8) {f:Nat} (hf:f<=64*n) :
  Kz 90 #[Pq (s 0),Iz (c:Int),Iz (f:Int)] w fun e w'=>e=.returned (Iz (nf n st (c:Int) f))/\w'=w:=by
 obtain⟨c0,c1,c2,c3,_⟩:=h.cells;obtain⟨cap,d0,_⟩:=h.rt.cell;have HPr:=Q3 h.rt.row;have HGd:=Q3 h.rt.good;have HRo:=Q3 h.ro;have HN:=Q3 (And.intro h.n1 h.n2);obtain⟨B,z,hB,hz,hzN,z1,z2,B1,B2,Bz1,Bz2⟩:=x2e hc;have mQ:=Q3 (fun w=>z3s (c:Int) w);have HSt:=Q3 (fun(i:Int) w=>z8a (c:Int) i w);rw[hB] at mQ;obtain⟨M,hM⟩:∃ M,64*n=M:=⟨_,rfl⟩
 have hn:=HN.out;have f0:(0:Int)<=(f:Int):=by omega
 have f1:¬ (f:Int)<0:=by omega
 have f2:(f:Int)<=262144:=by omega
 have n0:(1:Int)<=(n:Int):=by omega
 have n1:(n:Int)<=4096:=by omega
 obtain⟨fp,hfp⟩:∃ fp,f / 64=fp:=⟨_,rfl⟩
 have f3:(f:Int) / 64=(fp:Int):=by omega
 have B0:(0:Int)<=(B:Int):=by omega
 have B3:(B:Int)<=32:=by omega
 have cz:(0:Int)<=(c:Int):=by omega
 have c7:(c:Int)<=7:=by omega
 have HF:=Q3 (And.intro hf (And.intro hfp (And.intro hB (And.intro hz (And.intro hzN (And.intro z1 (And.intro z2 (And.intro Bz1 (And.intro Bz2 hM)))))))));rw[hM] at c2;have M1:(M:Int)<=262144:=by omega
 clear h hf hfp hB hz hzN z1 z2 Bz1 Bz2 hn B1 B2 c0 c3 hM;go_enter Tryz.func90,Tryz.ntmps90
 go_wp2_with fail;go_loopw [7] (fun u wr=>∃ p:Nat,u=Iz (p:Int)/\fp<=p/\p<=n/\(∀ j,f<=j->j<64*p->fr n st (c:Int) j=false)/\wr=w) (fun u _=>n-(intOf u).toNat)
 case atStart=>exact⟨fp,rfl,Nat.le_refl _,by have:=HF.out;omega,fun j h1 h2=>by have:=HF.out.2.1;omega,rfl⟩
 case round=>
  obtain⟨p,rfl,pa,pb,jY,mD⟩:=hrel;subst mD;have p0:(0:Int)<=(p:Int):=by omega
  by_cases hp:p<n
  ·have p1:(p:Int)<(n:Int):=by omega
   obtain⟨e0,e1,_⟩:=HPr.out.cells hp;obtain⟨kd,pN⟩:∃ kd,(st.S p).1=kd:=⟨_,rfl⟩
   obtain⟨cl,mJ⟩:∃ cl,(st.S p).2.1=cl:=⟨_,rfl⟩
   rw[pN] at e0;rw[mJ] at e1;have HNo:=Q3 jY;clear jY;by_cases hk:kd=1/\cl=(c:Int)
   ·obtain⟨rfl,rfl⟩:=hk;have hS:st.S p=(1,(c:Int),0):=by
     rcases HGd.out p hp with e | ⟨c',_,_,e⟩ | ⟨k,_,_,_,e,_⟩ | ⟨e,_⟩
     ·rw[e] at pN;cases pN
     ·rw[e] at mJ ⊢;rw[show c'=(c:Int) from mJ]
     ·rw[e] at pN;cases pN
     ·rw[e] at pN;cases pN
    have HSp:=Q3 hS;clear pN mJ hS;go_wp2_with fail;go_loopw [8] (fun u wq=>∃ i:Nat,u=Iz (i:Int)/\i<=B/\(∀ j,f<=j->j<64*p+i*z->fr n st (c:Int) j=false)/\wq=wr) (fun u _=>B-(intOf u).toNat)
    case atStart=>exact⟨0,rfl,Nat.zero_le _,fun j h1 h2=>HNo.out j h1 (by omega),rfl⟩
    case round=>
     obtain⟨i,rfl,ib,jY,hwq⟩:=hrel;subst hwq;have i0:(0:Int)<=(i:Int):=by omega
     have HNi:=Q3 jY;clear jY;by_cases bV:i<B
     ·have i1:(i:Int)<(B:Int):=by omega
      have hF:=HF.out;have hle:(i+1)*z<=B*z:=Nat.mul_le_mul_right _ bV;have jJ:z2a (c:Int) (i:Int)=((i*z:Nat):Int):=by
       unfold z2a;rw[hF.2.2.1,if_pos ⟨by omega,by omega⟩,hF.2.2.2.1];push_cast;rfl
      have HSi:=Q3 (fun w=>HSt.out (i:Int) w);rw[jJ] at HSi;obtain⟨q,hq⟩:∃ q,i*z=q:=⟨_,rfl⟩
      have hle2:q+z<=64:=by rw[Nat.add_mul] at hle;omega
      rw[hq] at HSi;obtain⟨a,ha⟩:∃ a,64*p+q=a:=⟨_,rfl⟩
      have q0:(0:Int)<=(q:Int):=by omega
      have q1:(q:Int)<=64:=by omega
      obtain⟨P,hP⟩:∃ P,p*64=P:=⟨_,rfl⟩
      have P0:(p:Int)*64=(P:Int):=by omega
      have P1:(0:Int)<=(P:Int):=by omega
      have P2:(P:Int)<=262144:=by omega
      have a0:(P:Int)+(q:Int)=(a:Int):=by omega
      have a1:(0:Int)<=(a:Int):=by omega
      have aM:a<64*n:=by omega
      have a2:(a:Int)<(M:Int):=by omega
      have d5:=HRo.out.cell (i:=a*5+1) (by omega);rw[z6i] at d5;have hst2:G1 (c:Int) (a % 64)=true:=by
       unfold G1;rw[hF.2.2.2.2.1,show a % 64=q from by omega,<-hq];simp only[Bool.and_eq_true,decide_eq_true_eq];exact⟨Nat.mul_mod_left _ _,by omega⟩
      have pQ:fr n st (c:Int) a = !Y9 (st.O a):=by
       unfold fr;rw[show a / 64=p from by omega,HSp.out,hst2,show decide (a<64*n)=true from by simp;omega];simp
      have hnext:fr n st (c:Int) a=false\/a<f->∀ j,f<=j->j<64*p+(i+1)*z->fr n st (c:Int) j=false:=fun hor j h1 h2=>by
       by_cases hj:j<64*p+i*z
       ·exact HNi.out j h1 hj
       ·by_cases he:j=a
        ·rcases hor with hor | hor
         ·rw[he];exact hor
         ·omega
        ·exact z4n cz c7 (p:=p) (i:=i) (by rw[hF.2.2.2.2.1,Nat.add_mul];omega) (by rw[hF.2.2.2.2.1];omega) (by rw[hF.2.2.2.2.1];exact h2)
      have hfound:fr n st (c:Int) a=true->f<=a->nf n st (c:Int) f=(a:Int):=fun h1 h2=>x7a h2 h1 fun j j1 j2=>HNi.out j j1 (by omega)
      have HX:=Q3 (And.intro hnext (And.intro hfound pQ));clear hle jJ hq hle2 hP ha hst2 pQ hnext hfound hF aM;by_cases hfa:(f:Int)<=(a:Int)
      ·cases hb:Y9 (st.O a) with
       | false=>
        rw[hb,if_neg (by simp)] at d5;have iA:=HX.out.2.1 (by rw[HX.out.2.2,hb];rfl) (by omega);have HRes:=Q3 iA;clear hb iA;go_wp2_with (first | (go_at_call 151;refine Q4 (mQ.out _) ?_) | (go_at_call 152;refine Q4 (HSi.out _) ?_));go_ret;exact⟨by rw[HRes.out];rfl,rfl⟩
       | true=>
        rw[hb,if_pos rfl] at d5;obtain⟨k5,pO⟩:∃ k,(st.O a).1=k:=⟨_,rfl⟩
        rw[pO] at d5;have qQ:k5 ≠ 0:=by unfold Y9 at hb;rw[pO] at hb;simpa using hb
        have jF:=Q3 (HX.out.1 (.inl (by rw[HX.out.2.2,hb];rfl)));clear hb pO;go_wp2_with (first | (go_at_call 151;refine Q4 (mQ.out _) ?_) | (go_at_call 152;refine Q4 (HSi.out _) ?_));exact⟨⟨i+1,by congr 1,by omega,jF.out,by trivial⟩,by simp[intOf] <;> omega⟩
      ·have jF:=Q3 (HX.out.1 (.inr (by omega)));clear d5;go_wp2_with (first | (go_at_call 151;refine Q4 (mQ.out _) ?_) | (go_at_call 152;refine Q4 (HSi.out _) ?_));exact⟨⟨i+1,by congr 1,by omega,jF.out,by trivial⟩,by simp[intOf] <;> omega⟩
     ·have e:i=B:=by omega
      subst e;go_wp2_with (go_at_call 151;refine Q4 (mQ.out _) ?_);refine⟨⟨p+1,by congr 1,by omega,by omega,fun j h1 h2=>?_,by trivial⟩,by simp[intOf] <;> omega⟩;have hF:=HF.out;by_cases hj:j<64*p+i*z
      ·exact HNi.out j h1 hj
      ·exact q4q cz c7 (p:=p) (i:=i) (by rw[hF.2.2.2.2.1];exact hF.2.2.2.2.2.2.2.2.1) (by rw[hF.2.2.2.2.1];omega) (by omega)
   ·have iF:st.S p ≠ (1,(c:Int),0):=fun e=>hk ⟨by rw[<-pN,e],by rw[<-mJ,e]⟩
    have jF:Hid (∀ j,f<=j->j<64*(p+1)->fr n st (c:Int) j=false):=fun j h1 h2=>by
     by_cases hj:j<64*p
     ·exact HNo.out j h1 hj
     ·exact j9u iF (by omega) (by omega)
    clear iF pN mJ;by_cases jQ:kd=1
    ·have kP:cl ≠ (c:Int):=fun e=>hk ⟨jQ,e⟩
     clear hk;subst jQ;go_wp2_with fail;exact⟨⟨p+1,by congr 1,by omega,by omega,jF.out,by trivial⟩,by simp[intOf] <;> omega⟩
    ·clear hk;go_wp2_with fail;exact⟨⟨p+1,by congr 1,by omega,by omega,jF.out,by trivial⟩,by simp[intOf] <;> omega⟩
  ·have e:p=n:=by omega
   subst e;have iA:=x7b (n:=p) (st:=st) (c:=(c:Int)) HF.out.1 jY;have HRes:=Q3 iA;clear jY iA;go_wp2;go_ret;exact⟨by rw[HRes.out];rfl,rfl⟩
section
variable {w:World} {lo hi n cw co:Nat} {s:Nat->Nat} {st:Sp}
theorem j8m (W:Nat->Int) (a k:Nat):z3a (z0f W a k) (a+k) 0=z0f W a (k+1):=by
 funext i
 unfold z3a z0f;by_cases e:i=a+k
 ·rw[if_pos e,if_pos (by omega)]
 ·rw[if_neg e];by_cases e2:a<=i/\i<a+k
  ·rw[if_pos e2,if_pos (by omega)]
  ·rw[if_neg e2,if_neg (by omega)]
theorem j8l (W:Nat->Int) (a:Nat):z0f W a 0=W:=by
 funext i
 unfold z0f;rw[if_neg (by omega)]
theorem q0g (h:RfAt w lo hi s n cw co st) {a k:Nat} (ha:a+k<=64*n):Kz 168 #[Pq (s 0),Iz (a:Int),Iz (k:Int)] w fun e w'=>(∃ v,e=.returned v)/\RfAt w' lo hi s n cw co { st with W:=z0f st.W a k }/\Out lo hi w w':=by
 have H0:=Q3 h;have h2:=h.n2;obtain⟨M,hM⟩:∃ M,64*n=M:=⟨_,rfl⟩
 have HM:=Q3 (And.intro hM ha);have M1:(M:Int)<=262144:=by omega
 have a0:(0:Int)<=(a:Int):=by omega
 have a1:(a:Int)<=262144:=by omega
 have k0:(k:Int)<=262144:=by omega
 clear h ha hM h2;go_enter Tryz.func168,Tryz.ntmps168
 go_wp2_with fail;go_loopw [6] (fun u wr=>∃ i:Nat,u=Iz (i:Int)/\i<=k/\RfAt wr lo hi s n cw co { st with W:=z0f st.W a i }/\Out lo hi w wr) (fun u _=>k-(intOf u).toNat)
 case atStart=>exact⟨0,rfl,Nat.zero_le _,by rw[j8l];exact H0.out,Out.refl _ _ _⟩
 case round=>
  obtain⟨i,rfl,ib,r1,r2⟩:=hrel;have i0:(0:Int)<=(i:Int):=by omega
  by_cases bV:i<k
  ·have i1:(i:Int)<(k:Int):=by omega
   have c0:=r1.cells.1;rw[HM.out.1] at c0;obtain⟨x,hx⟩:∃ x,a+i=x:=⟨_,rfl⟩
   have hm:=HM.out;have x0:(a:Int)+(i:Int)=(x:Int):=by omega
   have x1:(0:Int)<=(x:Int):=by omega
   have x2:(x:Int)<(M:Int):=by omega
   have d0:=r1.rw.cell (i:=x) (by omega);have d1:=r1.rw.frozen x;have HS:=Q3 (r1.setW (a:=x) (by omega) 0);have HR:=Q3 (And.intro r2 hx);obtain⟨y,hy⟩:∃ y,z0f st.W a i x=y:=⟨_,rfl⟩
   dsimp only at d0;rw[hy] at d0;clear r1 r2 hx hm hy;go_wp2_with fail;refine⟨⟨i+1,by congr 1,by omega,?_,HR.out.1.trans HS.out.2⟩,by simp[intOf] <;> omega⟩;have:=HS.out.1;dsimp only at this;rw[<-HR.out.2,j8m] at this;rw[<-HR.out.2];exact this
  ·have e:i=k:=by omega
   subst e;have HR:=Q3 (And.intro r1 r2);clear r1 r2;go_wp2;exact bodyPost_end (results_none Tryz.results168 _ _ _) rfl ⟨⟨_,rfl⟩,HR.out⟩
theorem q5g {a:Nat} (hb:Y9 (st.O a)=true):obC st (a*5)=(a:Int)/\obC st (a*5+1)=(st.O a).1/\obC st (a*5+2)=(st.O a).2.1/\obC st (a*5+3)=(st.O a).2.2.1/\obC st (a*5+4)=(st.O a).2.2.2:=by
 unfold obC;refine⟨?_,?_,?_,?_,?_⟩
 ·rw[show a*5 / 5=a from by omega,show a*5 % 5=0 from by omega,hb];rfl
 ·rw[show (a*5+1) / 5=a from by omega,show (a*5+1) % 5=1 from by omega,hb];rfl
 ·rw[show (a*5+2) / 5=a from by omega,show (a*5+2) % 5=2 from by omega,hb];rfl
 ·rw[show (a*5+3) / 5=a from by omega,show (a*5+3) % 5=3 from by omega,hb];rfl
 ·rw[show (a*5+4) / 5=a from by omega,show (a*5+4) % 5=4 from by omega,hb];rfl
theorem z3r (h:RfAt w lo hi s n cw co st) {a:Nat} (ha:a<64*n) (hb:Y9 (st.O a)=true) {k z x t:Int} (hO:st.O a=(k,z,x,t)):Kz 123 #[Pq (s 0),Iz (a:Int)] w fun e w'=>e=.returned (.tuple #[Wz (a:Int) k z x t,.bool true])/\Out 0 0 w w':=by
 have h':=h.quiet ((Out.refl 0 0 w).alloc (Ez 0 0 0 0 0 81));have h2:=h.n2;obtain⟨M,hM⟩:∃ M,64*n=M:=⟨_,rfl⟩
 have c2:=h'.cells.2.2.1;rw[hM] at c2;have a0:(0:Int)<=(a:Int):=by omega
 have a1:(a:Int)<(M:Int):=by omega
 have a2:(M:Int)<=262144:=by omega
 obtain⟨o0,o1,o2,o3,o4⟩:=q5g (st:=st) hb;rw[hO] at o1 o2 o3 o4;dsimp only at o1 o2 o3 o4;have d0:=h'.ro.cell (i:=a*5) (by omega);have d1:=h'.ro.cell (i:=a*5+1) (by omega);have d2:=h'.ro.cell (i:=a*5+2) (by omega);have d3:=h'.ro.cell (i:=a*5+3) (by omega);have d4:=h'.ro.cell (i:=a*5+4) (by omega);rw[o0] at d0;rw[o1] at d1;rw[o2] at d2;rw[o3] at d3;rw[o4] at d4;have hk:k ≠ 0:=by rw[hO] at hb;unfold Y9 at hb;simpa using hb
 have hkb:(k == 0)=false:=by simpa using hk
 have iF:s 4 ≠ w.heap.size:=by have:=h.inn 4 (by omega);have:=h.top;omega
 clear h h' h2 hM hO hb o0 o1 o2 o3 o4 ha;go_enter Tryz.func123,Tryz.ntmps123
 go_wp2;refine z7j (g:=w.heap.size) Tryz.results123 rfl rfl rfl (heap_alloc_new _ _) ⟨rfl,(Out.refl _ _ _).alloc _⟩
theorem z3q (h:RfAt w lo hi s n cw co st) {a:Int} (jY:∀ k:Nat,a=(k:Int)->k<64*n->Y9 (st.O k)=false):Kz 123 #[Pq (s 0),Iz a] w fun e w'=>e=.returned (.tuple #[Wz 0 0 0 0 0,.bool false])/\Out 0 0 w w':=by
 have h':=h.quiet ((Out.refl 0 0 w).alloc (Ez 0 0 0 0 0 81));have h2:=h.n2;obtain⟨M,hM⟩:∃ M,64*n=M:=⟨_,rfl⟩
 have c2:=h'.cells.2.2.1;rw[hM] at c2;have a2:(M:Int)<=262144:=by omega
 have a3:(0:Int)<=(M:Int):=by omega
 by_cases h0:a<0
 ·clear h h' h2 hM jY;go_enter Tryz.func123,Tryz.ntmps123
  go_wp2;exact z7j (g:=w.heap.size) Tryz.results123 rfl rfl rfl (heap_alloc_new _ _) ⟨rfl,(Out.refl _ _ _).alloc _⟩
 ·by_cases h1:(M:Int)<=a
  ·clear h h' h2 hM jY;go_enter Tryz.func123,Tryz.ntmps123
   go_wp2;exact z7j (g:=w.heap.size) Tryz.results123 rfl rfl rfl (heap_alloc_new _ _) ⟨rfl,(Out.refl _ _ _).alloc _⟩
  ·obtain⟨k,rfl⟩:∃ k:Nat,a=(k:Int):=⟨a.toNat,by omega⟩
   have hb:=jY k rfl (by omega);have d1:=h'.ro.cell (i:=k*5+1) (by omega);rw[z6i,hb,if_neg (by simp)] at d1;have k0:(0:Int)<=(k:Int):=by omega
   have k1:(k:Int)<(M:Int):=by omega
   clear h h' h2 hM jY hb h0 h1;go_enter Tryz.func123,Tryz.ntmps123
   go_wp2;exact z7j (g:=w.heap.size) Tryz.results123 rfl rfl rfl (heap_alloc_new _ _) ⟨rfl,(Out.refl _ _ _).alloc _⟩
end
end Go.Proofs.YtjgnogflgoihfaaGreatDoor
