import Derived.Test.YtjgnogflgoihfaaGreatDoorP27
namespace Go.Proofs.YtjgnogflgoihfaaGreatDoor
open Go.RowKit
set_option linter.unusedVariables false
set_option maxRecDepth 100000
set_option maxHeartbeats 16000000
set_option linter.unusedSimpArgs false
theorem j0j {n:Nat} {st:Sp} (hi:Inv n st) (k z t:Int):Inv n (alF n st k z t).2.2.2:=by
 unfold alF;cases hf:F4 k z with
 | false=>exact hi
 | true=>
  rw[if_pos rfl];have hz:=U7 hf;cases hp:z0t n st z with
  | none=>exact hi
  | some af=>
   obtain⟨a,aV⟩:=af
   show Inv n (if z<=32/\aV=false/\st.W a ≠ z0h (nf n st (ofV z) (a+1)) then (0,21,(a:Int),st) else ((a:Int),0,0,G4 n st a aV k z t)).2.2.2
   by_cases c:z<=32/\aV=false/\st.W a ≠ z0h (nf n st (ofV z) (a+1))
   ·rw[if_pos c];exact hi
   ·rw[if_neg c]
    show Inv n (G4 n st a aV k z t)
    clear c;unfold z0t at hp;by_cases h32:32<z
    ·rw[if_pos h32] at hp;obtain⟨p,hr,e⟩:=Option.map_eq_some_iff.1 hp;simp only[Prod.mk.injEq] at e;obtain⟨rfl,rfl⟩:=e;exact(q3y (t:=t) hi hf h32 hr).1
    ·rw[if_neg h32] at hp;rcases U8 (fr n st (ofV z)) (64*n) 0 with ⟨e1,e2⟩ | ⟨i,e1,e2,e3,e4,e5⟩
     ·have e1':nf n st (ofV z) 0 = -1:=e1;rw[e1',if_neg (by omega)] at hp;obtain⟨p,hr,e⟩:=Option.map_eq_some_iff.1 hp;simp only[Prod.mk.injEq] at e;obtain⟨rfl,rfl⟩:=e;exact(z7p (t:=t) hi hf (by omega) hr).1
     ·have e1':nf n st (ofV z) 0=(i:Int):=e1;rw[e1',if_pos (by omega)] at hp;simp only[Int.toNat_natCast,Option.some.injEq,Prod.mk.injEq] at hp;obtain⟨rfl,rfl⟩:=hp;exact(z7o (t:=t) hi hf (by omega) e4).1
theorem z9a {n:Nat} {st:Sp} (k z t:Int):(alF n st k z t).2.2.2.last<=st.last+1:=by
 have h:z0y st k<=st.last+1:=by unfold z0y;split <;> omega
 unfold alF;split
 ·split
  ·show st.last<=_;omega
  ·split
   ·show st.last<=_;omega
   ·exact h
 ·show st.last<=_;omega
theorem j6d (n:Nat) (st:Sp):∀ c,(q1n n st c).last=st.last
 | 0=>rfl
 | c+1=>by show (q1n n st c).last=_;exact j6d n st c
theorem j5w (n:Nat) (st:Sp) (l:List Int):(z0r n st l).last=st.last:=j6d n _ 8
def WI (n:Nat) (W:Nat->Int):Prop:=∀ a,a<64*n->-9223372036854775808<=W a/\W a<=9223372036854775807
def I64 (x:Int):Prop:=-9223372036854775808<=x/\x<=9223372036854775807
theorem j0g (n:Int):I64 (z0h n):=by
 unfold I64 z0h;split
 ·rename_i h
  unfold q8e at h;have:=of_decide_eq_true h;omega
 ·omega
theorem j9y (a k n:Int):I64 (F0 a k n):=by
 unfold I64 F0;split
 ·rename_i h
  unfold q0w at h;have h1:=of_decide_eq_true h;unfold z2p;generalize xV a k n*10872568911861=y
  omega
 ·omega
theorem j5r (r:Int):I64 (z1z r):=by unfold I64 z1z;split <;> omega
theorem q2t (x:Int):I64 (wrap64 x):=by unfold I64 wrap64;omega
section
variable {n:Nat} {W:Nat->Int}
theorem WI.upd (h:WI n W) {x:Int} (hx:I64 x) (a:Nat):WI n (z3a W a x):=fun i hi=>by
 unfold z3a;split
 ·exact hx
 ·exact h i hi
theorem WI.poke (h:WI n W) {x:Int} (hx:I64 x) (a:Int):WI n (F8 n W a x):=by
 unfold F8;split
 ·exact h.upd hx _
 ·exact h
theorem WI.zero (h:WI n W) (a k:Nat):WI n (z0f W a k):=fun i hi=>by
 unfold z0f;split
 ·omega
 ·exact h i hi
theorem WI.take {st:Sp} (h:WI n st.W) (a:Nat) (aV:Bool) (k s t:Int):WI n (G4 n st a aV k s t).W:=by
 show WI n (z3a (z0f (if aV then q2y n ⟨z0f st.W a 64,z0i st a aV s,z0c st.O a (k,s,Y6 st k,t),0⟩ (ofV s) else st.W) a (U1 s)) a (F0 a k s))
 refine(WI.zero ?_ _ _).upd (j9y _ _ _) _;split
 ·intro i hi;unfold q2y;split
  ·exact j0g _
  ·exact h.zero _ _ i hi
 ·exact h
theorem WI.al {st:Sp} (h:WI n st.W) (k s t:Int):WI n (alF n st k s t).2.2.2.W:=by
 unfold alF;split
 ·split
  ·exact h
  ·split
   ·exact h
   ·exact h.take _ _ _ _ _
 ·exact h
theorem WI.ln {st:Sp} (h:WI n st.W):∀ c,WI n (q1n n st c).W
 | 0=>h
 | c+1=>fun i hi=>by
  show -9223372036854775808<=z6g n (J0 n (q1n n st c)) c i/\z6g n (J0 n (q1n n st c)) c i<=9223372036854775807
  unfold z6g;split
  ·exact j0g _
  ·exact WI.ln h c i hi
theorem j4x {r:Raw} {kp:Nat->Bool}:∀ p,(K8 n r kp p).W=r.W
 | 0=>rfl
 | p+1=>by
  have ih:=j4x (r:=r) (kp:=kp) p;unfold K8;split
  ·split
   ·exact ih
   ·exact ih
  ·exact ih
theorem WI.keep {st:Sp} (h:WI n st.W) (l:List Int):WI n (z0r n st l).W:=by
 refine WI.ln ?_ 8;intro i hi
 show -9223372036854775808<=wpW (K8 n (J0 n st) (kpS l) (64*n)) (64*n) i/\wpW (K8 n (J0 n st) (kpS l) (64*n)) (64*n) i<=9223372036854775807
 unfold wpW;split
 ·omega
 ·rw[j4x];exact h i hi
theorem WI.mk (a k z:Int):∀ (l:List Nat) {W:Nat->Int},WI n W->WI n (mkF n a k z W l)
 | [],_,h=>h
 | x :: l,_,h=>WI.mk a k z l (h.poke (j5r _) _)
theorem WI.mt (a:Int) {bs:List Int} (hb:(bs.length:Int)<=9223372036854775807) (h:WI n W):∀ j,WI n (mtC n a W bs j)
 | 0=>h.poke ⟨by omega,hb⟩ _
 | j+1=>(WI.mt a hb h j).poke (q2t _) _
theorem WI.wr {st:Sp} (h:WI n st.W) (a i:Int) {v:Int} (hv:I64 v):WI n (wrW (J0 n st) a i v):=by
 unfold wrW;split
 ·exact WI.upd (W:=st.W) h hv _
 ·exact h
theorem WI.new:WI n newSp.W:=fun i hi=>by
 show -9223372036854775808<=(0:Int)/\(0:Int)<=9223372036854775807
 omega
theorem WI.se {st:Sp} (h:WI n st.W) (k m i xk xn:Int):WI n (seQ n st k m i xk xn).2.2.W/\(seQ n st k m i xk xn).2.2.last=st.last:=by
 unfold seQ;split
 ·exact⟨h,rfl⟩
 ·split
  ·exact⟨h,rfl⟩
  ·split
   ·exact⟨h,rfl⟩
   ·split
    ·exact⟨h,rfl⟩
    ·rename_i hv
     split
     ·exact⟨h,rfl⟩
     ·refine⟨WI.poke (W:=st.W) h ?_ _,rfl⟩;have pK:J2 xk xn=true:=by simpa using hv
      unfold J2 at pK;have:=of_decide_eq_true pK;unfold I64;omega
theorem WI.sr {st:Sp} (h:WI n st.W) (k m i:Int) {x:Int} (hx:I64 x):WI n (srQ n st k m i x).2.2.W/\(srQ n st k m i x).2.2.last=st.last:=by
 unfold srQ;split
 ·exact⟨h,rfl⟩
 ·split
  ·exact⟨h,rfl⟩
  ·split
   ·exact⟨WI.poke (W:=st.W) h hx _,rfl⟩
   ·exact⟨h,rfl⟩
theorem WI.ma {st:Sp} (h:WI n st.W) (k nn t:Int):WI n (maQ n st k nn t).2.2.W/\(maQ n st k nn t).2.2.last<=st.last+1:=by
 unfold maQ;split
 ·exact⟨h,by show st.last<=_;omega⟩
 ·split
  ·exact⟨WI.mk _ _ _ _ (h.al _ _ _),z9a _ _ _⟩
  ·exact⟨h.al _ _ _,z9a _ _ _⟩
theorem WI.mq {st:Sp} (h:WI n st.W) {bs:List Int} (hb:(bs.length:Int)<=9223372036854775807):WI n (mtQ n st bs).2.2.W/\(mtQ n st bs).2.2.last<=st.last+1:=by
 unfold mtQ;split
 ·exact⟨h,by show st.last<=_;omega⟩
 ·split
  ·exact⟨WI.mt _ hb (h.al _ _ _) _,z9a _ _ _⟩
  ·exact⟨h.al _ _ _,z9a _ _ _⟩
end
structure Q9 where
 B:Nat
 hb:Nat
 rb:Nat
 bk:Nat
 lo:Nat
 hi:Nat
 lo2:Nat
 hi2:Nat
 n:Nat
 cap:Nat
 cw:Nat
 co:Nat
 s:Nat->Nat
 s2:Nat->Nat
structure PB (w:World) (q:Q9) (st:Sp) (c:Nat):Prop where
 be:Be9 w q.B q.hb q.rb q.bk q.lo q.hi q.lo2 q.hi2 q.s q.s2 q.n q.cap q.cw q.co st
 wi:WI q.n st.W
 last:st.last<=(c:Int)
section
variable {w w' w'':World} {q q':Q9} {st st' dC:Sp} {c c':Nat}
theorem PB.inv (h:PB w q st c):Inv q.n st:=h.be.p.2
theorem PB.tops (h:PB w q st c):q.hi<=q.hb/\q.hb<q.lo2/\q.hi2<=q.rb/\q.rb<q.bk/\q.bk<q.B/\q.B<w.heap.size/\4<=q.lo/\q.lo<=q.hi/\q.lo2<=q.hi2:=by
 refine⟨h.be.o1,h.be.o2,h.be.o3,h.be.o4,h.be.o5,Q8 h.be.box,h.be.p.1.glob,?_,?_⟩
 ·have:=h.be.p.1.inn 0 (by omega);omega
 ·have:=h.be.r.inn 0 (by omega);omega
theorem PB.kept {x y:Nat} (h:PB w q st c) (o:Out x y w w') (hd:q.B<x\/y<=q.lo) (hg:4<=x\/y=0):PB w' q st c:=by
 have ht:=h.tops;exact⟨⟨o.heap h.be.box (by omega),h.be.p.kept o (by omega) hg,o.cell h.be.pc (by omega),h.be.r.kept o (by omega),o.cell h.be.rc (by omega),h.be.o1,h.be.o2,h.be.o3,h.be.o4,h.be.o5⟩,h.wi,h.last⟩
theorem PB.quiet (h:PB w q st c) (o:Out 0 0 w w'):PB w' q st c:=h.kept o z0 (.inr rfl)
theorem PB.mono (h:PB w q st c) (hc:c<=c'):PB w q st c':=⟨h.be,h.wi,by have:=h.last;omega⟩
theorem PB.cells (h:PB w q st c):w.cell? ⟨q.B,0,none⟩=some (.pointer (some ⟨q.hb,0,none⟩))/\w.cell? ⟨q.B,1,none⟩=some (.pointer (some ⟨q.rb,0,none⟩))/\w.cell? ⟨q.B,2,none⟩=some (.pointer (some ⟨q.bk,0,none⟩)):=by
 have hb:=h.be.box;refine⟨?_,?_,?_⟩ <;> simp[World.cell?,hb]
structure P2 (B0:Nat) (w:World) (q1 q2:Q9) (dC dA:Sp) (c:Nat):Prop where
 p1:PB w q1 dC c
 p2:PB w q2 dA c
 k1:w.heap[q1.bk]? = some bk0
 k2:w.heap[q2.bk]? = some bk0
 ap:q1.B<q2.lo\/q2.B<q1.lo
 b1:B0<=q1.lo
 b2:B0<=q2.lo
theorem P2.swap {B0:Nat} {dA:Sp} {q1 q2:Q9} (h:P2 B0 w q1 q2 dC dA c):P2 B0 w q2 q1 dA dC c:=⟨h.p2,h.p1,h.k2,h.k1,h.ap.symm,h.b2,h.b1⟩
theorem P2.step {B0:Nat} {dA:Sp} {q1 q2:Q9} (h:P2 B0 w q1 q2 dC dA c) (p:PB w' q1 st' c') (o:Out q1.lo q1.bk w w') (hc:c<=c'):P2 B0 w' q1 q2 st' dA c':=by
 have t1:=h.p1.tops;have t2:=h.p2.tops;have ap:=h.ap;exact⟨p,(h.p2.kept o (by omega) (by omega)).mono hc,o.heap h.k1 (by omega),o.heap h.k2 (by omega),h.ap,h.b1,h.b2⟩
theorem P2.quiet {B0:Nat} {dA:Sp} {q1 q2:Q9} (h:P2 B0 w q1 q2 dC dA c) (o:Out 0 0 w w'):P2 B0 w' q1 q2 dC dA c:=
 ⟨h.p1.quiet o,h.p2.quiet o,o.heap h.k1 z0,o.heap h.k2 z0,h.ap,h.b1,h.b2⟩
end
theorem j4o {K:Go.Act->World->Prop} {F:Nat->Nat->World->Prop} {act:Nat->Nat->Go.Act} {G:Prop} (h1:(∀ g h V,F g h V->K (act g h) V)->G) (h2:∀ g h V,F g h V->K (act g h) V):G:=h1 h2
theorem z9k {P:Program} {md:Region.Mode} {ops:Array Oper} {Q:Exit->Go.Act->World->Prop} {S:World->Prop} {fuel:Nat} {l:Array Bool} {F:Nat->Nat->World->Prop} {act:Nat->Nat->Go.Act} {G:Prop} (h1:(∀ g h V,F g h V->wpAnyH P md ops Q S fuel l (act g h) V)->G) (h2:∀ g h V,F g h V->wpAnyH P md ops Q S fuel l (act g h) V):G:=h1 h2
def Od (q:Q9) (b:Nat):Prop:=q.hi<=q.hb/\q.hb<q.lo2/\q.hi2<=q.rb/\q.rb<q.bk/\q.bk<q.B/\q.B<b/\4<=q.lo/\q.lo<=q.hi/\q.lo2<=q.hi2
structure Mx (q:Q9) (w:World) (lim:Nat) (dC dA:Sp) (V:World):Prop where
 sp:SpAt V q.lo q.hi q.s q.n q.cap dC
 rf:RfAt V q.lo2 q.hi2 q.s2 q.n q.cw q.co dA
 o:Out q.lo q.bk w V
 lim:lim<=V.heap.size
section
variable {w V V':World} {q:Q9} {st dC dA st':Sp} {c lim lim' b:Nat}
theorem PB.od (h:PB w q st c):Od q w.heap.size:=h.tops
theorem PB.md (h:PB w q st c) (o:Out 0 0 w V):Mx q w V.heap.size st st V:=⟨h.be.p.quiet o,h.be.r.quiet o,o.any _ _,Nat.le_refl _⟩
theorem Mx.at (h:Mx q w lim dC dA V):Mx q w V.heap.size dC dA V:=⟨h.sp,h.rf,h.o,Nat.le_refl _⟩
theorem Mx.quiet (h:Mx q w lim dC dA V) (o:Out 0 0 V V'):Mx q w lim dC dA V':=⟨h.sp.quiet o,h.rf.quiet o,h.o.trans (o.any _ _),Nat.le_trans h.lim o.size⟩
theorem Mx.far (h:Mx q w lim dC dA V) {g g':Nat} (o:Out g g' V V') (hd:Od q w.heap.size) (hg:w.heap.size<=g):Mx q w lim dC dA V':=by
 unfold Od at hd;exact⟨h.sp.kept o (by omega) (by omega),h.rf.kept o (by omega),h.o.past o hg,Nat.le_trans h.lim o.size⟩
theorem Mx.p (h:Mx q w lim dC dA V) (hd:Od q w.heap.size) (p:SpAt V' q.lo q.hi q.s q.n q.cap st') (o:Out q.lo q.hi V V'):Mx q w lim st' dA V':=by
 unfold Od at hd;exact⟨p,h.rf.kept o (by omega),h.o.trans (o.wide (by omega) (by omega)),Nat.le_trans h.lim o.size⟩
theorem Mx.r (h:Mx q w lim dC dA V) (hd:Od q w.heap.size) (p:RfAt V' q.lo2 q.hi2 q.s2 q.n q.cw q.co st') (o:Out q.lo2 q.hi2 V V'):Mx q w lim dC st' V':=by
 unfold Od at hd;exact⟨h.sp.kept o (by omega) (by omega),p,h.o.trans (o.wide (by omega) (by omega)),Nat.le_trans h.lim o.size⟩
def E9 (q:Q9) (st:Sp) (w w':World):Prop:=∃ st',SpAt w' q.lo q.hi q.s q.n q.cap st'/\RfAt w' q.lo2 q.hi2 q.s2 q.n q.cw q.co st'/\WI q.n st'.W/\st'.last<=st.last+1/\Out q.lo q.bk w w'/\w'.cell? ⟨q.hb,0,none⟩=some (.pointer (some ⟨q.s 14,0,none⟩))/\w'.cell? ⟨q.rb,0,none⟩=some (.pointer (some ⟨q.s2 0,0,none⟩))
theorem PB.next (h:PB w q st c) (e:E9 q st w V):∃ st',PB V q st' (c+1):=by
 obtain⟨st',e1,e2,e3,e4,e5,e6,e7⟩:=e;have ht:=h.tops;have hl:=h.last;exact⟨st',⟨e5.heap h.be.box (by omega),e1,e6,e2,e7,h.be.o1,h.be.o2,h.be.o3,h.be.o4,h.be.o5⟩,e3,by omega⟩
theorem E9.quiet (e:E9 q st w V) (o:Out 0 0 V V'):E9 q st w V':=by
 obtain⟨st',e1,e2,e3,e4,e5,e6,e7⟩:=e;exact⟨st',e1.quiet o,e2.quiet o,e3,e4,e5.trans (o.any _ _),o.cell e6 z0,o.cell e7 z0⟩
theorem E9.of_out (h:PB w q st c) (o:Out 0 0 w V):E9 q st w V:=
 ⟨st,h.be.p.quiet o,h.be.r.quiet o,h.wi,by omega,o.any _ _,o.cell h.be.pc z0,o.cell h.be.rc z0⟩
theorem Mx.e9 (h:Mx q w lim dC dC V) (hw:WI q.n dC.W) (hl:dC.last<=st.last+1) (h1:V.cell? ⟨q.hb,0,none⟩=some (.pointer (some ⟨q.s 14,0,none⟩))) (h2:V.cell? ⟨q.rb,0,none⟩=some (.pointer (some ⟨q.s2 0,0,none⟩))):E9 q st w V:=⟨dC,h.sp,h.rf,hw,hl,h.o,h1,h2⟩
end
theorem z9g (w:World) (o1 o2 o3:Obj):∃ V b,((w.alloc o1).alloc o2).alloc o3=V/\w.heap.size=b/\V.heap[b]? = some o1/\V.heap[b+1]? = some o2/\V.heap[b+2]? = some o3/\Out 0 0 w V/\V.heap.size=b+3:=
 ⟨_,_,rfl,rfl,V5,X0,K4,(((Out.refl 0 0 w).alloc _).alloc _).alloc _,by first | (show (((w.heap.push _).push _).push _).size=_;rw[Array.size_push,Array.size_push,Array.size_push]) | simp⟩
theorem box1a (w:World) (o1:Obj):∃ V b,w.alloc o1=V/\w.heap.size=b/\V.heap[b]? = some o1/\Out 0 0 w V/\V.heap.size=b+1:=
 ⟨_,_,rfl,rfl,heap_alloc_new _ _,(Out.refl 0 0 w).alloc _,by first | (show (w.heap.push _).size=_;rw[Array.size_push]) | simp⟩
theorem q1q {w:World} {g:Nat} {x0 x1 x2 x3 x4 x5 x6 x7 x8 x9:Value} {T:TypeId} (h:w.heap[g]? = some (.cells #[x0,x1,x2,x3,x4,x5,x6,x7,x8,x9] T (0,0))) :
  w.cell? ⟨g,0,none⟩=some x0/\w.cell? ⟨g,1,none⟩=some x1/\w.cell? ⟨g,2,none⟩=some x2/\w.cell? ⟨g,3,none⟩=some x3/\w.cell? ⟨g,4,none⟩=some x4/\w.cell? ⟨g,5,none⟩=some x5/\w.cell? ⟨g,6,none⟩=some x6/\w.cell? ⟨g,7,none⟩=some x7/\w.cell? ⟨g,8,none⟩=some x8/\w.cell? ⟨g,9,none⟩=some x9:=by
 refine⟨?_,?_,?_,?_,?_,?_,?_,?_,?_,?_⟩ <;> simp[World.cell?,h]
theorem F3 {b:Bool} (h:b=true):Ending.returned (.bool b)=.returned (.bool true):=by rw[h]
theorem x6i (a b:Int) (W:World):(binOp .eql 32 (.agg #[.int .i64 a,.int .i64 b]) (.agg #[.int .i64 a,.int .i64 b])).run Tryz.prog W=.ok (.bool true) W:=by
 rw[eqv];simp
theorem x1r {w:World} {lo hi n cap:Nat} {s:Nat->Nat} {st:Sp} (h:SpAt w lo hi s n cap st) (a i v:Int):Calls Tryz.prog 83 #[.pointer (some ⟨s 14,0,none⟩),.int .i64 a,.int .i64 i,.int .i64 v] w fun e w'=>e=.returned (z7t (q4b (J0 n st) a i) (z5m (J0 n st) a))/\SpAt w' lo hi s n cap (z1y st (wrW (J0 n st) a i v))/\Out lo hi w w':=
 (j8k h.1 (q2u h.2) a i v).mono fun e w' ⟨h1,h2,h3⟩=>⟨h1,⟨h2,j1k h.2 _⟩,h3⟩
section
variable {w:World} {q:Q9} {st:Sp} {c:Nat}
theorem q9e (h:PB w q st c) (o0 o2 o3 o4 o5 o6 o7 o8 k m k2 m2:Int) (bp:Option Addr) (bl bc:Nat) (hv:I64 o3):Kz 29 #[Pq q.B,.agg #[Iz o0,Iz 20,Iz o2,Iz o3,Iz o4,Iz o5,Iz o6,Iz o7,Iz o8,.slice bp bl bc],Vz k m,Vz k2 m2] w fun e w'=>e=.returned (.bool true)/\E9 q st w w':=by
 have HP:=Q3 h;have bT:=Q3 h.od;obtain⟨W,bo,hW,cP,fO,fV,fX,oW,hU⟩:=z9g w (.cells #[Iz o0,Iz 20,Iz o2,Iz o3,Iz o4,Iz o5,Iz o6,Iz o7,Iz o8,.slice bp bl bc] 35) (Dz k m 32) (Dz k2 m2 32);have cM:=h.od;rw[cP] at cM;unfold Od at cM;obtain⟨p0,p1,p2⟩:=(h.quiet oW).cells;have r0:=(h.quiet oW).be.pc;have r1:=(h.quiet oW).be.rc;obtain⟨x0,x1,x2,x3,x4,x5,x6,x7,x8,x9⟩:=q1q fO;obtain⟨v0,v1,_,_⟩:=Q5 fV;obtain⟨u0,u1,_,_⟩:=Q5 fX;have aD:=h.md oW;have bI:bo+3<=W.heap.size:=by omega
 have Hbo:=Q3 cP;obtain⟨eN,mE⟩:∃ b,bo+3=b:=⟨_,rfl⟩
 rw[mE] at bI;have cL:=p0;have cK:=p1;have cI:=r0;have cH:=r1;have cW:=x2;have dO:=x3;clear h fO fV fX;obtain⟨vi,hvi⟩:∃ b,inB (64*q.n) (o2)=b:=⟨_,rfl⟩
 have dV:Hid (∀ V lim,Mx q w lim st st V->cq V q.hb 0=some (Pq (q.s 14))->Kz 44 #[Pq (q.s 14),Iz (o2),Iz o3] V fun e w'=>e=.returned (.bool vi)/\Mx q w lim (z1y st (F8 q.n st.W (o2) o3)) st w'/\Out q.lo q.hi V w'):=fun V lim hM hc=>by
  have q0:=bT.out;unfold Od at q0;have q:=(hvi ▸ z5t hM.sp (o2) o3)
  exact q.mono fun e w' ⟨h1,h2,h3⟩=>⟨h1,hM.p bT.out h2 h3,h3⟩
 have eO:Hid (∀ V lim,Mx q w lim (z1y st (F8 q.n st.W (o2) o3)) st V->cq V q.rb 0=some (Pq (q.s2 0))->Kz 79 #[Pq (q.s2 0),Iz (o2),Iz o3] V fun e w'=>e=.returned (.bool vi)/\Mx q w lim (z1y st (F8 q.n st.W (o2) o3)) (z1y st (F8 q.n st.W (o2) o3)) w'/\Out q.lo2 q.hi2 V w'):=fun V lim hM hc=>by
  have q0:=bT.out;unfold Od at q0;have q:=(hvi ▸ z5r hM.rf (o2) o3)
  exact q.mono fun e w' ⟨h1,h2,h3⟩=>⟨h1,hM.r bT.out h2 h3,h3⟩
 have iM:Hid (WI q.n (z1y st (F8 q.n st.W (o2) o3)).W):=HP.out.wi.poke hv _;clear hvi hv;go_enter Tryz.func29,Tryz.ntmps29
 go_wp2_with fail;(try rw[hW]);(try rw[cP]);have iG:w.heap.size<=bo:=Nat.le_of_eq cP;clear hW cP p0 p1 p2 r0 r1 x0 x1 x2 x3 x4 x5 x6 x7 x8 x9 v0 v1 u0 u1 oW hU;obtain⟨jH,hlm3⟩:∃ l,W.heap.size=l:=⟨_,rfl⟩
 replace aD:=aD.at;rw[hlm3] at aD;have hlim3:eN<=jH:=by rw[<-hlm3];exact bI
 clear hlm3;have kp:∀ {V V':World} {x y:Nat},(fun w'=>cq w' q.B 0=some (Pq q.hb)/\cq w' q.B 1=some (Pq q.rb)/\cq w' q.hb 0=some (Pq (q.s 14))/\cq w' q.rb 0=some (Pq (q.s2 0))/\cq w' bo 2=some (Iz o2)/\cq w' bo 3=some (Iz o3)) V->Out x y V V'->(q.B<x\/y<=q.B)/\(q.hb<x\/y<=q.hb)/\(q.rb<x\/y<=q.rb)/\(bo<x\/y<=bo)->(fun w'=>cq w' q.B 0=some (Pq q.hb)/\cq w' q.B 1=some (Pq q.rb)/\cq w' q.hb 0=some (Pq (q.s 14))/\cq w' q.rb 0=some (Pq (q.s2 0))/\cq w' bo 2=some (Iz o2)/\cq w' bo 3=some (Iz o3)) V':=fun h o b=>⟨o.cell h.1 b.1,o.cell h.2.1 b.1,o.cell h.2.2.1 b.2.1,o.cell h.2.2.2.1 b.2.2.1,o.cell h.2.2.2.2.1 b.2.2.2,o.cell h.2.2.2.2.2 b.2.2.2⟩
 refine wp_region_held_drew (S:=fun w'=>cq w' q.B 0=some (Pq q.hb)/\cq w' q.B 1=some (Pq q.rb)/\cq w' q.hb 0=some (Pq (q.s 14))/\cq w' q.rb 0=some (Pq (q.s2 0))/\cq w' bo 2=some (Iz o2)/\cq w' bo 3=some (Iz o3)) (by kernel_rfl) ?hS311 (fun aB=>?rest311)
 case hS311=>exact⟨cL,cK,cI,cH,cW,dO⟩
 obtain⟨Z3,hZ⟩:∃ Z,W.drew=Z:=⟨_,rfl⟩
 have oZ:Out 0 0 W Z3:=by rw[<-hZ];exact(Out.refl 0 0 _).drew
 rw[hZ] at aB ⊢;replace aD:=aD.quiet oZ;clear hZ oZ cL cK cI cH cW dO;refine tk 0 ?_;refine tk 1 ?_;refine tk 2 ?_;refine tk 3 ?_;refine tk 4 ?_;refine tk 5 ?_;refine tk 6 ?_;refine tk 7 ?_;refine tk 8 ?_;refine tk 9 ?_;refine tk 10 ?_;refine tk 12 ?_;refine tk 13 ?_;refine tk 14 ?_;refine tk 15 ?_;refine tk 16 ?_;refine tk 17 ?_;refine tk 18 ?_;refine tk 19 ?_;refine tk 20 ?_;refine tk 21 ?_;refine tk 22 ?_;refine rd1 11 fun KK hK=>?_
 simp only[xa,xb,xc];go_simp;refine(dV.out _ _ aD aB.2.2.1).mono ?_;rintro e Z3_11 ⟨rfl,aH,q1⟩;clear aD;have aD:=aH;clear aH;refine hK.out _ _ (kp aB q1 (by omega)) fun aB=>?_
 clear q1 hK KK;refine rd1 23 fun KK hK=>?_
 simp only[xa,xb,xc];go_simp;refine(eO.out _ _ aD aB.2.2.2.1).mono ?_;rintro e Z3_11_23 ⟨rfl,aH,q1⟩;clear aD;have aD:=aH;clear aH;refine hK.out _ _ (kp aB q1 (by omega)) fun aB=>?_
 clear q1 hK KK;refine tk 24 ?_;refine tk 25 ?_;refine dn ?_;have HE:=Q3 (aD.e9 (st:=st) iM.out (by show st.last<=st.last+1;omega) aB.2.2.1 aB.2.2.2.1);clear aB aD;go_wp2
 all_goals go_ret
 all_goals exact⟨F3 (by simp),HE.out⟩
theorem q9f (h:PB w q st c) (o0 o2 o3 o4 o5 o6 o7 o8 k m k2 m2:Int) (bp:Option Addr) (bl bc:Nat) (hv:I64 o3):Kz 29 #[Pq q.B,.agg #[Iz o0,Iz 21,Iz o2,Iz o3,Iz o4,Iz o5,Iz o6,Iz o7,Iz o8,.slice bp bl bc],Vz k m,Vz k2 m2] w fun e w'=>e=.returned (.bool true)/\E9 q st w w':=by
 have HP:=Q3 h;have bT:=Q3 h.od;obtain⟨W,bo,hW,cP,fO,fV,fX,oW,hU⟩:=z9g w (.cells #[Iz o0,Iz 21,Iz o2,Iz o3,Iz o4,Iz o5,Iz o6,Iz o7,Iz o8,.slice bp bl bc] 35) (Dz k m 32) (Dz k2 m2 32);have cM:=h.od;rw[cP] at cM;unfold Od at cM;obtain⟨p0,p1,p2⟩:=(h.quiet oW).cells;have r0:=(h.quiet oW).be.pc;have r1:=(h.quiet oW).be.rc;obtain⟨x0,x1,x2,x3,x4,x5,x6,x7,x8,x9⟩:=q1q fO;obtain⟨v0,v1,_,_⟩:=Q5 fV;obtain⟨u0,u1,_,_⟩:=Q5 fX;have aD:=h.md oW;have bI:bo+3<=W.heap.size:=by omega
 have Hbo:=Q3 cP;obtain⟨eN,mE⟩:∃ b,bo+3=b:=⟨_,rfl⟩
 rw[mE] at bI;have cL:=p0;have cK:=p1;have cI:=r0;have cH:=r1;have cW:=v1;have dO:=x2;have eG:=x3;clear h fO fV fX;obtain⟨ad,had⟩:∃ a,IntKind.i64.wrap (m+o2)=a:=⟨_,rfl⟩
 obtain⟨vi,hvi⟩:∃ b,inB (64*q.n) (ad)=b:=⟨_,rfl⟩
 have dV:Hid (∀ V lim,Mx q w lim st st V->cq V q.hb 0=some (Pq (q.s 14))->Kz 44 #[Pq (q.s 14),Iz (ad),Iz o3] V fun e w'=>e=.returned (.bool vi)/\Mx q w lim (z1y st (F8 q.n st.W (ad) o3)) st w'/\Out q.lo q.hi V w'):=fun V lim hM hc=>by
  have q0:=bT.out;unfold Od at q0;have q:=(hvi ▸ z5t hM.sp (ad) o3)
  exact q.mono fun e w' ⟨h1,h2,h3⟩=>⟨h1,hM.p bT.out h2 h3,h3⟩
 have eO:Hid (∀ V lim,Mx q w lim (z1y st (F8 q.n st.W (ad) o3)) st V->cq V q.rb 0=some (Pq (q.s2 0))->Kz 79 #[Pq (q.s2 0),Iz (ad),Iz o3] V fun e w'=>e=.returned (.bool vi)/\Mx q w lim (z1y st (F8 q.n st.W (ad) o3)) (z1y st (F8 q.n st.W (ad) o3)) w'/\Out q.lo2 q.hi2 V w'):=fun V lim hM hc=>by
  have q0:=bT.out;unfold Od at q0;have q:=(hvi ▸ z5r hM.rf (ad) o3)
  exact q.mono fun e w' ⟨h1,h2,h3⟩=>⟨h1,hM.r bT.out h2 h3,h3⟩
 have iM:Hid (WI q.n (z1y st (F8 q.n st.W (ad) o3)).W):=HP.out.wi.poke hv _;clear hvi hv;go_enter Tryz.func29,Tryz.ntmps29
 go_wp2_with fail;(try rw[hW]);(try rw[cP]);have iG:w.heap.size<=bo:=Nat.le_of_eq cP;clear hW cP p0 p1 p2 r0 r1 x0 x1 x2 x3 x4 x5 x6 x7 x8 x9 v0 v1 u0 u1 oW hU;obtain⟨lim5,hlm5⟩:∃ l,W.heap.size=l:=⟨_,rfl⟩
 replace aD:=aD.at;rw[hlm5] at aD;have hlim5:eN<=lim5:=by rw[<-hlm5];exact bI
 clear hlm5;have kp:∀ {V V':World} {x y:Nat},(fun w'=>cq w' q.B 0=some (Pq q.hb)/\cq w' q.B 1=some (Pq q.rb)/\cq w' q.hb 0=some (Pq (q.s 14))/\cq w' q.rb 0=some (Pq (q.s2 0))/\cq w' (bo+1) 1=some (Iz m)/\cq w' bo 2=some (Iz o2)/\cq w' bo 3=some (Iz o3)) V->Out x y V V'->(q.B<x\/y<=q.B)/\(q.hb<x\/y<=q.hb)/\(q.rb<x\/y<=q.rb)/\(bo+1<x\/y<=bo+1)/\(bo<x\/y<=bo)->(fun w'=>cq w' q.B 0=some (Pq q.hb)/\cq w' q.B 1=some (Pq q.rb)/\cq w' q.hb 0=some (Pq (q.s 14))/\cq w' q.rb 0=some (Pq (q.s2 0))/\cq w' (bo+1) 1=some (Iz m)/\cq w' bo 2=some (Iz o2)/\cq w' bo 3=some (Iz o3)) V':=fun h o b=>⟨o.cell h.1 b.1,o.cell h.2.1 b.1,o.cell h.2.2.1 b.2.1,o.cell h.2.2.2.1 b.2.2.1,o.cell h.2.2.2.2.1 b.2.2.2.1,o.cell h.2.2.2.2.2.1 b.2.2.2.2,o.cell h.2.2.2.2.2.2 b.2.2.2.2⟩
 refine wp_region_held_drew (S:=fun w'=>cq w' q.B 0=some (Pq q.hb)/\cq w' q.B 1=some (Pq q.rb)/\cq w' q.hb 0=some (Pq (q.s 14))/\cq w' q.rb 0=some (Pq (q.s2 0))/\cq w' (bo+1) 1=some (Iz m)/\cq w' bo 2=some (Iz o2)/\cq w' bo 3=some (Iz o3)) (by kernel_rfl) ?hS338 (fun aB=>?rest338)
 case hS338=>exact⟨cL,cK,cI,cH,cW,dO,eG⟩
 obtain⟨Z5,hZ⟩:∃ Z,W.drew=Z:=⟨_,rfl⟩
 have oZ:Out 0 0 W Z5:=by rw[<-hZ];exact(Out.refl 0 0 _).drew
 rw[hZ] at aB ⊢;replace aD:=aD.quiet oZ;clear hZ oZ cL cK cI cH cW dO eG;refine tk 0 ?_;refine tk 1 ?_;refine tk 2 ?_;refine tk 3 ?_;refine tk 4 ?_;refine tk 5 ?_;refine tk 6 ?_;refine tk 7 ?_;refine tk 8 ?_;refine tk 9 ?_;refine tk 10 ?_;refine tk 11 ?_;refine tk 12 ?_;refine tk 13 ?_;refine tk 15 ?_;refine tk 16 ?_;refine tk 17 ?_;refine tk 18 ?_;refine tk 19 ?_;refine tk 20 ?_;refine tk 21 ?_;refine tk 22 ?_;refine tk 23 ?_;refine tk 24 ?_;refine tk 25 ?_;refine tk 26 ?_;refine tk 27 ?_;refine tk 28 ?_;refine rd1 14 fun KK hK=>?_
 simp only[xa,xb,xc];go_simp;refine(dV.out _ _ aD aB.2.2.1).mono ?_;rintro e Z5_14 ⟨rfl,aH,q1⟩;clear aD;have aD:=aH;clear aH;refine hK.out _ _ (kp aB q1 (by omega)) fun aB=>?_
 clear q1 hK KK;refine rd1 29 fun KK hK=>?_
 simp only[xa,xb,xc];go_simp;refine(eO.out _ _ aD aB.2.2.2.1).mono ?_;rintro e Z5_14_29 ⟨rfl,aH,q1⟩;clear aD;have aD:=aH;clear aH;refine hK.out _ _ (kp aB q1 (by omega)) fun aB=>?_
 clear q1 hK KK;refine tk 30 ?_;refine tk 31 ?_;refine dn ?_;have HE:=Q3 (aD.e9 (st:=st) iM.out (by show st.last<=st.last+1;omega) aB.2.2.1 aB.2.2.2.1);clear aB aD;go_wp2
 all_goals go_ret
 all_goals exact⟨F3 (by simp),HE.out⟩
theorem q9g (h:PB w q st c) (o0 o2 o3 o4 o5 o6 o7 o8 k m k2 m2:Int) (bp:Option Addr) (bl bc:Nat):Kz 29 #[Pq q.B,.agg #[Iz o0,Iz 22,Iz o2,Iz o3,Iz o4,Iz o5,Iz o6,Iz o7,Iz o8,.slice bp bl bc],Vz k m,Vz k2 m2] w fun e w'=>e=.returned (.bool true)/\E9 q st w w':=by
 have HP:=Q3 h;have bT:=Q3 h.od;obtain⟨W,bo,hW,cP,fO,fV,fX,oW,hU⟩:=z9g w (.cells #[Iz o0,Iz 22,Iz o2,Iz o3,Iz o4,Iz o5,Iz o6,Iz o7,Iz o8,.slice bp bl bc] 35) (Dz k m 32) (Dz k2 m2 32);have cM:=h.od;rw[cP] at cM;unfold Od at cM;obtain⟨p0,p1,p2⟩:=(h.quiet oW).cells;have r0:=(h.quiet oW).be.pc;have r1:=(h.quiet oW).be.rc;obtain⟨x0,x1,x2,x3,x4,x5,x6,x7,x8,x9⟩:=q1q fO;obtain⟨v0,v1,_,_⟩:=Q5 fV;obtain⟨u0,u1,_,_⟩:=Q5 fX;have aD:=h.md oW;have bI:bo+3<=W.heap.size:=by omega
 have Hbo:=Q3 cP;obtain⟨eN,mE⟩:∃ b,bo+3=b:=⟨_,rfl⟩
 rw[mE] at bI;have cL:=p0;have cK:=p1;have cI:=r0;have cH:=r1;have cW:=v1;have dO:=x2;have eG:=u0;have mX:=u1;clear h fO fV fX;obtain⟨ad,had⟩:∃ a,IntKind.i64.wrap (m+o2)=a:=⟨_,rfl⟩
 obtain⟨z,hz⟩:∃ z,wrap64 (wrap64 (wrap64 (m2*8)+k2)-1)=z:=⟨_,rfl⟩
 have HZ:Hid (I64 z):=by rw[<-hz];exact q2t _
 have iD:Hid (∀ V,Kz 78 #[Vz k2 m2] V fun e w'=>e=.returned (Iz z)/\Out 0 0 V w'):=fun V=>by
  have q:=z9u k2 m2 V;rw[hz] at q;exact q
 clear hz;obtain⟨vi,hvi⟩:∃ b,inB (64*q.n) (ad)=b:=⟨_,rfl⟩
 have dV:Hid (∀ V lim,Mx q w lim st st V->cq V q.hb 0=some (Pq (q.s 14))->Kz 44 #[Pq (q.s 14),Iz (ad),Iz z] V fun e w'=>e=.returned (.bool vi)/\Mx q w lim (z1y st (F8 q.n st.W (ad) z)) st w'/\Out q.lo q.hi V w'):=fun V lim hM hc=>by
  have q0:=bT.out;unfold Od at q0;have q:=(hvi ▸ z5t hM.sp (ad) z)
  exact q.mono fun e w' ⟨h1,h2,h3⟩=>⟨h1,hM.p bT.out h2 h3,h3⟩
 have eO:Hid (∀ V lim,Mx q w lim (z1y st (F8 q.n st.W (ad) z)) st V->cq V q.rb 0=some (Pq (q.s2 0))->Kz 79 #[Pq (q.s2 0),Iz (ad),Iz z] V fun e w'=>e=.returned (.bool vi)/\Mx q w lim (z1y st (F8 q.n st.W (ad) z)) (z1y st (F8 q.n st.W (ad) z)) w'/\Out q.lo2 q.hi2 V w'):=fun V lim hM hc=>by
  have q0:=bT.out;unfold Od at q0;have q:=(hvi ▸ z5r hM.rf (ad) z)
  exact q.mono fun e w' ⟨h1,h2,h3⟩=>⟨h1,hM.r bT.out h2 h3,h3⟩
 have iM:Hid (WI q.n (z1y st (F8 q.n st.W (ad) z)).W):=HP.out.wi.poke HZ.out _;clear hvi;go_enter Tryz.func29,Tryz.ntmps29
 go_wp2_with fail;(try rw[hW]);(try rw[cP]);have iG:w.heap.size<=bo:=Nat.le_of_eq cP;clear hW cP p0 p1 p2 r0 r1 x0 x1 x2 x3 x4 x5 x6 x7 x8 x9 v0 v1 u0 u1 oW hU;obtain⟨bH,gK⟩:∃ l,W.heap.size=l:=⟨_,rfl⟩
 replace aD:=aD.at;rw[gK] at aD;have mT:eN<=bH:=by rw[<-gK];exact bI
 clear gK;have kp:∀ {V V':World} {x y:Nat},(fun w'=>cq w' q.B 0=some (Pq q.hb)/\cq w' q.B 1=some (Pq q.rb)/\cq w' q.hb 0=some (Pq (q.s 14))/\cq w' q.rb 0=some (Pq (q.s2 0))/\cq w' (bo+1) 1=some (Iz m)/\cq w' bo 2=some (Iz o2)/\cq w' (bo+2) 0=some (Iz k2)/\cq w' (bo+2) 1=some (Iz m2)) V->Out x y V V'->(q.B<x\/y<=q.B)/\(q.hb<x\/y<=q.hb)/\(q.rb<x\/y<=q.rb)/\(bo+1<x\/y<=bo+1)/\(bo<x\/y<=bo)/\(bo+2<x\/y<=bo+2)->(fun w'=>cq w' q.B 0=some (Pq q.hb)/\cq w' q.B 1=some (Pq q.rb)/\cq w' q.hb 0=some (Pq (q.s 14))/\cq w' q.rb 0=some (Pq (q.s2 0))/\cq w' (bo+1) 1=some (Iz m)/\cq w' bo 2=some (Iz o2)/\cq w' (bo+2) 0=some (Iz k2)/\cq w' (bo+2) 1=some (Iz m2)) V':=fun h o b=>⟨o.cell h.1 b.1,o.cell h.2.1 b.1,o.cell h.2.2.1 b.2.1,o.cell h.2.2.2.1 b.2.2.1,o.cell h.2.2.2.2.1 b.2.2.2.1,o.cell h.2.2.2.2.2.1 b.2.2.2.2.1,o.cell h.2.2.2.2.2.2.1 b.2.2.2.2.2,o.cell h.2.2.2.2.2.2.2 b.2.2.2.2.2⟩
 refine wp_region_held_drew (S:=fun w'=>cq w' q.B 0=some (Pq q.hb)/\cq w' q.B 1=some (Pq q.rb)/\cq w' q.hb 0=some (Pq (q.s 14))/\cq w' q.rb 0=some (Pq (q.s2 0))/\cq w' (bo+1) 1=some (Iz m)/\cq w' bo 2=some (Iz o2)/\cq w' (bo+2) 0=some (Iz k2)/\cq w' (bo+2) 1=some (Iz m2)) (by kernel_rfl) ?hS371 (fun aB=>?rest371)
 case hS371=>exact⟨cL,cK,cI,cH,cW,dO,eG,mX⟩
 obtain⟨Z7,hZ⟩:∃ Z,W.drew=Z:=⟨_,rfl⟩
 have oZ:Out 0 0 W Z7:=by rw[<-hZ];exact(Out.refl 0 0 _).drew
 rw[hZ] at aB ⊢;replace aD:=aD.quiet oZ;clear hZ oZ cL cK cI cH cW dO eG mX;refine tk 0 ?_;refine tk 1 ?_;refine tk 2 ?_;refine tk 3 ?_;refine tk 4 ?_;refine tk 5 ?_;refine tk 6 ?_;refine tk 7 ?_;refine tk 8 ?_;refine tk 9 ?_;refine tk 10 ?_;refine tk 11 ?_;refine tk 12 ?_;refine tk 15 ?_;refine tk 16 ?_;refine tk 17 ?_;refine tk 18 ?_;refine tk 19 ?_;refine tk 20 ?_;refine tk 21 ?_;refine tk 22 ?_;refine tk 23 ?_;refine tk 24 ?_;refine tk 25 ?_;refine tk 26 ?_;refine tk 27 ?_;refine rd1 13 fun KK hK=>?_
 simp only[xa,xb,xc];go_simp;refine(iD.out _).mono ?_;rintro e Z7_13 ⟨rfl,q1⟩;replace aD:=aD.quiet q1;refine hK.out _ _ (kp aB q1 (by omega)) fun aB=>?_
 clear q1 hK KK;refine rd1 14 fun KK hK=>?_
 simp only[xa,xb,xc];go_simp;refine(dV.out _ _ aD aB.2.2.1).mono ?_;rintro e Z7_13_14 ⟨rfl,aH,q1⟩;clear aD;have aD:=aH;clear aH;refine hK.out _ _ (kp aB q1 (by omega)) fun aB=>?_
 clear q1 hK KK;refine rd1 28 fun KK hK=>?_
 simp only[xa,xb,xc];go_simp;refine(iD.out _).mono ?_;rintro e Z7_13_14_28 ⟨rfl,q1⟩;replace aD:=aD.quiet q1;refine hK.out _ _ (kp aB q1 (by omega)) fun aB=>?_
 clear q1 hK KK;refine rd1 29 fun KK hK=>?_
 simp only[xa,xb,xc];go_simp;refine(eO.out _ _ aD aB.2.2.2.1).mono ?_;rintro e Z7_13_14_28_29 ⟨rfl,aH,q1⟩;clear aD;have aD:=aH;clear aH;refine hK.out _ _ (kp aB q1 (by omega)) fun aB=>?_
 clear q1 hK KK;refine tk 30 ?_;refine tk 31 ?_;refine dn ?_;have HE:=Q3 (aD.e9 (st:=st) iM.out (by show st.last<=st.last+1;omega) aB.2.2.1 aB.2.2.2.1);clear aB aD;go_wp2
 all_goals go_ret
 all_goals exact⟨F3 (by simp),HE.out⟩
theorem q3u (h:PB w q st c) (o0 o2 o3 o4 o5 o6 o7 o8 k m k2 m2:Int) (bp:Option Addr) (bl bc:Nat) {kd:Int} (hk:kd<20\/25<kd):Kz 29 #[Pq q.B,.agg #[Iz o0,Iz kd,Iz o2,Iz o3,Iz o4,Iz o5,Iz o6,Iz o7,Iz o8,.slice bp bl bc],Vz k m,Vz k2 m2] w fun e w'=>e=.returned (.bool true)/\E9 q st w w':=by
 have HP:=Q3 h;have bT:=Q3 h.od;obtain⟨W,bo,hW,cP,fO,fV,fX,oW,hU⟩:=z9g w (.cells #[Iz o0,Iz kd,Iz o2,Iz o3,Iz o4,Iz o5,Iz o6,Iz o7,Iz o8,.slice bp bl bc] 35) (Dz k m 32) (Dz k2 m2 32);have cM:=h.od;rw[cP] at cM;unfold Od at cM;obtain⟨p0,p1,p2⟩:=(h.quiet oW).cells;have r0:=(h.quiet oW).be.pc;have r1:=(h.quiet oW).be.rc;obtain⟨x0,x1,x2,x3,x4,x5,x6,x7,x8,x9⟩:=q1q fO;obtain⟨v0,v1,_,_⟩:=Q5 fV;obtain⟨u0,u1,_,_⟩:=Q5 fX;have aD:=h.md oW;have bI:bo+3<=W.heap.size:=by omega
 have Hbo:=Q3 cP;obtain⟨eN,mE⟩:∃ b,bo+3=b:=⟨_,rfl⟩
 rw[mE] at bI;clear h fO fV fX;have e20:(kd == 20)=false:=by simp;omega
 have e21:(kd == 21)=false:=by simp;omega
 have e22:(kd == 22)=false:=by simp;omega
 have e23:(kd == 23)=false:=by simp;omega
 have e24:(kd == 24)=false:=by simp;omega
 have e25:(kd == 25)=false:=by simp;omega
 have HE:=Q3 (E9.of_out HP.out oW);go_enter Tryz.func29,Tryz.ntmps29
 go_wp2
 all_goals (try rw[hW])
 go_ret;exact⟨rfl,HE.out⟩
end
section
variable {w:World} {q:Q9} {st:Sp} {c:Nat}
theorem q9h (h:PB w q st c) (o0 o2 o3 o4 o5 o6 o7 o8 k m k2 m2:Int) (bp:Option Addr) (bl bc:Nat) (hv:I64 o3) (hl:st.last<4611686018427387904):Kz 29 #[Pq q.B,.agg #[Iz o0,Iz 23,Iz o2,Iz o3,Iz o4,Iz o5,Iz o6,Iz o7,Iz o8,.slice bp bl bc],Vz k m,Vz k2 m2] w fun e w'=>e=.returned (.bool true)/\E9 q st w w':=by
 have HP:=Q3 h;have bT:=Q3 h.od;obtain⟨W,bo,hW,cP,fO,fV,fX,oW,hU⟩:=z9g w (.cells #[Iz o0,Iz 23,Iz o2,Iz o3,Iz o4,Iz o5,Iz o6,Iz o7,Iz o8,.slice bp bl bc] 35) (Dz k m 32) (Dz k2 m2 32);have cM:=h.od;rw[cP] at cM;unfold Od at cM;obtain⟨p0,p1,p2⟩:=(h.quiet oW).cells;have r0:=(h.quiet oW).be.pc;have r1:=(h.quiet oW).be.rc;obtain⟨x0,x1,x2,x3,x4,x5,x6,x7,x8,x9⟩:=q1q fO;obtain⟨v0,v1,_,_⟩:=Q5 fV;obtain⟨u0,u1,_,_⟩:=Q5 fX;have aD:=h.md oW;have bI:bo+3<=W.heap.size:=by omega
 have Hbo:=Q3 cP;obtain⟨eN,mE⟩:∃ b,bo+3=b:=⟨_,rfl⟩
 rw[mE] at bI;have cL:=p0;have cK:=p1;have cI:=r0;have cH:=r1;have cW:=x2;have dO:=x3;have eG:=x4;clear h fO fV fX;obtain⟨y0,hy0⟩:∃ v,(alF q.n st o2 o3 o4).1=v:=⟨_,rfl⟩
 obtain⟨e0,he0⟩:∃ v,(alF q.n st o2 o3 o4).2.1=v:=⟨_,rfl⟩
 obtain⟨a0,ha0⟩:∃ v,(alF q.n st o2 o3 o4).2.2.1=v:=⟨_,rfl⟩
 have dV:Hid (∀ V lim,Mx q w lim st st V->cq V q.hb 0=some (Pq (q.s 14))->Kz 80 #[Pq (q.s 14),Iz o2,Iz o3,Iz o4] V fun e w'=>e=.returned (.tuple #[Iz y0,Vz e0 a0])/\Mx q w lim (alF q.n st o2 o3 o4).2.2.2 st w'/\Out q.lo q.hi V w'):=fun V lim hM hc=>by
  have q0:=bT.out;unfold Od at q0;have q:=z9c hM.sp o2 o3 o4 hv.1 hv.2 hl;rw[hy0,he0,ha0] at q;exact q.mono fun e w' ⟨h1,h2,h3⟩=>⟨h1,hM.p bT.out h2 h3,h3⟩
 have eO:Hid (∀ V lim,Mx q w lim (alF q.n st o2 o3 o4).2.2.2 st V->cq V q.rb 0=some (Pq (q.s2 0))->Kz 60 #[Pq (q.s2 0),Iz o2,Iz o3,Iz o4] V fun e w'=>e=.returned (.tuple #[Iz y0,Vz e0 a0])/\Mx q w lim (alF q.n st o2 o3 o4).2.2.2 (alF q.n st o2 o3 o4).2.2.2 w'/\Out q.lo2 q.hi2 V w'):=fun V lim hM hc=>by
  have q0:=bT.out;unfold Od at q0;have q:=z1r hM.rf HP.out.inv o2 o3 o4 hv.1 hv.2 (by omega);unfold z7t at q;rw[hy0,he0,ha0] at q;exact q.mono fun e w' ⟨h1,h2,h3⟩=>⟨h1,hM.r bT.out h2 h3,h3⟩
 have iM:Hid (WI q.n (alF q.n st o2 o3 o4).2.2.2.W):=HP.out.wi.al _ _ _;clear hy0 he0 ha0 hv hl;go_enter Tryz.func29,Tryz.ntmps29
 go_wp2_with fail;(try rw[hW]);(try rw[cP]);have iG:w.heap.size<=bo:=Nat.le_of_eq cP;clear hW cP p0 p1 p2 r0 r1 x0 x1 x2 x3 x4 x5 x6 x7 x8 x9 v0 v1 u0 u1 oW hU;obtain⟨lim9,hlm9⟩:∃ l,W.heap.size=l:=⟨_,rfl⟩
 replace aD:=aD.at;rw[hlm9] at aD;have hlim9:eN<=lim9:=by rw[<-hlm9];exact bI
 clear hlm9;rename_i K hK
 apply x2f (K:=K) (F:=fun g1 V=>Mx q w lim9 (alF q.n st o2 o3 o4).2.2.2 st V/\(fun w'=>cq w' q.B 0=some (Pq q.hb)/\cq w' q.B 1=some (Pq q.rb)/\cq w' q.hb 0=some (Pq (q.s 14))/\cq w' q.rb 0=some (Pq (q.s2 0))/\cq w' bo 2=some (Iz o2)/\cq w' bo 3=some (Iz o3)/\cq w' bo 4=some (Iz o4)) V/\V.heap[g1]? = some (Dz e0 a0 46)/\lim9<=g1)
 case h1=>
  intro mC;have HK:=Q3 mC;have kp:∀ {V V':World} {x y:Nat},(fun w'=>cq w' q.B 0=some (Pq q.hb)/\cq w' q.B 1=some (Pq q.rb)/\cq w' q.hb 0=some (Pq (q.s 14))/\cq w' q.rb 0=some (Pq (q.s2 0))/\cq w' bo 2=some (Iz o2)/\cq w' bo 3=some (Iz o3)/\cq w' bo 4=some (Iz o4)) V->Out x y V V'->(q.B<x\/y<=q.B)/\(q.hb<x\/y<=q.hb)/\(q.rb<x\/y<=q.rb)/\(bo<x\/y<=bo)->(fun w'=>cq w' q.B 0=some (Pq q.hb)/\cq w' q.B 1=some (Pq q.rb)/\cq w' q.hb 0=some (Pq (q.s 14))/\cq w' q.rb 0=some (Pq (q.s2 0))/\cq w' bo 2=some (Iz o2)/\cq w' bo 3=some (Iz o3)/\cq w' bo 4=some (Iz o4)) V':=fun h o b=>⟨o.cell h.1 b.1,o.cell h.2.1 b.1,o.cell h.2.2.1 b.2.1,o.cell h.2.2.2.1 b.2.2.1,o.cell h.2.2.2.2.1 b.2.2.2,o.cell h.2.2.2.2.2.1 b.2.2.2,o.cell h.2.2.2.2.2.2 b.2.2.2⟩
  refine wp_region_held_drew (S:=fun w'=>cq w' q.B 0=some (Pq q.hb)/\cq w' q.B 1=some (Pq q.rb)/\cq w' q.hb 0=some (Pq (q.s 14))/\cq w' q.rb 0=some (Pq (q.s2 0))/\cq w' bo 2=some (Iz o2)/\cq w' bo 3=some (Iz o3)/\cq w' bo 4=some (Iz o4)) (by kernel_rfl) ?hS432 (fun aB=>?rest432)
  case hS432=>exact⟨cL,cK,cI,cH,cW,dO,eG⟩
  obtain⟨Z9,hZ⟩:∃ Z,W.drew=Z:=⟨_,rfl⟩
  have oZ:Out 0 0 W Z9:=by rw[<-hZ];exact(Out.refl 0 0 _).drew
  rw[hZ] at aB ⊢;replace aD:=aD.quiet oZ;refine tk 0 ?_;refine tk 1 ?_;refine tk 2 ?_;refine tk 3 ?_;refine tk 4 ?_;refine tk 5 ?_;refine tk 6 ?_;refine tk 7 ?_;refine tk 8 ?_;refine tk 9 ?_;refine tk 10 ?_;refine tk 11 ?_;refine tk 12 ?_;refine rd2 13 17 (fun KK hK=>?_) fun KK hK=>?_
  ·simp only[xa,xb,xc];go_simp;refine(dV.out _ _ aD aB.2.2.1).mono ?_;rintro e Z9_13 ⟨rfl,aH,q1⟩;have aD:=aH;clear aH;refine hK.out _ _ (kp aB q1 (by omega)) fun aB=>?_
   clear q1 hK KK;refine tk 14 ?_;refine tk 15 ?_;refine tk 16 ?_;refine rd1 17 fun KK hK=>?_
   simp only[xa,xb,xc];go_simp;obtain⟨g1,aG⟩:∃ g,Z9_13.heap.size=g:=⟨_,rfl⟩
   obtain⟨lL,hY⟩:∃ V,Z9_13.alloc (Dz 0 0 46)=V:=⟨_,rfl⟩
   have qA:Out 0 0 Z9_13 lL:=by rw[<-hY];exact(Out.refl 0 0 _).alloc _
   have aE:lL.heap[g1]? = some (Dz 0 0 46):=by rw[<-hY,<-aG];exact heap_alloc_new _ _
   have aU:lim9<=g1:=by rw[<-aG];exact aD.lim
   (try rw[hY]);(try rw[aG]);clear hY aG;replace aD:=aD.quiet qA;refine hK.out _ _ (kp aB qA (by omega)) fun aB=>?_
   clear qA hK KK;refine tk 18 ?_;refine rd1 19 fun KK hK=>?_
   simp only[xa,xb,xc];obtain⟨y0,y1,y2,y3⟩:=flt_facts aE;go_simp;obtain⟨mZ,hY⟩:∃ V,((lL.setCell ⟨g1,0,none⟩ (Iz e0)).setCell ⟨g1,1,none⟩ (Iz a0))=V:=⟨_,rfl⟩
   have qS:Out g1 (g1+1) lL mZ:=by rw[<-hY];exact(Out.refl _ _ _).zo2 Lz _ _
   replace aE:mZ.heap[g1]? = some (Dz e0 a0 46):=by rw[<-hY];simp[World.setCell,Array.getElem?_modify,aE]
   (try rw[hY]);clear hY;replace aD:=aD.far qS bT.out (by omega);refine hK.out _ _ (kp aB qS (by omega)) fun aB=>?_
   clear qS hK KK;refine dn ?_;exact HK.out g1 _ ⟨aD,aB,aE,aU⟩
  ·simp only[xa,xb,xc];go_simp;obtain⟨g1,aG⟩:∃ g,Z9.heap.size=g:=⟨_,rfl⟩
   obtain⟨Z9_17,hY⟩:∃ V,Z9.alloc (Dz 0 0 46)=V:=⟨_,rfl⟩
   have qA:Out 0 0 Z9 Z9_17:=by rw[<-hY];exact(Out.refl 0 0 _).alloc _
   have aE:Z9_17.heap[g1]? = some (Dz 0 0 46):=by rw[<-hY,<-aG];exact heap_alloc_new _ _
   have aU:lim9<=g1:=by rw[<-aG];exact aD.lim
   (try rw[hY]);(try rw[aG]);clear hY aG;replace aD:=aD.quiet qA;refine hK.out _ _ (kp aB qA (by omega)) fun aB=>?_
   clear qA hK KK;refine rd1 13 fun KK hK=>?_
   simp only[xa,xb,xc];go_simp;refine(dV.out _ _ aD aB.2.2.1).mono ?_;rintro e Z9_17_13 ⟨rfl,aH,q1⟩;have aD:=aH;clear aH;replace aE:=q1.heap aE (by omega);refine hK.out _ _ (kp aB q1 (by omega)) fun aB=>?_
   clear q1 hK KK;refine tk 14 ?_;refine tk 15 ?_;refine tk 16 ?_;refine tk 18 ?_;refine rd1 19 fun KK hK=>?_
   simp only[xa,xb,xc];obtain⟨y0,y1,y2,y3⟩:=flt_facts aE;go_simp;obtain⟨mY,hY⟩:∃ V,((Z9_17_13.setCell ⟨g1,0,none⟩ (Iz e0)).setCell ⟨g1,1,none⟩ (Iz a0))=V:=⟨_,rfl⟩
   have qS:Out g1 (g1+1) Z9_17_13 mY:=by rw[<-hY];exact(Out.refl _ _ _).zo2 Lz _ _
   replace aE:mY.heap[g1]? = some (Dz e0 a0 46):=by rw[<-hY];simp[World.setCell,Array.getElem?_modify,aE]
   (try rw[hY]);clear hY;replace aD:=aD.far qS bT.out (by omega);refine hK.out _ _ (kp aB qS (by omega)) fun aB=>?_
   clear qS hK KK;refine dn ?_;exact HK.out g1 _ ⟨aD,aB,aE,aU⟩
 case h2=>
  intro g1 V1 hF;obtain⟨aD,⟨cL,cK,cI,cH,cW,dO,eG⟩,aE,aU⟩:=hF;apply hK;clear hK;have bI:eN<=V1.heap.size:=Nat.le_trans hlim9 aD.lim;go_wp2_with fail;obtain⟨pJ,hlm10⟩:∃ l,V1.heap.size=l:=⟨_,rfl⟩
  replace aD:=aD.at;rw[hlm10] at aD;have hlim10:eN<=pJ:=by rw[<-hlm10];exact bI
  have pR:g1<pJ:=by rw[<-hlm10];exact Q8 aE
  clear hlm10;rename_i K hK
  apply x2f (K:=K) (F:=fun g2 V=>Mx q w pJ (alF q.n st o2 o3 o4).2.2.2 (alF q.n st o2 o3 o4).2.2.2 V/\(fun w'=>cq w' q.B 0=some (Pq q.hb)/\cq w' q.B 1=some (Pq q.rb)/\cq w' q.hb 0=some (Pq (q.s 14))/\cq w' q.rb 0=some (Pq (q.s2 0))/\cq w' bo 2=some (Iz o2)/\cq w' bo 3=some (Iz o3)/\cq w' bo 4=some (Iz o4)) V/\V.heap[g2]? = some (Dz e0 a0 111)/\pJ<=g2/\V.heap[g1]? = some (Dz e0 a0 46))
  case h1=>
   intro mC;have HK:=Q3 mC;have kp:∀ {V V':World} {x y:Nat},(fun w'=>cq w' q.B 0=some (Pq q.hb)/\cq w' q.B 1=some (Pq q.rb)/\cq w' q.hb 0=some (Pq (q.s 14))/\cq w' q.rb 0=some (Pq (q.s2 0))/\cq w' bo 2=some (Iz o2)/\cq w' bo 3=some (Iz o3)/\cq w' bo 4=some (Iz o4)) V->Out x y V V'->(q.B<x\/y<=q.B)/\(q.hb<x\/y<=q.hb)/\(q.rb<x\/y<=q.rb)/\(bo<x\/y<=bo)->(fun w'=>cq w' q.B 0=some (Pq q.hb)/\cq w' q.B 1=some (Pq q.rb)/\cq w' q.hb 0=some (Pq (q.s 14))/\cq w' q.rb 0=some (Pq (q.s2 0))/\cq w' bo 2=some (Iz o2)/\cq w' bo 3=some (Iz o3)/\cq w' bo 4=some (Iz o4)) V':=fun h o b=>⟨o.cell h.1 b.1,o.cell h.2.1 b.1,o.cell h.2.2.1 b.2.1,o.cell h.2.2.2.1 b.2.2.1,o.cell h.2.2.2.2.1 b.2.2.2,o.cell h.2.2.2.2.2.1 b.2.2.2,o.cell h.2.2.2.2.2.2 b.2.2.2⟩
   refine wp_region_held_drew (S:=fun w'=>cq w' q.B 0=some (Pq q.hb)/\cq w' q.B 1=some (Pq q.rb)/\cq w' q.hb 0=some (Pq (q.s 14))/\cq w' q.rb 0=some (Pq (q.s2 0))/\cq w' bo 2=some (Iz o2)/\cq w' bo 3=some (Iz o3)/\cq w' bo 4=some (Iz o4)) (by kernel_rfl) ?hS404 (fun aB=>?rest404)
   case hS404=>exact⟨cL,cK,cI,cH,cW,dO,eG⟩
   obtain⟨Z10,hZ⟩:∃ Z,V1.drew=Z:=⟨_,rfl⟩
   have oZ:Out 0 0 V1 Z10:=by rw[<-hZ];exact(Out.refl 0 0 _).drew
   rw[hZ] at aB ⊢;replace aD:=aD.quiet oZ;replace aE:=oZ.heap aE Oz;refine tk 0 ?_;refine tk 1 ?_;refine tk 2 ?_;refine tk 3 ?_;refine tk 4 ?_;refine tk 5 ?_;refine tk 6 ?_;refine tk 7 ?_;refine tk 8 ?_;refine tk 9 ?_;refine tk 10 ?_;refine tk 11 ?_;refine tk 12 ?_;refine rd2 13 17 (fun KK hK=>?_) fun KK hK=>?_
   ·simp only[xa,xb,xc];go_simp;refine(eO.out _ _ aD aB.2.2.2.1).mono ?_;rintro e Z10_13 ⟨rfl,aH,q1⟩;have aD:=aH;clear aH;replace aE:=q1.heap aE (by omega);refine hK.out _ _ (kp aB q1 (by omega)) fun aB=>?_
    clear q1 hK KK;refine tk 14 ?_;refine tk 15 ?_;refine tk 16 ?_;refine rd1 17 fun KK hK=>?_
    simp only[xa,xb,xc];go_simp;obtain⟨g2,aG⟩:∃ g,Z10_13.heap.size=g:=⟨_,rfl⟩
    obtain⟨kK,hY⟩:∃ V,Z10_13.alloc (Dz 0 0 111)=V:=⟨_,rfl⟩
    have qA:Out 0 0 Z10_13 kK:=by rw[<-hY];exact(Out.refl 0 0 _).alloc _
    have aF:kK.heap[g2]? = some (Dz 0 0 111):=by rw[<-hY,<-aG];exact heap_alloc_new _ _
    have aT:pJ<=g2:=by rw[<-aG];exact aD.lim
    (try rw[hY]);(try rw[aG]);clear hY aG;replace aD:=aD.quiet qA;replace aE:=qA.heap aE Oz;refine hK.out _ _ (kp aB qA (by omega)) fun aB=>?_
    clear qA hK KK;refine tk 18 ?_;refine rd1 19 fun KK hK=>?_
    simp only[xa,xb,xc];obtain⟨y0,y1,y2,y3⟩:=flt_facts aF;go_simp;obtain⟨lZ,hY⟩:∃ V,((kK.setCell ⟨g2,0,none⟩ (Iz e0)).setCell ⟨g2,1,none⟩ (Iz a0))=V:=⟨_,rfl⟩
    have qS:Out g2 (g2+1) kK lZ:=by rw[<-hY];exact(Out.refl _ _ _).zo2 Lz _ _
    replace aF:lZ.heap[g2]? = some (Dz e0 a0 111):=by rw[<-hY];simp[World.setCell,Array.getElem?_modify,aF]
    (try rw[hY]);clear hY;replace aD:=aD.far qS bT.out (by omega);replace aE:=qS.heap aE (by omega);refine hK.out _ _ (kp aB qS (by omega)) fun aB=>?_
    clear qS hK KK;refine dn ?_;exact HK.out g2 _ ⟨aD,aB,aF,aT,aE⟩
   ·simp only[xa,xb,xc];go_simp;obtain⟨g2,aG⟩:∃ g,Z10.heap.size=g:=⟨_,rfl⟩
    obtain⟨Z10_17,hY⟩:∃ V,Z10.alloc (Dz 0 0 111)=V:=⟨_,rfl⟩
    have qA:Out 0 0 Z10 Z10_17:=by rw[<-hY];exact(Out.refl 0 0 _).alloc _
    have aF:Z10_17.heap[g2]? = some (Dz 0 0 111):=by rw[<-hY,<-aG];exact heap_alloc_new _ _
    have aT:pJ<=g2:=by rw[<-aG];exact aD.lim
    (try rw[hY]);(try rw[aG]);clear hY aG;replace aD:=aD.quiet qA;replace aE:=qA.heap aE Oz;refine hK.out _ _ (kp aB qA (by omega)) fun aB=>?_
    clear qA hK KK;refine rd1 13 fun KK hK=>?_
    simp only[xa,xb,xc];go_simp;refine(eO.out _ _ aD aB.2.2.2.1).mono ?_;rintro e Z10_17_13 ⟨rfl,aH,q1⟩;have aD:=aH;clear aH;replace aE:=q1.heap aE (by omega);replace aF:=q1.heap aF (by omega);refine hK.out _ _ (kp aB q1 (by omega)) fun aB=>?_
    clear q1 hK KK;refine tk 14 ?_;refine tk 15 ?_;refine tk 16 ?_;refine tk 18 ?_;refine rd1 19 fun KK hK=>?_
    simp only[xa,xb,xc];obtain⟨y0,y1,y2,y3⟩:=flt_facts aF;go_simp;obtain⟨lY,hY⟩:∃ V,((Z10_17_13.setCell ⟨g2,0,none⟩ (Iz e0)).setCell ⟨g2,1,none⟩ (Iz a0))=V:=⟨_,rfl⟩
    have qS:Out g2 (g2+1) Z10_17_13 lY:=by rw[<-hY];exact(Out.refl _ _ _).zo2 Lz _ _
    replace aF:lY.heap[g2]? = some (Dz e0 a0 111):=by rw[<-hY];simp[World.setCell,Array.getElem?_modify,aF]
    (try rw[hY]);clear hY;replace aD:=aD.far qS bT.out (by omega);replace aE:=qS.heap aE (by omega);refine hK.out _ _ (kp aB qS (by omega)) fun aB=>?_
    clear qS hK KK;refine dn ?_;exact HK.out g2 _ ⟨aD,aB,aF,aT,aE⟩
  case h2=>
   intro g2 V2 hF;obtain⟨aD,⟨cL,cK,cI,cH,cW,dO,eG⟩,aF,aT,aE⟩:=hF;apply hK;clear hK;have bI:eN<=V2.heap.size:=Nat.le_trans hlim10 aD.lim;have HE:=Q3 (aD.e9 (st:=st) iM.out (z9a _ _ _) cI cH);obtain⟨z0,z1,z2,z3⟩:=flt_facts aE;obtain⟨zz0,zz1,zz2,zz3⟩:=flt_facts aF;clear aD cL cK cI cH cW dO eG;go_wp2
   all_goals go_ret
   all_goals exact⟨F3 (by simp),HE.out⟩
end
end Go.Proofs.YtjgnogflgoihfaaGreatDoor
