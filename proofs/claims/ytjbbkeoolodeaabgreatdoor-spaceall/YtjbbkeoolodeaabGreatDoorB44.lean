import Derived.Test.YtjbbkeoolodeaabGreatDoorB43
import Derived.Laws.OwnMore
import Derived.Test.YtjbbkeoolodeaabGreatDoorB19
namespace Go.Proofs.YtjbbkeoolodeaabGreatDoor
open Go.RowKit
set_option linter.unusedVariables false
set_option maxRecDepth 100000
set_option maxHeartbeats 16000000
set_option linter.unusedSimpArgs false
def lnV (l:List Int) (j:Nat):Value:=.int .i64 (if j<l.length then l[j]?.getD 0 else -71-(j:Int))
theorem q5x {w:World} {G cc cp:Nat} {l:List Int} {p:Option Addr} (hr:Row w G 3 (l.length+20) (lnV l)) (hl:z2x w p l) (hn:l.length<=4000) :
  Calls Tryz.prog 30 #[.slice (some ⟨G,0,none⟩) (l.length+20) cc,.slice p l.length cp] w fun e w'=>e=.returned (.bool true)/\Out G (G+1) w w':=by
 have HR:=Z0 hr;have HLi:=Z0 hl;obtain⟨N,hN⟩:∃ N,l.length=N:=⟨_,rfl⟩
 have HN:=Z0 hN;rw[hN] at hn ⊢;obtain⟨T,hT⟩:∃ T,N+20=T:=⟨_,rfl⟩
 rw[hT];have HT:=Z0 hT;have N1:(N:Int)<=4000:=by omega
 have N0:(0:Int)<=(N:Int):=by omega
 have T1:(N:Int)+20=(T:Int):=by omega
 clear hr hl hN hn hT;go_enter Tryz.func30,Tryz.ntmps30
 go_wp2_with fail;go_loopw [6,7] (fun ok u wr=>∃ i:Nat,u=.int .i64 (i:Int)/\i<=T/\ok=.bool true/\Out 0 0 w wr) (fun _ u _=>T-(intOf u).toNat)
 case atStart=>exact⟨0,rfl,Nat.zero_le _,by simp,Out.refl _ _ _⟩
 case round=>
  obtain⟨i,rfl,ib,rfl,hO⟩:=hrel;have HO:=Z0 hO;have i0:(0:Int)<=(i:Int):=by omega
  by_cases hi:i<T
  ·have i1:(i:Int)<(T:Int):=by omega
   have d0:=(HR.out.kept HO.out z0).cell (i:=i) (by have:=HT.out;have:=HN.out;omega);unfold lnV at d0;rw[HN.out] at d0;by_cases hin:i<N
   ·have i2:(i:Int)<(N:Int):=by omega
    have e2:decide ((i:Int)<(N:Int))=true:=by simpa using hin
    rw[if_pos hin] at d0;obtain⟨x,hx⟩:∃ x,l[i]?.getD 0=x:=⟨_,rfl⟩
    rw[hx] at d0;obtain⟨g,off,rfl,d1⟩:∃ g off,p=some ⟨g,off,none⟩/\wr.cell? ⟨g,off+i,none⟩=some (.int .i64 x):=by
     rcases HLi.out with e | ⟨g,off,e,h1,h2⟩
     ·have:=HN.out;rw[e] at this;simp at this;omega
     ·have:=h2 i (by have:=HN.out;omega);rw[hx] at this;exact⟨g,off,e,HO.out.cell this z0⟩
    clear hx hin hO;go_wp2_with fail;refine wp_region_held_drew (S:=fun w'=>w'.cell? ⟨G,i,none⟩=some (.int .i64 x)/\w'.cell? ⟨g,off+i,none⟩=some (.int .i64 x)) (by kernel_rfl) ?hS1 (fun hHeld=>?rest1)
    case hS1=>exact⟨d0,d1⟩
    refine tk 0 ?_;refine tk 1 ?_;refine tk 2 ?_;refine tk 3 ?_;refine tk 4 ?_;refine tk 5 ?_;refine tk 6 ?_;refine tk 7 ?_;refine tk 8 ?_;refine tk 9 ?_;refine tk 10 ?_;refine tk 11 ?_;refine tk 12 ?_;refine tk 13 ?_;refine tk 14 ?_;refine sk 15 ?_;refine sk 16 ?_;refine sk 17 ?_;refine sk 18 ?_;refine sk 19 ?_;refine sk 20 ?_;refine sk 21 ?_;refine sk 22 ?_;refine sk 23 ?_;refine sk 24 ?_;refine sk 25 ?_;refine sk 26 ?_;refine tk 27 ?_;refine tk 28 ?_;refine dn ?_;clear hHeld;go_wp2_with fail;exact⟨⟨i+1,by congr 1,by omega,by first | rfl | simp,HO.out.drew⟩,by simp[intOf] <;> omega⟩
   ·have e2:decide ((i:Int)<(N:Int))=false:=by simpa using hin
    have e3:decide ((N:Int)<=(i:Int))=true:=by simp;omega
    have e4:decide (i<N)=false:=by simpa using hin
    have e5:decide (N<=i)=true:=by simp;omega
    rw[if_neg hin] at d0;have hwi:IntKind.i64.wrap (-71-(i:Int)) = -71-(i:Int):=by simp[IntKind.wrap,IntKind.signed,IntKind.bits];omega
    clear hin hO;go_wp2_with fail;refine wp_region_held_drew (S:=fun w'=>w'.cell? ⟨G,i,none⟩=some (.int .i64 (-71-(i:Int)))) (by kernel_rfl) ?hS31 (fun hHeld=>?rest31)
    case hS31=>exact d0
    refine tk 0 ?_;refine tk 1 ?_;refine tk 2 ?_;refine tk 3 ?_;refine sk 4 ?_;refine sk 5 ?_;refine sk 6 ?_;refine sk 7 ?_;refine sk 8 ?_;refine sk 9 ?_;refine sk 10 ?_;refine sk 11 ?_;refine sk 12 ?_;refine tk 13 ?_;refine tk 14 ?_;refine tk 15 ?_;refine tk 16 ?_;refine tk 17 ?_;refine tk 18 ?_;refine tk 19 ?_;refine tk 20 ?_;refine tk 21 ?_;refine tk 22 ?_;refine tk 23 ?_;refine tk 24 ?_;refine tk 25 ?_;refine tk 26 ?_;refine tk 27 ?_;refine tk 28 ?_;refine dn ?_;clear hHeld;go_wp2_with fail;exact⟨⟨i+1,by congr 1,by omega,by first | rfl | simp,HO.out.drew⟩,by simp[intOf] <;> omega⟩
  ·have e:i=T:=by omega
   subst e;clear hO;go_wp2_with fail;go_loopw [8] (fun u wq=>∃ (j:Nat) (f:Nat->Value),u=.int .i64 (j:Int)/\j<=i/\Row wq G 3 i f/\Out G (G+1) w wq) (fun u _=>i-(intOf u).toNat)
   case atStart=>exact⟨0,_,rfl,Nat.zero_le _,by have:=HR.out.kept HO.out z0;rw[HN.out,HT.out] at this;exact this,HO.out.any _ _⟩
   case round=>
    obtain⟨j,f,rfl,jb,hr,ho⟩:=hrel;have j0:(0:Int)<=(j:Int):=by omega
    by_cases hj:j<i
    ·have j1:(j:Int)<(i:Int):=by omega
     have d0:=hr.cell hj;have d1:=hr.frozen j;obtain⟨v,hv⟩:∃ v,f j=v:=⟨_,rfl⟩
     rw[hv] at d0;have HS:=Z0 (And.intro (hr.set j (.int .i64 7)) (ho.setCell (p:=⟨G,j,none⟩) z1 (.int .i64 7)));clear hr ho hv;go_wp2_with fail;exact⟨⟨j+1,_,by congr 1,by omega,HS.out.1,HS.out.2⟩,by simp[intOf] <;> omega⟩
    ·have e:j=i:=by omega
     subst e;have HO:=Z0 ho;clear hr ho;go_wp2;go_ret;exact⟨rfl,HO.out⟩
def zs:List Value:=List.replicate 20 (.int .i64 0)
theorem z9o:Builtin.zeroCells #[Value.int .i64 0] 20=zs.toArray:=by kernel_rfl
theorem q4h:Tryz.prog.underlying 3=some (.int .i64):=by kernel_rfl
theorem q9r (xs ys:List Value) (Z:Array Value):xs.toArray ++ (ys.toArray ++ Z)=(xs ++ ys).toArray ++ Z:=by
 apply Array.ext';simp[List.append_assoc]
theorem z8o (w:World) (ty:TypeId) (g n cap:Nat) (xs:List Value) (hlo:xs.length=n*1) (holds:∀ j v,xs[j]? = some v->w.cell? ((⟨g,0,none⟩:Addr).add j)=some v) (hg:cap<n+20) (hn:n<=4000) :
  (Builtin.append_ #[30,3] ty #[.slice (some ⟨g,0,none⟩) n cap,.int .i64 20]).run Tryz.prog w =
   .ok (.slice (some ⟨w.heap.size,0,none⟩) (n+20) (grownCap w (n+20) cap 3))
    (w.drew.alloc (.cells (xs.toArray ++ zs.toArray ++ Builtin.zeroCells #[Value.int .i64 0] (grownCap w (n+20) cap 3-(n+20))) 3)):=by
 obtain⟨i0,hi,hz0,hz1,hz2⟩:=Q3 z1y;have hn':¬ (n+20<=cap):=by omega
 have h63':¬ (9223372036854775807<((n:Int)+20)):=by omega
 have h48':¬ (281474976710656<Builtin.nextslicecap (n+20) cap*8):=by
  have:=growslice_fits (need:=n+20) (old:=cap) (bytes:=8) hg (by omega);omega
 have hfo:=run_firstCells_some (P:=Tryz.prog) w.drew 1 n ⟨g,0,none⟩ n cap xs hlo (by simpa using holds);have hw:IntKind.i64.wrap 20=20:=by decide
 simp[Builtin.append_,run_underlying Tryz.underlying30,run_underlying q4h,sizeOf,typeInfo,zeroValue,hi,hz0,hz1,hz2,asInt,asIntOf,hw,hn',h63',h48',Question.forced,hfo,newRow,grownCap,z9o,Value.cells];rw[if_neg (by omega),q9r]
theorem q0e (w:World) (ty:TypeId) :
  (Builtin.append_ #[30,3] ty #[.slice none 0 0,.int .i64 20]).run Tryz.prog w =
   .ok (.slice (some ⟨w.heap.size,0,none⟩) 20 (grownCap w 20 0 3))
    (w.drew.alloc (.cells (zs.toArray ++ Builtin.zeroCells #[Value.int .i64 0] (grownCap w 20 0 3-20)) 3)):=by
 obtain⟨i0,hi,hz0,hz1,hz2⟩:=Q3 z1y;have hw:IntKind.i64.wrap 20=20:=by decide
 have h48':¬ (281474976710656<Builtin.nextslicecap 20 0*8):=by decide
 simp[Builtin.append_,run_underlying Tryz.underlying30,run_underlying q4h,sizeOf,typeInfo,zeroValue,hi,hz0,hz1,hz2,asInt,asIntOf,hw,h48',Question.forced,run_firstCells_none,newRow,grownCap,z9o,Value.cells];intro h;exfalso
 omega
theorem z8n (w:World) (ty:TypeId) (g n cap:Nat) (cur:Array Value) (hg:w.heap[g]? = some (.cells cur 3 (0,0))) (hroom:n+20<=cap) (hfit:n+20<=cur.size) :
  (Builtin.append_ #[30,3] ty #[.slice (some ⟨g,0,none⟩) n cap,.int .i64 20]).run Tryz.prog w =
   .ok (.slice (some ⟨g,0,none⟩) (n+20) cap) (w.setRow g (cur.toList.take n ++ zs ++ cur.toList.drop (n+20)).toArray):=by
 obtain⟨i0,hi,hz0,hz1,hz2⟩:=Q3 z1y;have hw:IntKind.i64.wrap 20=20:=by decide
 have hst:=run_storeCells_at Tryz.prog g n 3 zs 0 cur w hg (by simpa [zs] using hfit) (by intro u hu;simp[zs] at hu;subst hu;rfl);simp only[Nat.add_zero] at hst;rw[show zs.length=20 from rfl] at hst;simp[Builtin.append_,run_underlying Tryz.underlying30,run_underlying q4h,sizeOf,typeInfo,zeroValue,hi,hz0,hz1,hz2,asInt,asIntOf,hw,hroom,Addr.add_lit,hst,z9o,Value.cells]
theorem j2a (w:World) (ty:TypeId) (base:Nat) (v:Value) (n:Nat) (xs:List Value) (hown:w.ownsRow base 3 1 v n xs) (hn:n<=4000) (hbase:base<=w.heap.size) :
  ∃ g cap w',(Builtin.append_ #[30,3] ty #[v,.int .i64 20]).run Tryz.prog w=.ok (.slice (some ⟨g,0,none⟩) (n+20) cap) w'/\w'.ownsRow base 3 1 (.slice (some ⟨g,0,none⟩) (n+20) cap) (n+20) (xs ++ zs)/\w.grownBy w' v.ownBlock:=by
 have hzl:zs.length=20:=rfl;have hlen:(xs ++ zs).length=(n+20)*1:=by rw[List.length_append,hown.1,hzl];omega
 have grown:∀ (old:Nat) (row:Option Nat),
   (w.drew.alloc (.cells (xs.toArray ++ zs.toArray ++ Builtin.zeroCells #[Value.int .i64 0] (grownCap w (n+20) old 3-(n+20))) 3)).ownsRow base 3 1 (.slice (some ⟨w.heap.size,0,none⟩) (n+20) (grownCap w (n+20) old 3)) (n+20) (xs ++ zs) ∧
   w.grownBy (w.drew.alloc (.cells (xs.toArray ++ zs.toArray ++ Builtin.zeroCells #[Value.int .i64 0] (grownCap w (n+20) old 3-(n+20))) 3)) row:=by
  intro old row;have hge:=grownCap_ge w (n+20) old 3;have hcm:grownCap w (n+20) old 3<=maxLen:=grownCap_le_maxLen w (n+20) old 3 (by unfold maxLen;omega);refine⟨⟨hlen,.inr ⟨w.heap.size,_,_,rfl,hbase,heap_alloc_new w.drew _,hge,hcm,?_,?_⟩⟩,⟨rfl,rfl,rfl,by simp,fun k hk _=>heap_alloc_old w.drew _ hk⟩⟩
  ·simp only[Array.size_append,List.size_toArray,size_zeroCells,hown.1,hzl];simp;omega
  ·simp only[Array.toList_append,List.append_assoc];rw[<-List.append_assoc,<-hlen];exact List.take_left
 rcases hown.2 with ⟨rfl,rfl⟩ | ⟨g,cap,cur,rfl,hbg,hg,hnc,hcm,hcs,htake⟩
 ·have hx:xs=[]:=List.eq_nil_of_length_eq_zero (by simpa using hown.1);subst hx;have hgr:=grown 0 (Value.ownBlock (.slice none 0 0));have hr:=q0e w ty;simp only[Nat.zero_add,List.nil_append,Array.empty_append] at hgr ⊢;exact⟨_,_,_,hr,hgr.1,hgr.2⟩
 ·by_cases hroom:n+20<=cap
  ·have hr:=z8n w ty g n cap cur hg hroom (by omega);refine⟨_,_,_,hr,⟨hlen,.inr ⟨g,cap,_,rfl,hbg,setRow_heap w g cur _ 3 _ hg,hroom,hcm,?_,?_⟩⟩,⟨rfl,rfl,rfl,by simp,fun k _ hk=>setRow_other w g k _ (fun e=>hk (by simp[Value.ownBlock,e]))⟩⟩
   ·simp only[List.size_toArray,List.length_append,List.length_take,List.length_drop,Array.length_toList,hzl];omega
   ·rw[Nat.mul_one] at htake;rw[htake,<-hlen];exact List.take_left
  ·have hr:=z8o w ty g n cap xs hown.1 (hown.cells (g:=g) rfl) (by omega) hn;have hgr:=grown cap (Value.ownBlock (.slice (some ⟨g,0,none⟩) n cap));exact⟨_,_,_,hr,hgr.1,hgr.2⟩
theorem j7w (l:List Int) (j:Nat):(ivs l)[j]? = (l[j]?).map fun x=>.int .i64 x:=by unfold ivs;rw[List.getElem?_map]
theorem x1s (l:List Int):∀ u ∈ ivs l,u.oneCell'=true:=by
 intro u hu;unfold ivs at hu;rw[List.mem_map] at hu;obtain⟨x,_,rfl⟩:=hu;rfl
theorem q5o (l:List Int):(ivs l).length=l.length:=by unfold ivs;simp
theorem j4l (w:World) (ty:TypeId) (p:Option Addr) (c:Nat):(Builtin.append_ #[30,30] ty #[.slice none 0 0,.slice p 0 c]).run Tryz.prog w=.ok (.slice none 0 0) w:=by
 obtain⟨i0,hi,hz0,hz1,hz2⟩:=Q3 z1y;cases p <;> simp[Builtin.append_,run_underlying Tryz.underlying30,sizeOf,typeInfo,hi,Builtin.lenOf,Builtin.firstCells,loadCells,loadCellsFrom]
theorem q2a {ops:Array Oper} {rest:List Oper} {o:Oper} {ac:Go.Act} {w:World} {Q:Exit->Go.Act->World->Prop} (hgd:o.guard=none) (sx xx:Operand)
  (ho:o.op=.call { callee:=.builtin .append,args:=#[sx,xx],argTypes:=#[30,3] }) (base:Nat) (v:Value) (n:Nat) (xs:List Value) (hs:ac.eval sx=v) (hx:ac.eval xx=.int .i64 20) (hown:w.ownsRow base 3 1 v n xs) (hn:n<=4000) (hbase:base<=w.heap.size)
  (h:∀ g cap w',w'.ownsRow base 3 1 (.slice (some ⟨g,0,none⟩) (n+20) cap) (n+20) (xs ++ zs)->w.grownBy w' v.ownBlock->wpList Tryz.prog ops Q rest (ac.put o.dst (.slice (some ⟨g,0,none⟩) (n+20) cap)) w'):wpList Tryz.prog ops Q (o :: rest) ac w:=
 wpList_plain hgd fun _ hK=>by
  obtain⟨g,cap,w',hr,h2,h3⟩:=j2a w o.type base v n xs hown hn hbase;unfold Oper.wp execOp;simp only[ho,resolve,invoke,builtin,Sem.run_bind,Sem.run_pure,Result.andThen_ok,List.map_toArray,List.map_cons,List.map_nil,hs,hx,hr];exact hK _ _ (h g cap w' h2 h3)
theorem q4f {ops:Array Oper} {rest:List Oper} {o:Oper} {ac:Go.Act} {w:World} {Q:Exit->Go.Act->World->Prop} (hgd:o.guard=none) (sx xx:Operand)
  (ho:o.op=.call { callee:=.builtin .append,args:=#[sx,xx],argTypes:=#[30,30] }) {l:List Int} {p:Option Addr} {cp:Nat} (hs:ac.eval sx=.slice none 0 0) (hx:ac.eval xx=.slice p l.length cp) (hl:z2x w p l) (hn:l.length<=4000)
  (h:∀ v w',w'.ownsRow w.heap.size 3 1 v l.length (ivs l)->Out 0 0 w w'->wpList Tryz.prog ops Q rest (ac.put o.dst v) w'):wpList Tryz.prog ops Q (o :: rest) ac w:=
 wpList_plain hgd fun _ hK=>by
  have key:∃ v w',(Builtin.append_ #[30,30] o.type #[.slice none 0 0,.slice p l.length cp]).run Tryz.prog w=.ok v w'/\w'.ownsRow w.heap.size 3 1 v l.length (ivs l)/\Out 0 0 w w':=by
   rcases hl with rfl | ⟨g,off,rfl,h1,h2⟩
   ·exact⟨_,_,j4l w o.type p cp,World.ownsRow_nil _ _ _ 1,Out.refl _ _ _⟩
   ·obtain⟨i0,hi0,hz0,hz1,hz2⟩:=Q3 z1y;obtain⟨v2,w',hrun,hown2,hgrow,_⟩:=run_append_own (P:=Tryz.prog) w w.heap.size 30 o.type 3 i0 (.int .i64 0) 1 8 Tryz.underlying30 hi0 hz0 hz1 hz2 rfl (by decide) (.slice none 0 0) 0 [] (World.ownsRow_nil _ _ _ 1) ⟨g,off,none⟩ l.length cp (ivs l) (by rw[q5o];omega) (by
      intro j u hj;rw[j7w] at hj;obtain⟨x,hx1,rfl⟩:=Option.map_eq_some_iff.1 hj;rw[Addr.add_lit,h2 j (List.getElem?_eq_some_iff.1 hx1).1,hx1];rfl) (x1s l) (by unfold maxLen;omega) (by omega) (Nat.le_refl _)
    rw[Nat.zero_add,List.nil_append] at hown2;exact⟨v2,w',hrun,hown2,⟨hgrow.os,hgrow.tape,hgrow.output,hgrow.size,fun j h1 h2=>hgrow.block j h1 (by simp[Value.ownBlock])⟩⟩
  obtain⟨v,w',hr,h2,h3⟩:=key;unfold Oper.wp execOp;simp only[ho,resolve,invoke,builtin,Sem.run_bind,Sem.run_pure,Result.andThen_ok,List.map_toArray,List.map_cons,List.map_nil,hs,hx,hr];exact hK _ _ (h v w' h2 h3)
theorem q5p {w:World} {l:List Int} {p:Option Addr} {cp:Nat} (hl:z2x w p l) (hn:l.length<=4000) :
  Calls Tryz.prog 28 #[.slice p l.length cp] w fun e w'=>∃ G cc,e=.returned (.slice (some ⟨G,0,none⟩) (l.length+20) cc)/\Row w' G 3 (l.length+20) (lnV l)/\w.heap.size<=G/\Out 0 0 w w'/\l.length+20<=cc:=by
 have HLi:=Z0 hl;obtain⟨N,hN⟩:∃ N,l.length=N:=⟨_,rfl⟩
 have HN:=Z0 hN;have N1:(N:Int)<=4000:=by omega
 rw[hN];clear hl hn hN;go_enter Tryz.func28,Tryz.ntmps28
 go_wp2_with (at_builtin;first
  | (refine q4f rfl _ _ rfl (l:=l) (p:=p) (cp:=cp) rfl (by rw[HN.out];rfl) HLi.out (by have:=HN.out;omega) ?_;intro v w1 h1 o1;have H1:=Z0 (And.intro h1 o1);clear h1 o1)
  | (refine q2a rfl _ _ rfl w.heap.size v l.length (ivs l) rfl rfl H1.out.1 (by have:=HN.out;omega) H1.out.2.size ?_;intro G cc w2 h2 g2;have H2:=Z0 (And.intro h2 (z7j (base:=w.heap.size) g2 (fun g hg=>(Z8 H1.out.1 g hg).1)));clear h2 g2))
 have hGw:=(Z8 H2.out.1 G rfl).1;have HCc:Hid (l.length+20<=cc):=by
  rcases H2.out.1.2 with ⟨e,_⟩ | ⟨g,cap,cur,e,_,_,h3,_⟩
  ·cases e
  ·cases e;exact h3
 have o2:=Z9 H1.out.2 H2.out.2 (.inl (Nat.le_refl _));have r2:=q4k (f:=fun j=>.int .i64 (if j<l.length then l[j]?.getD 0 else if j<l.length then -71-(j:Int) else 0)) H2.out.1 (fun j hj=>by
  by_cases q:j<l.length
  ·rw[List.getElem?_append_left (by rw[q5o];exact q),j7w,if_pos q,List.getElem?_eq_getElem q];rfl
  ·rw[List.getElem?_append_right (by rw[q5o];omega),if_neg q,if_neg q,q5o];unfold zs;rw[List.getElem?_replicate,if_pos (by omega)])
 rw[Nat.mul_one,HN.out] at r2;have H3:=Z0 (And.intro hGw (And.intro o2 r2));rw[HN.out];obtain⟨T,hT⟩:∃ T,N+20=T:=⟨_,rfl⟩
 rw[hT] at H3 ⊢;have HT:=Z0 hT;have T1:(N:Int)+20=(T:Int):=by omega
 clear hGw o2 r2 hT H2 H1;go_loopw [5] (fun u wr=>∃ i:Nat,u=.int .i64 (i:Int)/\N<=i/\i<=T/\Row wr G 3 T (fun j=>.int .i64 (if j<N then l[j]?.getD 0 else if j<i then -71-(j:Int) else 0))/\Out 0 0 w wr) (fun u _=>T-(intOf u).toNat)
 case atStart=>exact⟨N,rfl,Nat.le_refl _,by have:=HT.out;omega,H3.out.2.2,H3.out.2.1⟩
 case round=>
  obtain⟨i,rfl,i1,i2,hr,ho⟩:=hrel;have i0:(0:Int)<=(i:Int):=by omega
  by_cases hi:i<T
  ·have il:(i:Int)<(T:Int):=by omega
   have d0:=hr.cell hi;have d1:=hr.frozen i;(try dsimp only at d0);obtain⟨y,hy⟩:∃ y,(if i<N then l[i]?.getD 0 else if i<i then -71-(i:Int) else 0)=y:=⟨_,rfl⟩
   rw[hy] at d0;have oS:Out G (G+1) wr (wr.setCell ⟨G,i,none⟩ (.int .i64 (-71-(i:Int)))):=(Out.refl _ _ _).setCell (p:=⟨G,i,none⟩) z1 _;have hset:Row (wr.setCell ⟨G,i,none⟩ (.int .i64 (-71-(i:Int)))) G 3 T (fun j=>.int .i64 (if j<N then l[j]?.getD 0 else if j<i+1 then -71-(j:Int) else 0)):=(hr.set i (.int .i64 (-71-(i:Int)))).congr fun j _=>by
    by_cases e:j=i
    ·rw[if_pos e,e,if_neg (by omega),if_pos (by omega)]
    ·rw[if_neg e];by_cases q:j<N
     ·rw[if_pos q,if_pos q]
     ·rw[if_neg q,if_neg q];by_cases q2:j<i
      ·rw[if_pos q2,if_pos (by omega)]
      ·rw[if_neg q2,if_neg (by omega)]
   have HS:=Z0 (And.intro hset (ho.past oS H3.out.1));clear hr ho hy oS hset;go_wp2_with fail;exact⟨⟨i+1,by congr 1,by omega,by omega,HS.out.1,HS.out.2⟩,by simp[intOf] <;> omega⟩
  ·have e:i=T:=by omega
   subst e;have HE:=Z0 (And.intro hr ho);clear hr ho;go_wp2;go_ret;refine⟨G,cc,by rw[HT.out];rfl,?_,H3.out.1,HE.out.2,by have q1:=HCc.out;have q2:=HN.out;have q3:=HT.out;omega⟩;rw[HT.out];refine HE.out.1.congr fun j hj=>?_
   unfold lnV;rw[HN.out];by_cases q:j<N
   ·rw[if_pos q,if_pos q]
   ·rw[if_neg q,if_neg q,if_pos hj]
theorem q9p {w w':World} {p:Option Addr} {l:List Int} {x y:Nat} (h:z5u w p l) (o:Out x y w w') (hg:∀ g,p=some ⟨g,0,none⟩->g<x\/y<=g):z5u w' p l:=by
 rcases h with e | ⟨g,e,h1,h2⟩
 ·exact .inl e
 ·exact .inr ⟨g,e,Nat.lt_of_lt_of_le h1 o.size,fun j hj=>o.cell (h2 j hj) (hg g e)⟩
theorem z1q {w w':World} {p:Option Addr} {l:List Int} {x y:Nat} (h:z2x w p l) (o:Out x y w w') (hg:l ≠ []->∀ g off,p=some ⟨g,off,none⟩->g<x\/y<=g):z2x w' p l:=by
 by_cases e0:l=[]
 ·exact .inl e0
 ·rcases h with e | ⟨g,off,e,h1,h2⟩
  ·exact .inl e
  ·exact .inr ⟨g,off,e,Nat.lt_of_lt_of_le h1 o.size,fun j hj=>o.cell (h2 j hj) (hg e0 g off e)⟩
open Classical in
noncomputable def kpE (n:Nat) (st:Sp) (l:List Int):Sp:=if (∀ a ∈ l,(obM st a).isSome=true) then G2 n st l else st
open Classical in
noncomputable def kpV (n:Nat) (st:Sp) (l:List Int):Int × Int:=if (∀ a ∈ l,(obM st a).isSome=true) then (((J7 (Z6 n st) (kpS l) (64*n):Nat):Int),0) else (0,22)
theorem q6s {n:Nat} {st:Sp} {l:List Int} (h:∀ a ∈ l,(obM st a).isSome=true):kpE n st l=G2 n st l/\kpV n st l=(((J7 (Z6 n st) (kpS l) (64*n):Nat):Int),0):=⟨if_pos h,if_pos h⟩
theorem j2y {n:Nat} {st:Sp} {l:List Int} (h:∃ a ∈ l,obM st a=none):kpE n st l=st/\kpV n st l=(0,22):=by
 have q:¬ ∀ a ∈ l,(obM st a).isSome=true:=fun q=>by
  obtain⟨a,h1,h2⟩:=h;have:=q a h1;rw[h2] at this;cases this
 exact⟨if_neg q,if_neg q⟩
section
variable {B:Nat} {w w':World} {b lo m n cap cw co c:Nat} {s sr:Nat->Nat} {st st':Sp} {col:Nat->Nat} {z:Bool}
theorem j9k {lo hi:Nat} (h:SpAt w lo hi s n cap st) {l:List Int} {p:Option Addr} {cp:Nat} (hl:z5u w p l) (hll:l.length<=4000) :
  Calls Tryz.prog 63 #[.pointer (some ⟨s 14,0,none⟩),.slice p l.length cp] w fun e w'=>e=.returned (.tuple #[.int .i64 (kpV n st l).1,.int .i64 (kpV n st l).2])/\SpAt w' lo hi s n cap (kpE n st l)/\Out lo hi w w':=by
 refine(q8i h hl (by omega)).mono ?_;rintro e w' ⟨o,⟨h1,rfl,h3⟩ | ⟨h1,rfl,h3⟩⟩
 ·rw[(q6s h1).1,(q6s (n:=n) h1).2];exact⟨rfl,h3,o⟩
 ·rw[(j2y h1).1,(j2y (n:=n) h1).2];exact⟨rfl,h3,o⟩
theorem j8w {lo hi:Nat} (h:RfAt w lo hi sr n cw co st) (hI:Inv n st) {l:List Int} {p:Option Addr} {cp:Nat} (hl:z2x w p l) (hll:l.length<=4000) :
  Calls Tryz.prog 64 #[.pointer (some ⟨sr 0,0,none⟩),.slice p l.length cp] w fun e w'=>e=.returned (.tuple #[.int .i64 (kpV n st l).1,.int .i64 (kpV n st l).2])/\RfAt w' lo hi sr n cw co (kpE n st l)/\Out lo hi w w':=by
 refine(q1f h hI hl (by omega)).mono ?_;rintro e w' ⟨o,⟨h1,rfl,h3⟩ | ⟨h1,rfl,h3⟩⟩
 ·rw[(q6s h1).1,(q6s (n:=n) h1).2];exact⟨rfl,h3,o⟩
 ·rw[(j2y h1).1,(j2y (n:=n) h1).2];exact⟨rfl,h3,o⟩
theorem PS.turn (h:PS B w b lo m m b s sr n cap cw co st col z c) (o:Out lo b w w') (hs:SpAt w' lo m s n cap st') (hr:RfAt w' m b sr n cw co st'):PS B w' b lo m m b s sr n cap cw co st' col z c:=
 ⟨hs,hr,h.ks.chg (P:=fun c=>c=7) (Chg.of_part o fun k h1 h2=>h.c7 k (by omega)) (fun _ e=>.inl e),h.c7,h.le⟩
theorem q1x (h:PS B w b lo m m b s sr n cap cw co st col z c) {l:List Int} {p:Option Addr} {cp:Nat} (hl:z2x w p l) (hg:l ≠ []->∀ g off,p=some ⟨g,off,none⟩->g<lo\/b<=g) (hn:l.length<=4000) :
  Calls Tryz.prog 25 #[.pointer (some ⟨b,0,none⟩),.slice p l.length cp] w fun e w'=>e=.returned (.bool true)/\PS B w' b lo m m b s sr n cap cw co (kpE n st l) col z c/\Out lo b w w':=by
 have HP:=Z0 h;have HLi:=Z0 hl;have HLn:=Z0 (And.intro hg hn);have HLe:=Z0 (q5p (cp:=cp) hl hn);obtain⟨N,hN⟩:∃ N,l.length=N:=⟨_,rfl⟩
 have HN:=Z0 hN;rw[hN] at HLe ⊢;have N1:(N:Int)<=4000:=by omega
 clear h hl hg hn hN;go_enter Tryz.func25,Tryz.ntmps25
 go_wp2_with fail;refine HLe.out.mono ?_;rintro e w1 ⟨G,cc,rfl,hr,hGw,o1,hcc⟩;have P1:=HP.out.quiet o1;have p0:=P1.ks.cells.1;have hcI:(N:Int)<=(cc:Int):=by omega
 have hcN:N<=cc:=by omega
 have hIl:z5u w1 (some ⟨G,0,none⟩) l:=.inr ⟨G,rfl,hr.lt,fun j hj=>by
  rw[hr.cell (i:=j) (by have:=HN.out;omega)];unfold lnV;rw[if_pos hj]⟩
 have HK:=Z0 (fun W (o:Out 0 0 w1 W)=>j9k (P1.sp.quiet o) (cp:=cc) (q9p hIl o (fun _ _=>.inr (Nat.zero_le _))) HLn.out.2);have H1:=Z0 (And.intro hr (And.intro hGw (And.intro o1 hcc)));have HP1:=Z0 P1;rw[HN.out] at HK;clear hr hGw o1 hcc P1 hIl HLe;go_wp2_with fail;refine wp_region_held_drew (S:=fun w'=>w'.cell? ⟨b,0,none⟩=some (.pointer (some ⟨s 14,0,none⟩))) (by kernel_rfl) ?hS1 (fun hHeld=>?rest1)
 case hS1=>exact p0
 obtain⟨Z,hZ⟩:∃ Z,w1.drew=Z:=⟨_,rfl⟩
 have OZ:Out 0 0 w1 Z:=by rw[<-hZ];exact(Out.refl 0 0 _).drew
 rw[hZ] at hHeld ⊢;clear hZ p0;refine tk 0 ?_;refine tk 1 ?_;refine tk 2 ?_;refine tk 3 ?_;refine tk 4 ?_;refine tk 5 ?_;refine tk 6 ?_;refine tk 7 ?_;refine rd1 8 fun KK hK=>?_
 simp only[xa,xb,xc];go_simp;refine(HK.out _ OZ).mono ?_;rintro e w2 ⟨rfl,s2,o2⟩;refine hK.out _ _ ?hS10 (fun hHeld2=>?rest10)
 case hS10=>exact o2.cell hHeld (.inr (by have:=HP1.out.le;omega))
 clear hK KK;replace hHeld:=hHeld2;clear hHeld2;refine tk 9 ?_;refine tk 10 ?_;refine tk 11 ?_;refine tk 12 ?_;refine tk 13 ?_;refine dn ?_;clear hHeld;have hlo:=HP1.out.le;have HW2:=Z0 (And.intro s2 (And.intro OZ o2));obtain⟨p0',p1⟩:=HP1.out.ks.cells;replace p1:=(OZ.any lo m).trans o2 |>.cell p1 (.inr (by omega));have hO2:Out lo b w w2:=(HP1.out.quiet OZ).sp |> fun _=>((H1.out.2.2.1.trans OZ).any lo b).trans (o2.wide (Nat.le_refl _) (by omega))
 have HR:=Z0 (j8w (w:=w2) ((HP1.out.rf.quiet OZ).kept o2 (.inr (Nat.le_refl _))) HP1.out.sp.2 (cp:=cp) (z1q HLi.out (hO2.wide (Nat.le_refl _) (Nat.le_refl _)) HLn.out.1) HLn.out.2);rw[HN.out] at HR;have HO2:=Z0 hO2;clear s2 OZ o2 p0' hO2 hlo;go_wp2_with fail;clear p1;refine HR.out.mono ?_;rintro e w3 ⟨rfl,r3,o3⟩;have hlo:=HP1.out.le;have hO3:Out lo b w w3:=HO2.out.trans (o3.wide (by omega) (Nat.le_refl _));have hGb:b<=G:=by have q1:=HP.out.ks.cells.1;have q2:=z0a q1;have q3:=H1.out.2.1;omega
 have hS3:SpAt w3 lo m s n cap (kpE n st l):=HW2.out.1.kept o3 (.inl (Nat.le_refl _)) (.inl (by have:=HP1.out.rf.glob;omega));have hRow:Row w3 G 3 (l.length+20) (lnV l):=by
  rw[HN.out];exact((H1.out.1.kept HW2.out.2.1 z0).kept HW2.out.2.2 (.inr (by omega))).kept o3 (.inr (by omega))
 have hKe:=q5x (cc:=cc) (cp:=cp) hRow (z1q HLi.out hO3 HLn.out.1) HLn.out.2;rw[HN.out] at hKe;have HKe:=Z0 hKe;have H3:=Z0 (And.intro hS3 (And.intro r3 (And.intro hO3 hGb)));clear r3 o3 hlo hO3 hS3 hRow hKe hGb;generalize kpV n st l=kv at *
 obtain⟨v1,v2⟩:=kv;go_wp2_with fail;refine HKe.out.mono ?_;rintro e w4 ⟨rfl,o4⟩;have hG:=H3.out.2.2.2;have hGs:=H1.out.2.1;have FIN:Hid (PS B w4 b lo m m b s sr n cap cw co (kpE n st l) col z c/\Out lo b w w4):=by
  have hlo:=HP.out.le;have o5:Out lo b w w4:=H3.out.2.2.1.past o4 hGs;exact⟨HP.out.turn o5 (H3.out.1.kept o4 (.inl (by omega)) (.inl (by have:=HP1.out.rf.glob;omega))) (H3.out.2.1.kept o4 (.inl (by omega))),o5⟩
 clear o4;go_wp2;go_ret;exact⟨rfl,FIN.out⟩
end
end Go.Proofs.YtjbbkeoolodeaabGreatDoor
