import Derived.Test.YtjbbkeoolodeaabGreatDoorB14
import Derived.Test.YtjbbkeoolodeaabGreatDoorB15
import Derived.Laws.FloatArith
namespace Go.Proofs.YtjbbkeoolodeaabGreatDoor
open Go.RowKit
set_option linter.unusedVariables false
set_option maxRecDepth 100000
set_option maxHeartbeats 16000000
set_option linter.unusedSimpArgs false
def Q6 (n:Nat) (r:Raw) (kp:Nat->Bool):Nat->Raw
 | 0=>r
 | p+1=>if r.P p && !kp p then (match r.M (p:Int) with | some b=>drR n (Q6 n r kp p) p b.2.1 b.2.2.1 | none=>Q6 n r kp p) else Q6 n r kp p
def J7 (r:Raw) (kp:Nat->Bool):Nat->Nat
 | 0=>0
 | p+1=>if r.P p && !kp p then J7 r kp p+1 else J7 r kp p
theorem z6j (r:Raw) (kp:Nat->Bool):∀ p,J7 r kp p<=p
 | 0=>Nat.le_refl _
 | p+1=>by
  have:=z6j r kp p;unfold J7;cases (r.P p && !kp p) with
  | true=>simp;omega
  | false=>simp;omega
theorem U6 {n:Nat} {r:Raw} {kp:Nat->Bool} (hT:z8q r):∀ p a,(Q6 n r kp p).P a=(r.P a && !(decide (a<p) && !kp a))/\(((Q6 n r kp p).P a=true\/p<=a)->(Q6 n r kp p).M (a:Int)=r.M (a:Int))/\(Q6 n r kp p).W=r.W
 | 0,a=>by simp[Q6]
 | p+1,a=>by
  obtain⟨h1,h2,h3⟩:=U6 (n:=n) (kp:=kp) hT p a;unfold Q6;cases e:(r.P p && !kp p) with
  | false=>
   rw[if_neg (by simp)];refine⟨?_,fun h=>h2 ?_,h3⟩
   ·rw[h1];by_cases ea:a=p
    ·subst ea;rw[Bool.and_eq_false_iff] at e;rcases e with e | e
     ·rw[e];simp
     ·have:kp a=true:=by simpa using e
      rw[this];simp
    ·have:decide (a<p+1)=decide (a<p):=by by_cases hh:a<p <;> simp[hh] <;> omega
     rw[this]
   ·rcases h with h | h
    ·exact .inl h
    ·exact .inr (by omega)
  | true=>
   rw[if_pos rfl];rw[Bool.and_eq_true] at e;obtain⟨b,hb⟩:=hT p e.1;rw[hb];have hk:kp p=false:=by simpa using e.2
   by_cases ea:a=p
   ·subst ea;refine⟨?_,fun h=>?_,h3⟩
    ·show upd _ a false a=_
     unfold upd;rw[if_pos rfl,hk];simp
    ·rcases h with h | h
     ·have:upd (Q6 n r kp a).P a false a=true:=h;unfold upd at this;simp at this
     ·omega
   ·refine⟨?_,fun h=>?_,h3⟩
    ·show upd _ p false a=_
     unfold upd;rw[if_neg ea,h1];have:decide (a<p+1)=decide (a<p):=by by_cases hh:a<p <;> simp[hh] <;> omega
     rw[this]
    ·show (if (a:Int)=(p:Int) then none else (Q6 n r kp p).M (a:Int))=_
     rw[if_neg (by omega)];refine h2 ?_;rcases h with h | h
     ·have:upd (Q6 n r kp p).P p false a=true:=h;unfold upd at this;rw[if_neg ea] at this;exact .inl this
     ·exact .inr (by omega)
theorem q2h {n:Nat} {r:Raw} {kp:Nat->Bool} (hT:z8q r) (p:Nat):z8q (Q6 n r kp p):=by
 intro a ha;obtain⟨h1,h2,h3⟩:=U6 (n:=n) (kp:=kp) hT p a;rw[h2 (.inl ha)];rw[h1] at ha;exact hT a (by revert ha;cases r.P a <;> simp)
theorem q8d {n:Nat} {r:Raw} {kp:Nat->Bool} (hT:z8q r) (hR:q7x n r) (p:Nat):q7x n (Q6 n r kp p):=by
 have hP:∀ a,(Q6 n r kp p).P a=true->r.P a=true:=fun a ha=>by
  rw[(U6 (n:=n) (kp:=kp) hT p a).1] at ha;revert ha;cases r.P a <;> simp
 intro a b ha hb;rw[(U6 (n:=n) (kp:=kp) hT p a).2.1 (.inl ha)] at hb;obtain⟨h1,h2,h3,h4⟩:=hR a b (hP a ha) hb;exact⟨h1,h2,h3,fun a' h5 h6=>h4 a' h5 (hP a' h6)⟩
theorem q3m {n:Nat} {r:Raw} {kp:Nat->Bool} {p:Nat}:∀ {d:Nat},(∀ j,p<=j->j<p+d->r.P j=false)->Q6 n r kp (p+d)=Q6 n r kp p/\J7 r kp (p+d)=J7 r kp p
 | 0,_=>⟨rfl,rfl⟩
 | d+1,h=>by
  obtain⟨h1,h2⟩:=q3m (n:=n) (kp:=kp) (p:=p) (d:=d) (fun j a b=>h j a (by omega));have e:r.P (p+d)=false:=h _ (by omega) (by omega);constructor
  ·refine Eq.trans ?_ h1
   show Q6 n r kp ((p+d)+1)=_
   conv=>lhs;unfold Q6
   rw[e];rfl
  ·refine Eq.trans ?_ h2
   show J7 r kp ((p+d)+1)=_
   conv=>lhs;unfold J7
   rw[e];rfl
theorem j0c {n:Nat} {r:Raw} {kp:Nat->Bool} {p k:Nat} (hp:p<=k) (h:∀ j,p<=j->j<k->r.P j=false):Q6 n r kp k=Q6 n r kp p/\J7 r kp k=J7 r kp p:=by
 obtain⟨d,rfl⟩:∃ d,k=p+d:=⟨k-p,by omega⟩
 exact q3m h
theorem j2p {n:Nat} {r:Raw} {kp:Nat->Bool} {k:Nat} (hk:kp k=true):Q6 n r kp (k+1)=Q6 n r kp k/\J7 r kp (k+1)=J7 r kp k:=by
 constructor
 ·conv=>lhs;unfold Q6
  rw[hk,if_neg (by simp)]
 ·conv=>lhs;unfold J7
  rw[hk,if_neg (by simp)]
theorem j2r {n:Nat} {r:Raw} {kp:Nat->Bool} {k:Nat} {b:Blk} (hP:r.P k=true) (hk:kp k=false) (hb:r.M (k:Int)=some b):Q6 n r kp (k+1)=drR n (Q6 n r kp k) k b.2.1 b.2.2.1/\J7 r kp (k+1)=J7 r kp k+1:=by
 constructor
 ·conv=>lhs;unfold Q6
  rw[hP,hk,hb];rfl
 ·conv=>lhs;unfold J7
  rw[hP,hk];rfl
def kpS (l:List Int):Nat->Bool:=fun j=>l.contains (j:Int)
theorem x1j:kpS []=fun _=>false:=by funext j;unfold kpS;simp
theorem q9k (l:List Int) (a:Nat):upd (kpS l) a true=kpS (l ++ [(a:Int)]):=by
 funext j
 unfold upd kpS;rw[List.contains_append];by_cases e:j=a
 ·rw[if_pos e,e];simp
 ·rw[if_neg e];have:([(a:Int)]).contains (j:Int)=false:=by simp;omega
  rw[this];simp
def z5u (w:World) (p:Option Addr) (l:List Int):Prop:=l=[]\/∃ g,p=some ⟨g,0,none⟩/\g<w.heap.size/\∀ j,j<l.length->w.cell? ⟨g,j,none⟩=some (.int .i64 (l[j]?.getD 0))
def j9c (n:Nat) (r:Raw) (l:List Int):Raw:=j7m n { Q6 n r (kpS l) (64*n) with W:=wpW (Q6 n r (kpS l) (64*n)) (64*n) }
end Go.Proofs.YtjbbkeoolodeaabGreatDoor
namespace Go.Proofs.YtjbbkeoolodeaabGreatDoor
open Go.RowKit
attribute [local go_sem] Oper.semAt_some
set_option linter.unusedVariables false
set_option maxRecDepth 100000
set_option maxHeartbeats 16000000
set_option linter.unusedSimpArgs false
section
variable {w:World} {lo hi n cap:Nat} {s:Nat->Nat} {r:Raw}
theorem j5w (h:RawAt w lo hi s n cap r) (hT:z8q r) (hR:q7x n r) (hM:∀ a b,r.M a=some b->∃ j:Nat,a=j/\j<64*n) {l:List Int} {p:Option Addr} {cp:Nat} (hl:z5u w p l) (hll:(l.length:Int)<9223372036854775807) :
  Calls Tryz.prog 63 #[.pointer (some ⟨s 14,0,none⟩),.slice p l.length cp] w fun e w'=>Out lo hi w w' ∧
   (((∀ a ∈ l,(r.M a).isSome=true)/\e=.returned (.tuple #[.int .i64 ((J7 r (kpS l) (64*n):Nat):Int),.int .i64 0])/\RawAt w' lo hi s n cap (j9c n r l)) ∨
    ((∃ a ∈ l,r.M a=none)/\e=.returned (.tuple #[.int .i64 0,.int .i64 22])/\RawAt w' lo hi s n cap r)):=by
 have HR0:=Z0 h;have HTo:=Z0 hT;have HRo:=Z0 hR;have HMi:=Z0 hM;have HLi:=Z0 hl;have HT:Hid (hi<=w.heap.size/\4<=w.heap.size/\4<=lo/\n<=4096/\1<=n):=⟨h.top,h.tab.lt,h.glob,h.n2,h.n1⟩
 have HLL:=Z0 hll;have HL:=Z0 (fun w=>z4i (s 14) w);have HW:=Z0 (fun W (hr:RawAt W lo hi s n cap r)=>z3r hr);have HN:=Z0 (fun W (hr:RawAt W lo hi s n cap r)=>q7e (64*n) (by have:=h.n2;omega) W hr.tab);have l0:(0:Int)<=(l.length:Int):=by omega
 clear h hT hR hM hl;refine(callsIn_wide (n:=0)).1 ?_;refine callsIn_of_wp_marks Tryz.func63 rfl trivial ?_ rfl;simp only[Tryz.ntmps63,List.size_toArray,List.length_cons,List.length_nil,Nat.reduceAdd,Nat.reduceSub,Array.replicate_succ,Array.replicate_zero,List.push_toArray,List.append_toArray,List.nil_append,List.cons_append];gi_wp2_with (refine⟨trivial,rfl,?_⟩;gi_at_call 49;refine(callsIn_wide.2 (z0f _ _)).mono ?_;rintro e w1 ⟨rfl,rfl⟩);obtain⟨W0,hW0⟩:∃ W0,w.alloc (.cells #[.pointer (some ⟨s 14,0,none⟩)] 34)=W0:=⟨_,rfl⟩
 have hs0:W0.heap.size=w.heap.size+1:=by rw[<-hW0];simp
 have HO0:Hid (Out 0 0 w W0):=by rw[<-hW0];exact((Out.refl 0 0 w).alloc _)
 have HB0:Hid (Box W0 w.heap.size 34 (.pointer (some ⟨s 14,0,none⟩))):=by rw[<-hW0];exact Box.new _ _ _
 rw[hW0];clear hW0;have hr0:=HR0.out.quiet HO0.out;have HNo:=Z0 (HN.out W0 hr0);have HWo:=Z0 (HW.out W0 hr0);rw[hs0] at HNo;clear hs0 hr0 HN HW;refine⟨trivial,rfl,?_⟩;refine(callsIn_wide.2 HWo.out).mono ?_;rintro e w1 ⟨rfl,rfl⟩;gi_wp2_with (refine⟨trivial,rfl,?_⟩;gi_at_call 47;refine(callsIn_wide.2 HNo.out).mono ?_;rintro e w1 ⟨rfl,hm1,ho1,hs1⟩);obtain⟨W2,hW2⟩:∃ W2,w1.alloc (.cells #[.pointer (some ⟨w.heap.size+1+1,0,none⟩)] 87)=W2:=⟨_,rfl⟩
 have ho2:Out 0 0 w1 W2:=by rw[<-hW2];exact((Out.refl 0 0 _).alloc _)
 have hk2:Box W2 (w.heap.size+1+2) 87 (.pointer (some ⟨w.heap.size+1+1,0,none⟩)):=by rw[<-hW2,show w.heap.size+1+2=w1.heap.size from by omega];exact Box.new _ _ _
 have hz2:W2.heap.size=w.heap.size+4:=by rw[<-hW2];simp;omega
 have HO2:=Z0 ((HO0.out.trans ho1).trans ho2);have HB2:=Z0 (HB0.out.kept (ho1.trans ho2) z0);have HK2:=Z0 hk2;have HM2:=Z0 (hm1.quiet ho2);have HZ2:=Z0 hz2;try rw[hW2]
 clear hW2 ho1 hm1 ho2 hk2 hz2 HNo HWo HO0 HB0;gi_loopw [20] (fun u wr=>∃ i:Nat,u=.int .i64 (i:Int)/\i<=l.length/\(∀ a ∈ l.take i,(r.M a).isSome=true)/\RawAt wr lo hi s n cap r/\Box wr w.heap.size 34 (.pointer (some ⟨s 14,0,none⟩))/\Box wr (w.heap.size+1+2) 87 (.pointer (some ⟨w.heap.size+1+1,0,none⟩))/\MapAt wr (w.heap.size+1) (w.heap.size+1+2) (w.heap.size+1+1) (64*n) (kpS (l.take i))/\Out 0 0 w wr) (fun u _=>((l.length:Int)-intOf u).toNat)
 case atStart=>exact⟨0,rfl,Nat.zero_le _,fun a ha=>by simp at ha,HR0.out.quiet HO2.out,HB2.out,HK2.out,by rw[List.take_zero,x1j];exact HM2.out,HO2.out⟩
 case round=>
  clear HB2 HK2 HM2 HO2 HZ2;obtain⟨i,rfl,i1,i2,i3,i4,i5,i6,i7⟩:=hrel;have HA:=Z0 (And.intro i2 (And.intro i3 (And.intro i4 (And.intro i5 (And.intro i6 i7)))));have j0:(0:Int)<=(i:Int):=by omega
  by_cases hlt:(i:Int)<(l.length:Int)
  ·obtain⟨g,rfl,hg,hgc⟩:∃ g,p=some ⟨g,0,none⟩/\g<w.heap.size/\∀ j,j<l.length->w.cell? ⟨g,j,none⟩=some (.int .i64 (l[j]?.getD 0)):=by
    rcases HLi.out with e | e
    ·rw[e] at hlt;simp at hlt;omega
    ·exact e
   have q0:=i7.cell (hgc i (by omega)) z0;obtain⟨a,ha⟩:∃ a,l[i]?.getD 0=a:=⟨_,rfl⟩
   rw[ha] at q0;have hmem:l.take (i+1)=l.take i ++ [a]:=by
    rw[List.take_add_one,List.getElem?_eq_getElem (by omega)];rw[List.getElem?_eq_getElem (by omega)] at ha;simp at ha;rw[ha];rfl
   have c0:=i4.cell;have c1:=i5.cell;obtain⟨d0,d1,d2,d3,d4,d5⟩:=i3.cells;have hlk:=i3.look true a;cases hma:r.M a with
   | none=>
    have e1:z6b r.M a=none:=by unfold z6b;rw[hma];rfl
    rw[e1] at hlk;simp only[Option.getD_none,Option.isSome_none,if_true] at hlk;have HE:Hid (∃ a ∈ l,r.M a=none):=⟨a,by rw[<-List.take_append_drop (i+1) l,hmem];simp,hma⟩
    clear i2 i3 i4 i5 i6 i7 hmem hma e1 ha hg hgc;gi_wp2;refine⟨_,results_tmp2 rfl _ _ _,?_⟩;exact⟨(HA.out.2.2.2.2.2.any lo hi).trans (((Out.refl 0 0 wr).alloc _).any lo hi),.inr ⟨HE.out,rfl,HA.out.2.1.quiet ((Out.refl 0 0 wr).alloc _)⟩⟩
   | some b=>
    obtain⟨b1,b2,b3,b4⟩:=b;have e1:z6b r.M a=some (.agg #[.int .i64 a,.int .i64 b1,.int .i64 b2,.int .i64 b3,.int .i64 b4]):=by unfold z6b;rw[hma];rfl
    rw[e1] at hlk;simp only[Option.getD_some,Option.isSome_some,if_true] at hlk;obtain⟨j,rfl,hj⟩:=HMi.out a _ hma;have HJ:=Z0 hj;have HM:=Z0 hmem;have HS:=Z0 hma;clear i2 i3 i4 i5 i6 i7 hmem hma e1 ha hg hgc hj;have hoA:Out 0 0 wr (wr.alloc (.cells #[.int .i64 (j:Int),.int .i64 b1,.int .i64 b2,.int .i64 b3,.int .i64 b4] 97)):=(Out.refl 0 0 _).alloc _;have HOA:=Z0 hoA;have HSt:=Z0 (q3t (HA.out.2.2.2.2.1.quiet hoA) (j:Int));have c2:=(HA.out.2.2.2.1.kept hoA z0).cell;clear hoA;gi_wp2_with (refine⟨trivial,rfl,?_⟩;gi_at_call 99;refine(callsIn_wide.2 HSt.out).mono ?_;rintro e w4 ⟨rfl,hm4,ho4⟩);have hT:=HT.out;refine⟨⟨i+1,by congr 1,by omega,?_,(HA.out.2.1.quiet HOA.out).kept ho4 (.inl (by omega)) (.inl (by omega)),(HA.out.2.2.1.kept HOA.out z0).kept ho4 (by omega),(HA.out.2.2.2.1.kept HOA.out z0).kept ho4 (by omega),?_,(HA.out.2.2.2.2.2.trans HOA.out).past ho4 (by omega)⟩,by simp[intOf];omega⟩
    ·rw[HM.out];intro a' ha';rw[List.mem_append] at ha';rcases ha' with ha' | ha'
     ·exact HA.out.1 a' ha'
     ·simp at ha';rw[ha',HS.out];rfl
    ·rw[HM.out,<-q9k];have e5:q1r (kpS (l.take i)) (64*n) (j:Int) true=upd (kpS (l.take i)) j true:=by
      unfold q1r;rw[if_pos (show inB (64*n) (j:Int)=true from by unfold inB;simp;have:=HJ.out;omega)];rfl
     rw[<-e5];exact hm4
  ·have e:i=l.length:=by omega
   subst e;clear i2 i3 i4 i5 i6 i7;rw[List.take_length] at HA;have hge:(l.length:Int)<=(l.length:Int):=Int.le_refl _;have c0:=(HA.out.2.2.1.kept ((Out.refl 0 0 wr).alloc (.cells #[.int .i64 0] 3)) z0).cell;gi_wp2_with (refine⟨trivial,rfl,?_⟩;gi_at_call 77;refine(callsIn_wide.2 (HL.out _)).mono ?_;rintro e w1 ⟨rfl,rfl⟩);have HC:=Z0 (And.intro HA.out.1 (And.intro HA.out.2.1 (And.intro HA.out.2.2.1 (And.intro HA.out.2.2.2.1 (And.intro HA.out.2.2.2.2.1 HA.out.2.2.2.2.2)))));obtain⟨W1,hW1⟩:∃ W1,(wr.alloc (.cells #[.int .i64 0] 3)).alloc (.cells #[.pointer (some ⟨s 14,0,none⟩)] 34)=W1:=⟨_,rfl⟩
   obtain⟨G,hG⟩:∃ G,wr.heap.size=G:=⟨_,rfl⟩
   have hs1:W1.heap.size=G+2:=by rw[<-hW1,<-hG];simp
   have ho1:Out 0 0 wr W1:=by rw[<-hW1];exact((Out.refl 0 0 wr).alloc _).alloc _
   have hx1:Box W1 G 3 (.int .i64 0):=by rw[<-hW1,<-hG];exact K4
   have hz1:Box W1 (G+1) 34 (.pointer (some ⟨s 14,0,none⟩)):=by rw[<-hW1,<-hG];exact heap_alloc2_new _ _ _
   have HGG:Hid (w.heap.size+4<=G):=by show _<=_;have:=HC.out.2.2.2.1.lt;omega
   rw[hW1,hG];have HO1:=Z0 ho1;have HX1:=Z0 hx1;have HZ1:=Z0 hz1;clear hW1 ho1 hx1 hz1 HA c0 hge hlt i1 j0 hG;refine q5b (lo:=lo) (hi:=hi) (n:=n) (cap:=cap) (g:=G+1) (s:=s) rfl rfl
    (fun p W=>p<=64*n/\RawAt W lo hi s n cap (Q6 n r (kpS l) p)/\Box W w.heap.size 34 (.pointer (some ⟨s 14,0,none⟩))/\Box W (w.heap.size+1+2) 87 (.pointer (some ⟨w.heap.size+1+1,0,none⟩))/\MapAt W (w.heap.size+1) (w.heap.size+1+2) (w.heap.size+1+1) (64*n) (kpS l)/\Box W G 3 (.int .i64 ((J7 r (kpS l) p:Nat):Int))/\Box W (G+1) 34 (.pointer (some ⟨s 14,0,none⟩))/\Out lo hi w W)
    (fun W=>RawAt W lo hi s n cap (Q6 n r (kpS l) (64*n))/\Box W w.heap.size 34 (.pointer (some ⟨s 14,0,none⟩))/\Box W G 3 (.int .i64 ((J7 r (kpS l) (64*n):Nat):Int))/\Out lo hi w W)
    (fun c W=>False) ?hm1 ?hq1 ?hqk1 ?hqx1 ?hy1 ?he1 ?hz1 ?hdone1 ?hstop1
   case hm1=>
    rintro p W ⟨hp,a1,a2,a3,a4,a5,a6,a7⟩;exact⟨hp,_,a1,q2h HTo.out p,a6⟩
   case hq1=>
    rintro p W W' x y ⟨hp,a1,a2,a3,a4,a5,a6,a7⟩ o hx;have hT:=HT.out;have hgg:=HGG.out;exact⟨hp,a1.kept o (by omega) (by omega),a2.kept o (by omega),a3.kept o (by omega),a4.kept o (by omega) (by omega),a5.kept o (by omega),a6.kept o (by omega),Z9 a7 o (by omega)⟩
   case hqk1=>
    rintro W W' x y ⟨a1,a2,a3,a4⟩ o hx;have hT:=HT.out;have hgg:=HGG.out;exact⟨a1.kept o (by omega) (by omega),a2.kept o (by omega),a3.kept o (by omega),Z9 a4 o (by omega)⟩
   case hqx1=>exact fun c W W' x y h _ _=>h
   case hstop1=>exact fun c W h _=>h.elim
   case hz1=>
    have o:=HO1.out;exact⟨Nat.zero_le _,HC.out.2.1.quiet o,HC.out.2.2.1.kept o z0,HC.out.2.2.2.1.kept o z0,HC.out.2.2.2.2.1.quiet o,HX1.out,HZ1.out,(HC.out.2.2.2.2.2.trans o).any _ _⟩
   case he1=>
    rintro p W rr ⟨hp,a1,a2,a3,a4,a5,a6,a7⟩ hr hk;obtain⟨eP,eM⟩:=z2j a1 hr;rw[<-eP] at hk;rcases Q1 (Q6 n r (kpS l) p).P (64*n) p with ⟨_,hz⟩ | ⟨i,hi',_⟩
    ·obtain⟨e1,e2⟩:=j0c (n:=n) (r:=r) (kp:=kpS l) hp (fun j j1 j2=>by
      have:=hz j j1 j2;rw[(U6 (n:=n) (kp:=kpS l) HTo.out p j).1,show decide (j<p)=false from by simp;omega] at this;simpa using this)
     exact⟨by rw[e1];exact a1,a2,by rw[e2];exact a5,a7⟩
    ·have:(-1:Int)=i:=hk.symm.trans hi';omega
   case hy1=>
    rintro p W rr k b ⟨hp,a1,a2,a3,a4,a5,a6,a7⟩ hr hk hb hsz;obtain⟨eP,eM⟩:=z2j a1 hr;rw[<-eP] at hk;rw[<-eM] at hb;have hK1:=U6 (n:=n) (kp:=kpS l) HTo.out p;have hrP:∀ j,p<=j->(Q6 n r (kpS l) p).P j=r.P j:=fun j hj=>by
     rw[(hK1 j).1,show decide (j<p)=false from by simp;omega];simp
    obtain⟨hpk,hkn,hPk,hz⟩:p<=k/\k<64*n/\r.P k=true/\∀ j,p<=j->j<k->r.P j=false:=by
     rcases Q1 (Q6 n r (kpS l) p).P (64*n) p with ⟨e1,_⟩ | ⟨i,e1,e2,e3,e4,e5⟩
     ·have:(-1:Int)=k:=e1.symm.trans hk;omega
     ·have:i=k:=by have:(i:Int)=k:=e1.symm.trans hk;omega
      subst this;exact⟨e3 hp,e2,by rw[<-hrP i (e3 hp)];exact e4,fun j j1 j2=>by rw[<-hrP j j1];exact e5 j j1 j2⟩
    have hb':r.M (k:Int)=some b:=by rw[<-(hK1 k).2.1 (.inr hpk)];exact hb
    obtain⟨e1,e2⟩:=j0c (n:=n) (r:=r) (kp:=kpS l) hpk hz;rw[<-e1] at a1;rw[<-e2] at a5;rw[hs1] at hsz ⊢;have hRo:=HRo.out k b hPk hb';have hgo:=fun hkk=>j2r (n:=n) (r:=r) (kp:=kpS l) hPk hkk hb'
    have hfl:=z6j r (kpS l) k;obtain⟨b1,b2,b3,b4⟩:=b;have A:=Z0 (And.intro a1 (And.intro a2 (And.intro a3 (And.intro a4 (And.intro a5 (And.intro a6 a7))))));have HKn:=Z0 (And.intro hkn (And.intro hsz hfl));have HRk:=Z0 hRo;have HGo:=Z0 hgo;clear a1 a2 a3 a4 a5 a6 a7 hr hk hb eP eM hz hPk hb' hRo hp hpk hkn hsz e1 e2 hK1 hrP hgo hfl;unfold q6a;dsimp only at A HRk HGo ⊢;obtain⟨f,hf⟩:∃ f:Nat,J7 r (kpS l) k=f:=⟨_,rfl⟩
    obtain⟨q,hq⟩:∃ q,Q6 n r (kpS l) k=q:=⟨_,rfl⟩
    rw[hf,hq] at A HGo;rw[hf] at HKn;obtain⟨WA,hWA⟩:∃ WA,W.alloc (bo (k:Int) b1 b2 b3 b4)=WA:=⟨_,rfl⟩
    have HBA:Hid (WA.heap[W.heap.size]? = some (bo (k:Int) b1 b2 b3 b4)):=by rw[<-hWA];exact heap_alloc_new _ _
    have HOA:Hid (Out 0 0 W WA):=by rw[<-hWA];exact(Out.refl 0 0 W).alloc _
    obtain⟨H,hH⟩:∃ H,W.heap.size=H:=⟨_,rfl⟩
    rw[hH] at HKn HBA;unfold bo at hWA;gi_wp2;(try rw[hWA]);refine⟨HOA.out.any _ _,?_⟩;(try rw[hH]);clear hWA hH;intro W2 o2;have hT:=HT.out;have hgg:=HGG.out;have hkk:=HKn.out;have HR2:=Z0 ((A.out.1.quiet HOA.out).kept o2 (.inl (by omega)) (.inl (by omega)));have HS2:=Z0 ((A.out.2.1.kept HOA.out z0).kept o2 (.inl (by omega)));have HK2:=Z0 ((A.out.2.2.1.kept HOA.out z0).kept o2 (.inl (by omega)));have HM2:=Z0 ((A.out.2.2.2.1.quiet HOA.out).kept o2 (.inl (by omega)) (.inl (by omega)));have HF2:=Z0 ((A.out.2.2.2.2.1.kept HOA.out z0).kept o2 (.inl (by omega)));have HZ2:=Z0 ((A.out.2.2.2.2.2.1.kept HOA.out z0).kept o2 (.inl (by omega)));have HB2:=Z0 (o2.heap HBA.out (.inr (by omega)));have HO2:=Z0 (Z9 (Z9 A.out.2.2.2.2.2.2 HOA.out (.inr rfl)) o2 (.inl (by omega)));have HGt:=Z0 (j1n HM2.out (k:Int));have hgb:j4t (kpS l) (64*n) (k:Int)=kpS l k:=by
     unfold j4t;rw[show inB (64*n) (k:Int)=true from by unfold inB;simp;omega];simp
    rw[hgb] at HGt;have c0:=HK2.out.cell;obtain⟨q0,q1,q2,q3,q4⟩:=V7 HB2.out;have f0:(0:Int)<=(f:Int):=by omega
    have f1:(f:Int)<=262144:=by omega
    clear o2 hT hgg hkk hgb A;cases hkp:kpS l k with
    | true=>
     rw[hkp] at HGt;obtain⟨g1,g2⟩:=j2p (n:=n) (r:=r) (kp:=kpS l) hkp;rw[hq] at g1;rw[hf] at g2;have HG1:=Z0 g1;have HG2:=Z0 g2;clear g1 g2 hkp hf hq HGo;gi_wp2_with (refine⟨trivial,rfl,?_⟩;gi_at_call 115;refine(callsIn_wide.2 HGt.out).mono ?_;rintro e w3 ⟨rfl,ho3⟩);refine⟨ho3.any _ _,by have:=HKn.out;omega,by rw[HG1.out];exact HR2.out.quiet ho3,HS2.out.kept ho3 z0,HK2.out.kept ho3 z0,HM2.out.quiet ho3,by rw[HG2.out];exact HF2.out.kept ho3 z0,HZ2.out.kept ho3 z0,Z9 HO2.out ho3 (.inr rfl)⟩
    | false=>
     rw[hkp] at HGt;obtain⟨g1,g2⟩:=HGo.out hkp;have HG1:=Z0 g1;have HG2:=Z0 g2;clear g1 g2 hkp hf hq HGo;gi_wp2_with (first
      | (refine⟨trivial,rfl,?_⟩;gi_at_call 115;refine(callsIn_wide.2 HGt.out).mono ?_;rintro e w3 ⟨rfl,ho3⟩;have HR3:=Z0 (HR2.out.quiet ho3);have HO3:=Z0 ho3;have d0:=(HS2.out.kept ho3 z0).cell;clear q0 q1 q2 q3 q4;obtain⟨q0,q1,q2,q3,q4⟩:=V7 (ho3.heap HB2.out z0);clear ho3)
      | (refine⟨trivial,rfl,?_⟩;gi_at_call 116;refine(callsIn_wide.2 (j3q HR3.out (a:=k) (k:=b1) (z:=b2) (x:=b3) (t:=b4) HRk.out.1 HRk.out.2.1 HKn.out.1)).mono ?_;rintro e w4 ⟨⟨v,rfl⟩,hr4,ho4⟩;have HR4:=Z0 hr4;have HO4:=Z0 ho4;have hf4:=(HF2.out.kept HO3.out z0).kept ho4 (.inr (by have:=HT.out;have:=HGG.out;omega));have HF4:=Z0 hf4;have e0:=hf4.cell;have e1:=hf4.frozen;clear hr4 ho4 hf4))
     have hset:=(Out.refl G (G+1) w4).setCell (p:=⟨G,0,none⟩) z1 (.int .i64 ((f:Int)+1));have hbx:=HF4.out.set (.int .i64 ((f:Int)+1));have hT:=HT.out;have hgg:=HGG.out;have hkk:=HKn.out;have h3:=HO3.out;have h4:=HO4.out;exact⟨((h3.any 0 (G+2)).trans (h4.wide (Nat.zero_le _) (by omega))).trans (hset.wide (Nat.zero_le _) (by omega)),by omega,by rw[HG1.out];exact HR4.out.kept hset (.inl (by omega)) (.inl (by omega)),((HS2.out.kept h3 z0).kept h4 (by omega)).kept hset (by omega),((HK2.out.kept h3 z0).kept h4 (by omega)).kept hset (by omega),((HM2.out.quiet h3).kept h4 (.inr (by omega)) (.inl (by omega))).kept hset (.inl (by omega)) (.inl (by omega)),by rw[HG2.out];exact hbx,((HZ2.out.kept h3 z0).kept h4 (by omega)).kept hset (by omega),Z9 ((HO2.out.trans (h3.any lo hi)).trans h4) hset (.inl (by omega))⟩
   case hdone1=>
    rintro W ⟨a1,a2,a3,a4⟩ hd;rw[hs1] at hd;have HD:=Z0 hd;have HS:=Z0 a2;have HF:=Z0 a3;have HO:=Z0 a4;have HWp:=Z0 (j6i a1 (q2h HTo.out _) (q8d HTo.out HRo.out _));have c0:=a2.cell;obtain⟨f,hf⟩:∃ f:Nat,J7 r (kpS l) (64*n)=f:=⟨_,rfl⟩
    rw[hf] at HF;rw[hs1];clear a1 a2 a3 a4 hd;gi_wp2_with (first
     | (refine⟨trivial,rfl,?_⟩;gi_at_call 117;refine(callsIn_wide.2 HWp.out).mono ?_;rintro e w3 ⟨⟨v,rfl⟩,hr3,ho3⟩;have HDl:=Z0 (j2x hr3);have HO3:=Z0 ho3;have d0:=(HS.out.kept ho3 (.inr (by have:=HT.out;omega))).cell;clear hr3 ho3)
     | (refine⟨trivial,rfl,?_⟩;gi_at_call 118;refine(callsIn_wide.2 HDl.out).mono ?_;rintro e w4 ⟨⟨v,rfl⟩,hr4,ho4⟩;have HR4:=Z0 hr4;have HO4:=Z0 ho4;have e0:=((HF.out.kept HO3.out (.inr (by have:=HT.out;have:=HGG.out;omega))).kept ho4 (.inr (by have:=HT.out;have:=HGG.out;omega))).cell;clear hr4 ho4))
    have hT:=HT.out;have hgg:=HGG.out;refine⟨by simp,.inl ⟨_,_,rfl,run_takeDeferred (HO4.out.heap (HO3.out.heap HD.out (.inr (by omega))) (.inr (by omega))),?_⟩⟩;exact⟨_,results_tmp2 rfl _ _ _,Z9 ((HO.out.trans HO3.out).trans HO4.out) (Q2 _ _ _) (by omega),.inl ⟨HC.out.1,by rw[hf];rfl,HR4.out.kept (Q2 _ _ _) (by omega) (by omega)⟩⟩
end
end Go.Proofs.YtjbbkeoolodeaabGreatDoor
namespace Go.Proofs.YtjbbkeoolodeaabGreatDoor
open Go.RowKit
attribute [local go_sem] Oper.semAt_some
set_option linter.unusedVariables false
set_option maxRecDepth 100000
set_option maxHeartbeats 16000000
set_option linter.unusedSimpArgs false
def x2g (r:Raw):Nat->Nat
 | 0=>0
 | p+1=>if r.P p then (match r.M (p:Int) with | some b=>x2g r p+J3 b.2.1 | none=>x2g r p) else x2g r p
theorem x2w {r:Raw} {p:Nat}:∀ {d:Nat},(∀ j,p<=j->j<p+d->r.P j=false)->x2g r (p+d)=x2g r p
 | 0,_=>rfl
 | d+1,h=>by
  refine Eq.trans ?_ (x2w (r:=r) (p:=p) (d:=d) (fun j a b=>h j a (by omega)))
  show x2g r ((p+d)+1)=_
  conv=>lhs;unfold x2g
  rw[h _ (by omega) (by omega)];rfl
theorem x2z {r:Raw} {p k:Nat} (hp:p<=k) (h:∀ j,p<=j->j<k->r.P j=false):x2g r k=x2g r p:=by
 obtain⟨d,rfl⟩:∃ d,k=p+d:=⟨k-p,by omega⟩
 exact x2w h
theorem x2x {r:Raw} {k:Nat} {b:Blk} (hP:r.P k=true) (hb:r.M (k:Int)=some b):x2g r (k+1)=x2g r k+J3 b.2.1:=by
 conv=>lhs;unfold x2g
 rw[hP,hb];rfl
def x3q (n u:Nat):Option Nat:=floatBits .quo .f64 (floatOfInt .f64 (u:Int)) (floatOfInt .f64 (64*(n:Int)))
section
variable {w:World} {lo hi n cap:Nat} {s:Nat->Nat} {r:Raw}
theorem x3p (h:RawAt w lo hi s n cap r) (hT:z8q r) (hR:q7x n r) {v:Nat} (hv:x3q n (x2g r (64*n))=some v) :
  Calls Tryz.prog 40 #[.pointer (some ⟨s 14,0,none⟩)] w fun e w'=>e=.returned (.float .f64 v)/\Out 0 0 w w':=by
 have HR0:=Z0 h;have HTo:=Z0 hT;have HRo:=Z0 hR;have HT:Hid (hi<=w.heap.size/\4<=w.heap.size/\4<=lo/\n<=4096/\1<=n):=⟨h.top,h.tab.lt,h.glob,h.n2,h.n1⟩
 have HL:=Z0 (fun w=>z4i (s 14) w);have HW:=Z0 (fun W (hr:RawAt W lo hi s n cap r)=>z3r hr);have HW0:=Z0 (z3r h);have n0:(0:Int)<((64*n:Nat):Int):=by have:=h.n1;omega
 have n1:(1:Int)<=(n:Int):=by have:=h.n1;omega
 have HV:=Z0 hv;clear h hT hR hv;refine(callsIn_wide (n:=0)).1 ?_;refine callsIn_of_wp_marks Tryz.func40 rfl trivial ?_ rfl;simp only[Tryz.ntmps40,List.size_toArray,List.length_cons,List.length_nil,Nat.reduceAdd,Nat.reduceSub,Array.replicate_succ,Array.replicate_zero,List.push_toArray,List.append_toArray,List.nil_append,List.cons_append];gi_wp2_with (first
  | (refine⟨trivial,rfl,?_⟩;gi_at_call 15;refine(callsIn_wide.2 HW0.out).mono ?_;rintro e w1 ⟨rfl,he⟩;rw[he];clear he w1)
  | (refine⟨trivial,rfl,?_⟩;gi_at_call 77;refine(callsIn_wide.2 (HL.out _)).mono ?_;rintro e w1 ⟨rfl,rfl⟩))
 obtain⟨W1,hW1⟩:∃ W1,(w.alloc (.cells #[.int .i64 0] 3)).alloc (.cells #[.pointer (some ⟨s 14,0,none⟩)] 34)=W1:=⟨_,rfl⟩
 obtain⟨G,hG⟩:∃ G,w.heap.size=G:=⟨_,rfl⟩
 have hs1:W1.heap.size=G+2:=by rw[<-hW1,<-hG];simp
 have ho1:Out 0 0 w W1:=by rw[<-hW1];exact((Out.refl 0 0 w).alloc _).alloc _
 have hx1:Box W1 G 3 (.int .i64 0):=by rw[<-hW1,<-hG];exact K4
 have hz1:Box W1 (G+1) 34 (.pointer (some ⟨s 14,0,none⟩)):=by rw[<-hW1,<-hG];exact heap_alloc2_new _ _ _
 rw[hW1,hG];rw[hG] at HT;have HGw:=Z0 hG;have HO1:=Z0 ho1;have HX1:=Z0 hx1;have HZ1:=Z0 hz1;clear hW1 ho1 hx1 hz1 hG;refine q5b (lo:=lo) (hi:=hi) (n:=n) (cap:=cap) (g:=G+1) (s:=s) rfl rfl
  (fun p W=>p<=64*n/\RawAt W lo hi s n cap r/\(∃ f,At n r p f/\x2g r p<=f)/\Box W G 3 (.int .i64 ((x2g r p:Nat):Int))/\Box W (G+1) 34 (.pointer (some ⟨s 14,0,none⟩))/\Out 0 0 w W)
  (fun W=>RawAt W lo hi s n cap r/\x2g r (64*n)<=64*n/\Box W G 3 (.int .i64 ((x2g r (64*n):Nat):Int))/\Out 0 0 w W)
  (fun c W=>False) ?hm1 ?hq1 ?hqk1 ?hqx1 ?hy1 ?he1 ?hz1 ?hdone1 ?hstop1
 case hm1=>
  rintro p W ⟨hp,a1,a2,a3,a4,a5⟩;exact⟨hp,_,a1,HTo.out,a4⟩
 case hq1=>
  rintro p W W' x y ⟨hp,a1,a2,a3,a4,a5⟩ o hx;have hT:=HT.out;have hgw:=HGw.out;exact⟨hp,a1.kept o (by omega) (by omega),a2,a3.kept o (by omega),a4.kept o (by omega),Z9 a5 o (by omega)⟩
 case hqk1=>
  rintro W W' x y ⟨a1,a2,a3,a4⟩ o hx;have hT:=HT.out;have hgw:=HGw.out;exact⟨a1.kept o (by omega) (by omega),a2,a3.kept o (by omega),Z9 a4 o (by omega)⟩
 case hqx1=>exact fun c W W' x y h _ _=>h
 case hstop1=>exact fun c W h _=>h.elim
 case hz1=>exact⟨Nat.zero_le _,HR0.out.quiet HO1.out,⟨0,⟨Nat.zero_le _,fun a b h=>absurd h (by omega),fun a _ _=>Nat.zero_le _⟩,Nat.le_refl _⟩,HX1.out,HZ1.out,HO1.out⟩
 case he1=>
  rintro p W rr ⟨hp,a1,⟨f,hA,hu⟩,a3,a4,a5⟩ hr hk;obtain⟨eP,eM⟩:=z2j a1 hr;rw[<-eP] at hk;rcases Q1 r.P (64*n) p with ⟨_,hz⟩ | ⟨i,hi',_⟩
  ·have e:=x2z hp hz;exact⟨a1,by rw[e];have:=hA.le;omega,by rw[e];exact a3,a5⟩
  ·have:(-1:Int)=i:=hk.symm.trans hi';omega
 case hy1=>
  rintro p W rr k b ⟨hp,a1,⟨f,hA,hu⟩,a3,a4,a5⟩ hr hk hb hsz;obtain⟨eP,eM⟩:=z2j a1 hr;rw[<-eP] at hk;rw[<-eM] at hb;obtain⟨hpk,hkn,hPk,hz⟩:p<=k/\k<64*n/\r.P k=true/\∀ j,p<=j->j<k->r.P j=false:=by
   rcases Q1 r.P (64*n) p with ⟨e1,_⟩ | ⟨i,e1,e2,e3,e4,e5⟩
   ·have:(-1:Int)=k:=e1.symm.trans hk;omega
   ·have:i=k:=by have:(i:Int)=k:=e1.symm.trans hk;omega
    subst this;exact⟨e3 hp,e2,e4,e5⟩
  rw[hs1] at hsz ⊢;have hRo:=HRo.out k b hPk hb;have hfk:=hA.above k hpk hPk;have hA':=hA.step HRo.out hpk hz hPk hb;have hus:=x2x hPk hb;rw[x2z hpk hz] at hus;obtain⟨b1,b2,b3,b4⟩:=b;obtain⟨u,hu1⟩:∃ u,x2g r p=u:=⟨_,rfl⟩
  rw[hu1] at a3 hu hus;have A:=Z0 (And.intro a1 (And.intro a3 (And.intro a4 (And.intro a5 (And.intro hA' hus)))));have HK:=Z0 (And.intro hpk (And.intro hkn (And.intro hfk (And.intro hsz hu))));have HRk:=Z0 hRo;clear a1 a3 a4 a5 hA hr hk hb eP eM hz hPk hRo hA' hp hpk hkn hfk hsz hus hu hu1;unfold q6a;dsimp only at A HRk ⊢;obtain⟨WA,hWA⟩:∃ WA,W.alloc (bo (k:Int) b1 b2 b3 b4)=WA:=⟨_,rfl⟩
  have HBA:Hid (WA.heap[W.heap.size]? = some (bo (k:Int) b1 b2 b3 b4)):=by rw[<-hWA];exact heap_alloc_new _ _
  have HOA:Hid (Out 0 0 W WA):=by rw[<-hWA];exact(Out.refl 0 0 W).alloc _
  obtain⟨H,hH⟩:∃ H,W.heap.size=H:=⟨_,rfl⟩
  rw[hH] at HK HBA;unfold bo at hWA HBA;gi_wp2;(try rw[hWA]);refine⟨HOA.out.any _ _,?_⟩;(try rw[hH]);clear hWA hH;intro W2 o2;have hT:=HT.out;have hkk:=HK.out;have hgw:=HGw.out;have HR2:=Z0 ((A.out.1.quiet HOA.out).kept o2 (.inl (by omega)) (.inl (by omega)));have HX2:=Z0 ((A.out.2.1.kept HOA.out z0).kept o2 (.inl (by omega)));have HZ2:=Z0 ((A.out.2.2.1.kept HOA.out z0).kept o2 (.inl (by omega)));have HB2:=Z0 (o2.heap HBA.out (.inr (by omega)));have HO2:=Z0 (Z9 (A.out.2.2.2.1.trans HOA.out) o2 (.inl (by omega)));have c0:=HX2.out.cell;obtain⟨_,_,q2,_,_⟩:=V7 HB2.out;have HRoom:=Z0 (fun w'=>q5t b2 HRk.out.1 HRk.out.2.1 w');have HWR:Hid (IntKind.i64.wrap ((u:Int)+((J3 b2:Nat):Int))=((u+J3 b2:Nat):Int)):=by show _=_;simp[IntKind.wrap,IntKind.signed,IntKind.bits];have:=HRk.out;omega
  clear o2 hT hkk hgw;gi_wp2_with fail;refine z0p (S:=fun w'=>w'.cell? ⟨H,2,none⟩=some (.int .i64 b2)) (by kernel_rfl) (by kernel_rfl) ?hS1 (fun hHeld=>?rest1)
  case hS1=>exact q2
  refine tk 1 ?_;refine tk 2 ?_;refine rd2 0 3 (fun KK hK=>?_) fun KK hK=>?_
  ·simp only[xa,xb,xc];go_simp;refine hK.out _ _ ?hS4 (fun hHeld2=>?rest4)
   case hS4=>exact hHeld
   clear hK KK;replace hHeld:=hHeld2;clear hHeld2;refine rd1 3 fun KK hK=>?_
   simp only[xa,xb,xc];go_simp;refine(HRoom.out _).mono ?_;rintro e w5 ⟨rfl,hoo⟩;have hx5:=HX2.out.kept (((Out.refl 0 0 _).drew).trans hoo) z0;have e0:=hx5.cell;have e1:=hx5.frozen;have HX5:=Z0 hx5;have HOO:=Z0 hoo;clear hx5;refine hK.out _ _ ?hS5 (fun hHeld2=>?rest5)
   case hS5=>exact hoo.cell hHeld z0
   clear hK KK;replace hHeld:=hHeld2;clear hHeld2;refine tk 4 ?_;refine rd1 5 fun KK hK=>?_
   simp only[xa,xb,xc];go_simp;refine hK.out _ _ ?hS7 (fun hHeld2=>?rest7)
   case hS7=>exact((Out.refl G (G+1) w5).setCell z1 _).cell hHeld (by have:=HK.out;omega)
   clear hK KK;replace hHeld:=hHeld2;clear hHeld2;refine dn ?_;clear hHeld;simp only[q2k,z8r];gi_wp2;have hset:=(Out.refl G (G+1) w5).setCell (p:=⟨G,0,none⟩) z1 (.int .i64 (IntKind.i64.wrap ((u:Int)+((J3 b2:Nat):Int))));have hq5:Out 0 0 W2 w5:=((Out.refl 0 0 W2).drew).trans HOO.out;have hbx:=HX5.out.set (.int .i64 (IntKind.i64.wrap ((u:Int)+((J3 b2:Nat):Int))));rw[HWR.out] at hbx hset;(try rw[HWR.out]);have hT:=HT.out;have hK:=HK.out;have hgw:=HGw.out;exact⟨(hq5.any _ _).trans (hset.wide (Nat.zero_le _) (by omega)),by omega,(HR2.out.quiet hq5).kept hset (.inl (by omega)) (.inl (by omega)),⟨_,A.out.2.2.2.2.1,by rw[A.out.2.2.2.2.2];omega⟩,by rw[A.out.2.2.2.2.2];exact hbx,(HZ2.out.kept hq5 z0).kept hset (by omega),Z9 (HO2.out.trans hq5) hset (.inl (by omega))⟩
  ·simp only[xa,xb,xc];go_simp;refine(HRoom.out _).mono ?_;rintro e w5 ⟨rfl,hoo⟩;have hx5:=HX2.out.kept (((Out.refl 0 0 _).drew).trans hoo) z0;have e0:=hx5.cell;have e1:=hx5.frozen;have HX5:=Z0 hx5;have HOO:=Z0 hoo;clear hx5;refine hK.out _ _ ?hS8 (fun hHeld2=>?rest8)
   case hS8=>exact hoo.cell hHeld z0
   clear hK KK;replace hHeld:=hHeld2;clear hHeld2;refine rd1 0 fun KK hK=>?_
   simp only[xa,xb,xc];go_simp;refine hK.out _ _ ?hS9 (fun hHeld2=>?rest9)
   case hS9=>exact hHeld
   clear hK KK;replace hHeld:=hHeld2;clear hHeld2;refine tk 4 ?_;refine rd1 5 fun KK hK=>?_
   simp only[xa,xb,xc];go_simp;refine hK.out _ _ ?hS11 (fun hHeld2=>?rest11)
   case hS11=>exact((Out.refl G (G+1) w5).setCell z1 _).cell hHeld (by have:=HK.out;omega)
   clear hK KK;replace hHeld:=hHeld2;clear hHeld2;refine dn ?_;clear hHeld;simp only[q2k,z8r];gi_wp2;have hset:=(Out.refl G (G+1) w5).setCell (p:=⟨G,0,none⟩) z1 (.int .i64 (IntKind.i64.wrap ((u:Int)+((J3 b2:Nat):Int))));have hq5:Out 0 0 W2 w5:=((Out.refl 0 0 W2).drew).trans HOO.out;have hbx:=HX5.out.set (.int .i64 (IntKind.i64.wrap ((u:Int)+((J3 b2:Nat):Int))));rw[HWR.out] at hbx hset;(try rw[HWR.out]);have hT:=HT.out;have hK:=HK.out;have hgw:=HGw.out;exact⟨(hq5.any _ _).trans (hset.wide (Nat.zero_le _) (by omega)),by omega,(HR2.out.quiet hq5).kept hset (.inl (by omega)) (.inl (by omega)),⟨_,A.out.2.2.2.2.1,by rw[A.out.2.2.2.2.2];omega⟩,by rw[A.out.2.2.2.2.2];exact hbx,(HZ2.out.kept hq5 z0).kept hset (by omega),Z9 (HO2.out.trans hq5) hset (.inl (by omega))⟩
 case hdone1=>
  rintro W ⟨a1,a2,a3,a4⟩ hd;rw[hs1] at hd;obtain⟨u,hu1⟩:∃ u,x2g r (64*n)=u:=⟨_,rfl⟩
  rw[hu1] at a2 a3;have HD:=Z0 hd;have HU:=Z0 a2;have HX:=Z0 a3;have HO:=Z0 a4;have HWd:=Z0 (HW.out W.drew (a1.quiet ((Out.refl 0 0 _).drew)));have c0:=a3.cell;have u0:(0:Int)<=(u:Int):=by omega
  rw[hs1];have hv:=HV.out;rw[hu1] at hv;have hcv1:∀ wx,(convert 3 75 (.int .i64 (u:Int))).run Tryz.prog wx=.ok (.float .f64 (floatOfInt .f64 (u:Int))) wx:=fun wx=>run_convert_int_float wx _ _ _ _ _ (by rw[Tryz.underlying3];rfl) Tryz.underlying75
  have hcv2:∀ wx,(convert 3 75 (.int .i64 (64*(n:Int)))).run Tryz.prog wx=.ok (.float .f64 (floatOfInt .f64 (64*(n:Int)))) wx:=fun wx=>run_convert_int_float wx _ _ _ _ _ (by rw[Tryz.underlying3];rfl) Tryz.underlying75
  have hdv:∀ wx,(binOp .quo 75 (.float .f64 (floatOfInt .f64 (u:Int))) (.float .f64 (floatOfInt .f64 (64*(n:Int))))).run Tryz.prog wx=.ok (.float .f64 v) wx:=fun wx=>run_float_arith wx _ _ _ _ _ _ hv
  have hw64:((64*n:Nat):Int)=64*(n:Int):=by omega
  rw[hw64] at HWd;generalize floatOfInt .f64 (u:Int)=x1 at *
  generalize floatOfInt .f64 (64*(n:Int))=x2 at *
  clear hw64 hv;clear a1 a2 a3 a4 hd hu1;gi_wp2_with fail;refine q1l ?_;refine wp_region_held_drew (S:=fun w'=>w'.cell? ⟨G,0,none⟩=some (.int .i64 (u:Int))) (by kernel_rfl) ?hS12 (fun hHeld=>?rest12)
  case hS12=>exact c0
  refine tk 0 ?_;refine tk 1 ?_;refine tk 2 ?_;refine rd1 3 fun KK hK=>?_
  simp only[xa,xb,xc];go_simp;refine HWd.out.mono ?_;rintro e w5 ⟨rfl,rfl⟩;refine hK.out _ _ ?hS16 (fun hHeld2=>?rest16)
  case hS16=>exact hHeld
  clear hK KK;replace hHeld:=hHeld2;clear hHeld2;refine tk 4 ?_;refine tk 5 ?_;refine tk 6 ?_;refine dn ?_;clear hHeld;simp only[z8r];gi_wp2;have hT:=HT.out;have hgw:=HGw.out;refine⟨by simp,.inl ⟨_,_,rfl,run_takeDeferred (((Out.refl 0 0 W).drew).heap HD.out z0),?_⟩⟩;exact⟨_,results_tmp rfl _ _ _,rfl,Z9 (HO.out.trans ((Out.refl 0 0 W).drew)) (Q2 _ _ _) (by omega)⟩
end
end Go.Proofs.YtjbbkeoolodeaabGreatDoor
