import Derived.Test.YtjgnogflgoihfaaGreatDoorP30
set_option linter.unusedSimpArgs false
set_option linter.unusedVariables false
set_option maxHeartbeats 16000000
set_option maxRecDepth 100000
namespace Go.Proofs.YtjgnogflgoihfaaGreatDoor
open Go.RowKit
theorem j7d (n:Int) (h:q9p n=false) (w:World):Kz 37 #[Iz n] w fun e w'=>e=.returned (.tuple #[.pointer none,Iz 1])/\w'=w:=by
 have HP:=Q3 (fun w=>x6r n h w);clear h;go_enter Tryz.func37,Tryz.ntmps37
 go_wp2_with (go_at_call 97;refine Q4 (HP.out _) ?_);go_ret2;exact⟨rfl,rfl⟩
theorem x4m (n:Int) (h:q9p n=false) (w:World):Kz 15 #[Iz n] w fun e w'=>e=.returned (.tuple #[.pointer none,Iz 1])/\w'=w:=by
 have HP:=Q3 (fun w=>j7d n h w);clear h;go_enter Tryz.func15,Tryz.ntmps15
 go_wp2_with (go_at_call 37;refine Q4 (HP.out _) ?_);go_ret2;exact⟨rfl,rfl⟩
def opQ (n:Nat) (st:Sp) (k m:Int):(Int × Blk) × Int × Int:=
 if opE (Q6 n st) k m ≠ 0 then ((0,0,0,0,0),opE (Q6 n st) k m,opA (Q6 n st) k m) else
 match (Q6 n st).M m with
 | none=>((0,0,0,0,0),0,0)
 | some b=>((m,b),0,0)
section
variable {w:World} {lo hi hb rb n cap cw co:Nat} {s:Nat->Nat} {st:Sp}
theorem j5y (h:SpAt w lo hi s n cap st) (hH:w.cell? ⟨hb,0,none⟩=some (.pointer (some ⟨s 14,0,none⟩))) (k m:Int) {x0 x1 x2 x3 x4 y1 y2:Int} (hq:opQ n st k m=((x0,x1,x2,x3,x4),y1,y2)):Calls Tryz.prog 71 #[.pointer (some ⟨hb,0,none⟩),.agg #[.int .i64 k,.int .i64 m]] w fun e w'=>e=.returned (.tuple #[.agg #[.int .i64 x0,.int .i64 x1,.int .i64 x2,.int .i64 x3,.int .i64 x4],.agg #[.int .i64 y1,.int .i64 y2]])/\Out 0 0 w w':=by
 unfold opQ at hq;by_cases ho:opE (Q6 n st) k m ≠ 0
 ·rw[if_pos ho] at hq;cases hq;exact x2r h.1 (G6 h.2) hH k m ho
 ·rw[if_neg ho] at hq;have dZ:opE (Q6 n st) k m=0:=by omega
  obtain⟨hk,b,hM,_,_⟩:=z3e dZ;rw[hM] at hq;obtain⟨t1,t2,t3,t4⟩:=b;cases hq;exact j8b h.1 (G6 h.2) hH k m hM dZ
theorem j3v (h:RfAt w lo hi s n cw co st) (hI:Inv n st) (hR:w.cell? ⟨rb,0,none⟩=some (.pointer (some ⟨s 0,0,none⟩))) (k m:Int) {x0 x1 x2 x3 x4 y1 y2:Int} (hq:opQ n st k m=((x0,x1,x2,x3,x4),y1,y2)):Calls Tryz.prog 72 #[.pointer (some ⟨rb,0,none⟩),.agg #[.int .i64 k,.int .i64 m]] w fun e w'=>e=.returned (.tuple #[.agg #[.int .i64 x0,.int .i64 x1,.int .i64 x2,.int .i64 x3,.int .i64 x4],.agg #[.int .i64 y1,.int .i64 y2]])/\Out 0 0 w w':=by
 unfold opQ at hq;by_cases ho:opE (Q6 n st) k m ≠ 0
 ·rw[if_pos ho] at hq;cases hq;exact q9c h hI hR k m ho
 ·rw[if_neg ho] at hq;have dZ:opE (Q6 n st) k m=0:=by omega
  obtain⟨hk,b,hM,_,_⟩:=z3e dZ;rw[hM] at hq;obtain⟨t1,t2,t3,t4⟩:=b;cases hq;exact z8r h hI hR k m hM dZ
end
def FitA (L:Nat) (tl:Nat->Nat) (e:Ending):Prop:=∃ b,e=.returned (.bool b)/\(b=true->∀ j,j<L->j<80->tl j<=20000)
theorem q7c {w:World} {g cK L cp:Nat} {tl:Nat->Nat} {tp:Nat->Option Addr} {tc:Nat->Nat} (hC:∀ i,i<L->cq w g (cK+i*10+9)=some (.slice (tp i) (tl i) (tc i))) (hB:∀ i,i<L->tl i<=4611686018427387904) :
  Kz 10 #[.slice (some ⟨g,cK,none⟩) L cp] w fun e w'=>w'=w/\FitA L tl e:=by
 have HC:=Q3 (And.intro hC hB);have ll0:(0:Int)<=(L:Int):=by omega
 clear hC hB;go_enter Tryz.func10,Tryz.ntmps10
 go_wp2_with fail;go_loopw [3,4] (fun nv u wr=>∃ (i n:Nat),u=Iz (i:Int)/\nv=Iz (n:Int)/\i<=L/\i<=80/\n<=4611686018427407904/\wr=w/\(n<=20000->∀ j,j<i->tl j<=20000)) (fun _ u _=>80-(intOf u).toNat)
 case atStart=>exact⟨0,0,rfl,rfl,Nat.zero_le _,by omega,by omega,rfl,fun _ j hj=>by omega⟩
 case round=>
  obtain⟨i,n,rfl,rfl,i1,i2,i3,rfl,hl⟩:=hrel;have i0:(0:Int)<=(i:Int):=by omega
  have n0:(0:Int)<=(n:Int):=by omega
  have i4:(i:Int)<=80:=by omega
  have n4:(n:Int)<=4611686018427407904:=by omega
  have HL:=Q3 hl;clear hl;by_cases hi:i<L/\i<80
  ·have j1:(i:Int)<(L:Int):=by omega
   have j2:(i:Int)<80:=by omega
   by_cases hn:n<=20000
   ·have j3:(n:Int)<=20000:=by omega
    have c5:=HC.out.1 i hi.1;have hb:=HC.out.2 i hi.1;obtain⟨m,hm⟩:∃ m,tl i=m:=⟨_,rfl⟩
    rw[hm] at c5 hb;have m0:(0:Int)<=(m:Int):=by omega
    have m1:(m:Int)<=4611686018427387904:=by omega
    have Hm:=Q3 hm;clear hm;go_wp2;go_roundw
    case rel=>
     refine⟨i+1,n+m,by go_num,by go_num,by omega,by omega,by omega,trivial,fun h j hj=>?_⟩;by_cases e:j=i
     ·subst e;have:=Hm.out;omega
     ·exact HL.out hn j (by omega)
    case measure=>simp[intOf];omega
   ·have j3:¬ (n:Int)<=20000:=by omega
    have j4:decide ((n:Int)<=20000)=false:=decide_eq_false j3;go_wp2;go_ret;exact⟨rfl,false,rfl,fun h=>by simp at h⟩
  ·obtain⟨r,hr⟩:∃ r,decide ((n:Int)<=20000)=r:=⟨_,rfl⟩
   have HE:Hid (r=true->∀ j,j<L->j<80->tl j<=20000):=fun h j h1 h2=>HL.out (by rw[<-hr] at h;have:=of_decide_eq_true h;omega) j (by omega)
   by_cases hi2:i<L
   ·have j1:(i:Int)<(L:Int):=by omega
    have j2:¬ (i:Int)<80:=by omega
    have j3:decide ((i:Int)<80)=false:=decide_eq_false j2;go_wp2;go_ret;exact⟨rfl,r,rfl,HE.out⟩
   ·have j1:¬ (i:Int)<(L:Int):=by omega
    have j3:decide ((i:Int)<(L:Int))=false:=decide_eq_false j1;go_wp2;go_ret;exact⟨rfl,r,rfl,HE.out⟩
structure Be9 (w:World) (B hb rb bk lo hi lo2 hi2:Nat) (s s2:Nat->Nat) (n cap cw co:Nat) (st:Sp):Prop where
 box:w.heap[B]? = some (.cells #[.pointer (some ⟨hb,0,none⟩),.pointer (some ⟨rb,0,none⟩),.pointer (some ⟨bk,0,none⟩)] 41)
 p:SpAt w lo hi s n cap st
 pc:w.cell? ⟨hb,0,none⟩=some (.pointer (some ⟨s 14,0,none⟩))
 r:RfAt w lo2 hi2 s2 n cw co st
 rc:w.cell? ⟨rb,0,none⟩=some (.pointer (some ⟨s2 0,0,none⟩))
 o1:hi<=hb
 o2:hb<lo2
 o3:hi2<=rb
 o4:rb<bk
 o5:bk<B
def bk0:Obj:=.cells #[.slice none 0 0,.slice none 0 0,.slice none 0 0,.slice none 0 0,.slice none 0 0,.slice none 0 0,.slice none 0 0,.slice none 0 0,.slice none 0 0] 59
theorem q1k (n:Int) (h:q9p n=false) (w:World):Kz 11 #[Iz n] w fun e w'=>e=.returned (.tuple #[.pointer none,.bool true])/\w'=w:=by
 have HP:=Q3 (fun w=>x4m n h w);have HR:=Q3 (fun w=>x2z n h w);clear h;go_enter Tryz.func11,Tryz.ntmps11
 go_wp2_with (first | (go_at_call 15;refine Q4 (HP.out _) ?_) | (go_at_call 19;refine Q4 (HR.out _) ?_));go_ret2;exact⟨rfl,rfl⟩
theorem j3h {w:World} (hT:Tab w) (n:Nat) (h1:1<=n) (h2:n<=4096):Kz 11 #[Iz n] w fun e w'=>∃ B hb rb bk lo hi lo2 hi2 s s2 cap,e=.returned (.tuple #[Pq B,.bool true])/\Be9 w' B hb rb bk lo hi lo2 hi2 s s2 n cap (64*n) (64*n) newSp/\w'.heap[bk]? = some bk0/\w.heap.size<=lo/\Out 0 0 w w':=by
 have HP:=Q3 (NewS hT n h1 h2);have HN:=Q3 (And.intro h1 h2);clear hT h1 h2;go_enter Tryz.func11,Tryz.ntmps11
 go_wp2_with fail;refine HP.out.mono ?_;rintro e w1 ⟨s,cap,hi,hb,rfl,p1,p2,p3,p4⟩;have H1:=Q3 (And.intro p1 (And.intro p2 (And.intro p3 p4)));clear p1 p2 p3 p4 HP;go_wp2_with fail;refine(j8q (w:=w1) (by have h1:=H1.out.1.1.glob;have h2:=H1.out.2.2.2.size;omega) n HN.out.1 HN.out.2).mono ?_;rintro e w2 ⟨s2,hi2,rb,rfl,r1,r2,r3,r4⟩;have f1:=J0 (w:=w2) (o:=bk0) (o2:=.cells #[Pq hb,Pq rb,Pq w2.heap.size] 41);have f2:=J4 (w:=w2) (o:=bk0) (o2:=.cells #[Pq hb,Pq rb,Pq w2.heap.size] 41);have o2:=((Out.refl 0 0 w2).alloc bk0).alloc (.cells #[Pq hb,Pq rb,Pq w2.heap.size] 41);have H2:=Q3 (And.intro r1 (And.intro r2 (And.intro r3 (And.intro r4 (And.intro f1 (And.intro f2 o2))))));clear r1 r2 r3 r4 f1 f2 o2;unfold bk0 at H2;go_wp2;go_ret2;obtain⟨r1,r2,r3,r4,f1,f2,o2⟩:=H2.out;obtain⟨p1,p2,p3,p4⟩:=H1.out;refine⟨w2.heap.size+1,hb,rb,w2.heap.size,w.heap.size,hi,w1.heap.size,hi2,s,s2,cap,rfl,⟨f2,p1.quiet (r4.trans o2),(r4.trans o2).cell p3 z0,r1.quiet o2,o2.cell r3 z0,p2,Y4 p3,r2,Y4 r3,Nat.lt_succ_self _⟩,f1,Nat.le_refl _,p4.trans (r4.trans o2)⟩
theorem j2z (k m:Int) (v:Value) (hk:k<100) (w:World):Kz 21 #[v,Vz k m] w fun e w'=>e=.returned (Vz k m)/\Out 0 0 w w':=by
 have f1:=J0 (w:=w) (o:=Dz k m 32) (o2:=Dz 0 0 32);have f2:=J4 (w:=w) (o:=Dz k m 32) (o2:=Dz 0 0 32);have o2:=((Out.refl 0 0 w).alloc (Dz k m 32)).alloc (Dz 0 0 32);obtain⟨u0,u1,u2,u3⟩:=Q5 f1;obtain⟨x0,x1,x2,x3⟩:=Q5 f2;have f3:=J4 (w:=w) (o:=Dz k m 32) (o2:=Dz k m 32);have o3:=((Out.refl 0 0 w).alloc (Dz k m 32)).alloc (Dz k m 32);have H:=Q3 (And.intro f3 o3);clear f1 f2 f3 o2 o3;go_enter Tryz.func21,Tryz.ntmps21
 go_wp2;exact bodyPost_ret (K5 Tryz.results21 rfl (U1 H.out.1)) rfl ⟨rfl,H.out.2⟩
theorem q7d (k m:Int) (w:World):Kz 78 #[Vz k m] w fun e w'=>e=.returned (Iz (wrap64 (wrap64 (wrap64 (m*8)+k)-1)))/\Out 0 0 w w':=by
 have f1:=heap_alloc_new w (Dz k m 32);have H:=Q3 ((Out.refl 0 0 w).alloc (Dz k m 32));obtain⟨u0,u1,u2,u3⟩:=Q5 f1;clear f1;go_enter Tryz.func78,Tryz.ntmps78
 go_wp2;go_ret;exact⟨rfl,H.out⟩
theorem j3j:∀ (l:List (Nat × Blk)) (j:Nat) (b:Nat × Blk),l[j]? = some b->(bks l)[j*5]? = some (.int .i64 (b.1:Int))/\(bks l)[j*5+1]? = some (.int .i64 b.2.1)
 | [],j,b,h=>by simp at h
 | q :: l,0,b,h=>by
  simp at h;subst h;rw[z7t];exact⟨rfl,rfl⟩
 | q :: l,j+1,b,h=>by
  have:=j3j l j b (by simpa using h);rw[z7t,show (j+1)*5=j*5+5 from by omega];simpa using this
theorem z8m {w:World} {base:Nat} {v:Value} {l:List (Nat × Blk)} (h:F7 w base v l):∃ po pc,v=.slice po l.length pc/\∀ (j:Nat) (b:Nat × Blk),l[j]? = some b->∃ g,po=some ⟨g,0,none⟩/\base<=g/\g<w.heap.size/\w.cell? ⟨g,j*5,none⟩=some (.int .i64 (b.1:Int))/\w.cell? ⟨g,j*5+1,none⟩=some (.int .i64 b.2.1):=by
 obtain⟨h1,h2⟩:=h;rcases h2 with ⟨e1,h2⟩ | ⟨g,cap,dI,rfl,h3,h4,h5,h6,h7,h8⟩
 ·refine⟨none,0,by rw[e1,h2],fun j b hj=>?_⟩;rw[List.eq_nil_of_length_eq_zero h2] at hj;simp at hj
 refine⟨some ⟨g,0,none⟩,cap,rfl,fun j b hj=>⟨g,rfl,h3,Q7 h4,?_⟩⟩;have hl:=(List.getElem?_eq_some_iff.1 hj).1;obtain⟨k0,k1⟩:=j3j l j b hj;have get:∀ i u,i<l.length*5->(bks l)[i]? = some u->w.cell? ⟨g,i,none⟩=some u:=by
  intro i u hi hu;rw[<-h8] at hu;have:dI[i]? = some u:=by simpa [List.getElem?_take,hi] using hu
  simp[World.cell?,h4,this]
 exact⟨get _ _ (by omega) k0,get _ _ (by omega) k1⟩
theorem x1g {l:List (Nat × Blk)} {i:Nat} {b:Nat × Blk} (k:Int) (h:l[i]? = some b):vaL (l.take (i+1)) k=if (k == 100 || b.2.1 == k-100)=true then vaL (l.take i) k ++ [(b.1:Int)] else vaL (l.take i) k:=by
 unfold vaL;rw[List.take_add_one,h,List.filter_append,List.map_append];by_cases c:(k == 100 || b.2.1 == k-100)=true
 ·rw[if_pos c,Option.toList_some];have e:[b].filter (fun b=>k == 100 || b.2.1 == k-100)=[b]:=by unfold List.filter;rw[c];rfl
  rw[e];rfl
 ·rw[if_neg c,Option.toList_some];have c':(k == 100 || b.2.1 == k-100)=false:=by simpa only[Bool.not_eq_true] using c
  have e:[b].filter (fun b=>k == 100 || b.2.1 == k-100)=[]:=by unfold List.filter;rw[c'];rfl
  rw[e];simp
theorem q8m (l:List (Nat × Blk)) (k:Int):(vaL l k).length<=l.length:=by
 unfold vaL;rw[List.length_map];exact List.length_filter_le _ _
theorem j6m (h c:Int) (hc:0<c):(h.tmod c<0->h.tmod c+c=h % c)/\(¬h.tmod c<0->h.tmod c=h % c)/\-c<h.tmod c/\h.tmod c<c:=by
 have:=Int.tmod_lt_of_pos h hc;have e:=Int.emod_eq_tmod (a:=h) (b:=c);have l1:=Int.lt_tmod_of_pos h hc;have m1:=Int.emod_nonneg h (Int.ne_of_gt hc);have m2:=Int.emod_lt_of_pos h hc;refine⟨?_,?_,?_,?_⟩
 ·intro q;rw[e,if_neg]
  ·rw[Int.natAbs_of_nonneg (Int.le_of_lt hc)]
  ·rintro(z | z)
   ·exact absurd (Int.tmod_nonneg c z) (by omega)
   ·have:=Int.tmod_eq_zero_of_dvd z;omega
 ·intro q;rw[e];split
  ·omega
  ·rename_i z
   exfalso
   rw[if_neg z] at e;rw[Int.natAbs_of_nonneg (Int.le_of_lt hc)] at e;omega
 ·omega
 ·omega
theorem j0s {w:World} {base:Nat} {v:Value} {l:List (Nat × Blk)} (hL:F7 w base v l) (hl:l.length<=100000) (k m:Int) (hk:100<=k) (jC:k<=9223372036854775807) (m1:-9223372036854775808<=m) (m2:m<=9223372036854775807):Kz 21 #[v,Vz k m] w fun e w'=>e=.returned (.agg #[Iz (vaV l k m).1,Iz (vaV l k m).2])/\Out 0 0 w w':=by
 obtain⟨po,pc,rfl,cU⟩:=z8m hL;have HC:=Q3 cU;have Hl:=Q3 hl;have ll0:(0:Int)<=(l.length:Int):=by omega
 have ll1:(l.length:Int)<=100000:=by omega
 have hk3:¬ k<100:=by omega
 have hwk:wrap64 (k-100)=k-100:=G9 _ (by omega) (by omega);have hwk2:IntKind.i64.wrap (k-100)=k-100:=by rw[IntKind.wrap_i64];omega
 have f1:=J0 (w:=w) (o:=Dz k m 32) (o2:=Dz 0 0 32);have f2:=J4 (w:=w) (o:=Dz k m 32) (o2:=Dz 0 0 32);have o2:=((Out.refl 0 0 w).alloc (Dz k m 32)).alloc (Dz 0 0 32);obtain⟨gv,aN⟩:∃ g,w.heap.size=g:=⟨_,rfl⟩
 have aW:=Q3 aN;obtain⟨V2,aQ⟩:∃ V,(w.alloc (Dz k m 32)).alloc (Dz 0 0 32)=V:=⟨_,rfl⟩
 have HV2:Hid (V2.heap.size=gv+2):=by
  have e:V2.heap.size=w.heap.size+2:=by rw[<-aQ];first | (show ((w.heap.push _).push _).size=_;rw[Array.size_push,Array.size_push]) | simp
  rw[<-aN];exact e
 rw[aQ,aN] at f1 f2;rw[aQ] at o2;have HF:=Q3 (And.intro f1 (And.intro f2 o2));obtain⟨u0,u1,u2,u3⟩:=Q5 f1;clear hL hl cU f1 f2 o2;go_enter Tryz.func21,Tryz.ntmps21
 go_wp2_with fail;(try rw[aQ]);(try rw[aN]);clear aQ aN u0 u1 u2 u3;go_loopw [5,6] (fun sv u wr=>∃ i:Nat,u=Iz (i:Int)/\i<=l.length/\IRow wr (gv+2) sv (vaL (l.take i) k)/\Out 0 0 V2 wr) (fun _ u _=>l.length-(intOf u).toNat)
 case atStart=>exact⟨0,rfl,Nat.zero_le _,IRow.nil _ _,Out.refl 0 0 _⟩
 case round=>
  obtain⟨i,rfl,i1,hI,hO⟩:=hrel;have HO:=Q3 hO;have i0:(0:Int)<=(i:Int):=by omega
  have i2:(i:Int)<=100000:=by omega
  obtain⟨u0,u1,u2,u3⟩:=Q5 (hO.heap HF.out.1 z0);by_cases hi:i<l.length
  ·have HI:=Q3 hI;clear hI hO u1 u2 u3;have j1:(i:Int)<(l.length:Int):=by omega
   obtain⟨b,hb⟩:∃ b,l[i]? = some b:=⟨_,List.getElem?_eq_getElem hi⟩
   obtain⟨g,rfl,hg1,nL,c0,c1⟩:=HC.out i b hb;have HSt:=Q3 (x1g k hb);replace c0:=(HF.out.2.2.trans HO.out).cell c0 z0;replace c1:=(HF.out.2.2.trans HO.out).cell c1 z0;obtain⟨b0,gV⟩:∃ x,((b.1:Nat):Int)=x:=⟨_,rfl⟩
   obtain⟨b1,hb1'⟩:∃ x,b.2.1=x:=⟨_,rfl⟩
   rw[gV,hb1'] at HSt;rw[gV] at c0;rw[hb1'] at c1;clear hb gV hb1';by_cases oP:k=100
   ·have iC:(k == 100)=true:=by simpa using oP
    clear oP;go_wp2_with fail;refine wp_region_held_drew (S:=fun w'=>cq w' gv 0=some (Iz k)/\cq w' g (i*5+1)=some (Iz b1)/\cq w' g (i*5)=some (Iz b0)/\Out 0 0 wr w') (by kernel_rfl) ?hS61 (fun aB=>?rest61)
    case hS61=>exact⟨u0,c1,c0,(Out.refl 0 0 _).drew⟩
    obtain⟨Z,hZ⟩:∃ Z,wr.drew=Z:=⟨_,rfl⟩
    rw[hZ] at aB ⊢;clear hZ;refine tk 0 ?_;refine tk 1 ?_;refine tk 2 ?_;refine tk 3 ?_;refine sk 4 ?_;refine sk 5 ?_;refine sk 6 ?_;refine sk 7 ?_;refine sk 8 ?_;refine sk 9 ?_;refine sk 10 ?_;refine sk 11 ?_;refine sk 12 ?_;refine tk 13 ?_;refine dn ?_;have HI2:=Q3 (HI.out.kept aB.2.2.2 (Nat.zero_le _));have bJ:=Q3 (HO.out.trans aB.2.2.2);have d0:=aB.2.2.1;have HN3:=Q3 (heap_alloc_new Z (.cells #[Iz b0] 3));have bL:=Q3 (bJ.out.alloc (.cells #[Iz b0] 3));have HI3:=Q3 (HI2.out.kept ((Out.refl 0 0 Z).alloc (.cells #[Iz b0] 3)) (Nat.zero_le _));have jJ:gv+2<=(Z.alloc (.cells #[Iz b0] 3)).heap.size:=by have h1:=bL.out.size;have h2:=HV2.out;omega
    have HBs:=Q3 jJ;have bZ:(vaL (l.take i) k).length<=100000:=by have h1:=q8m (l.take i) k;rw[List.length_take] at h1;have h2:=Hl.out;omega
    have HLen:=Q3 bZ;clear aB jJ bZ u0 c0 c1;go_wp2_with (at_builtin;refine q6c rfl _ _ rfl (gv+2) _ _ rfl HI3.out _ rfl b0 HN3.out HLen.out HBs.out ?_);intro v' w' hr ho;have HR:=Q3 (And.intro hr (bL.out.trans' ho (by have:=HV2.out;omega)));clear hr ho;go_wp2;go_roundw
    case rel=>exact⟨i+1,by go_num,by omega,by have e:=HSt.out;rw[if_pos (by simp[iC])] at e;rw[e];exact HR.out.1,HR.out.2⟩
    case measure=>simp[intOf];omega
   ·have iC:(k == 100)=false:=by simpa using oP
    clear oP;by_cases gV:b1=k-100
    ·have mU:(b1 == k-100)=true:=by simpa using gV
     clear gV;go_wp2_with fail;refine wp_region_held_drew (S:=fun w'=>cq w' gv 0=some (Iz k)/\cq w' g (i*5+1)=some (Iz b1)/\cq w' g (i*5)=some (Iz b0)/\Out 0 0 wr w') (by kernel_rfl) ?hS76 (fun aB=>?rest76)
     case hS76=>exact⟨u0,c1,c0,(Out.refl 0 0 _).drew⟩
     obtain⟨Z,hZ⟩:∃ Z,wr.drew=Z:=⟨_,rfl⟩
     rw[hZ] at aB ⊢;clear hZ;refine tk 0 ?_;refine tk 1 ?_;refine tk 2 ?_;refine tk 3 ?_;refine tk 4 ?_;refine tk 5 ?_;refine tk 6 ?_;refine tk 7 ?_;refine tk 8 ?_;refine tk 9 ?_;refine tk 10 ?_;refine tk 11 ?_;refine tk 12 ?_;refine tk 13 ?_;refine dn ?_;have HI2:=Q3 (HI.out.kept aB.2.2.2 (Nat.zero_le _));have bJ:=Q3 (HO.out.trans aB.2.2.2);have d0:=aB.2.2.1;have HN3:=Q3 (heap_alloc_new Z (.cells #[Iz b0] 3));have bL:=Q3 (bJ.out.alloc (.cells #[Iz b0] 3));have HI3:=Q3 (HI2.out.kept ((Out.refl 0 0 Z).alloc (.cells #[Iz b0] 3)) (Nat.zero_le _));have jJ:gv+2<=(Z.alloc (.cells #[Iz b0] 3)).heap.size:=by have h1:=bL.out.size;have h2:=HV2.out;omega
     have HBs:=Q3 jJ;have bZ:(vaL (l.take i) k).length<=100000:=by have h1:=q8m (l.take i) k;rw[List.length_take] at h1;have h2:=Hl.out;omega
     have HLen:=Q3 bZ;clear aB jJ bZ u0 c0 c1;go_wp2_with (at_builtin;refine q6c rfl _ _ rfl (gv+2) _ _ rfl HI3.out _ rfl b0 HN3.out HLen.out HBs.out ?_);intro v' w' hr ho;have HR:=Q3 (And.intro hr (bL.out.trans' ho (by have:=HV2.out;omega)));clear hr ho;go_wp2;go_roundw
     case rel=>exact⟨i+1,by go_num,by omega,by have e:=HSt.out;rw[if_pos (by simp[iC,mU])] at e;rw[e];exact HR.out.1,HR.out.2⟩
     case measure=>simp[intOf];omega
    ·have mU:(b1 == k-100)=false:=by simpa using gV
     clear gV;go_wp2_with fail;refine wp_region_held_drew (S:=fun w'=>cq w' gv 0=some (Iz k)/\cq w' g (i*5+1)=some (Iz b1)/\cq w' g (i*5)=some (Iz b0)/\Out 0 0 wr w') (by kernel_rfl) ?hS91 (fun aB=>?rest91)
     case hS91=>exact⟨u0,c1,c0,(Out.refl 0 0 _).drew⟩
     obtain⟨Z,hZ⟩:∃ Z,wr.drew=Z:=⟨_,rfl⟩
     rw[hZ] at aB ⊢;clear hZ;refine tk 0 ?_;refine tk 1 ?_;refine tk 2 ?_;refine tk 3 ?_;refine tk 4 ?_;refine tk 5 ?_;refine tk 6 ?_;refine tk 7 ?_;refine tk 8 ?_;refine tk 9 ?_;refine tk 10 ?_;refine tk 11 ?_;refine tk 12 ?_;refine tk 13 ?_;refine dn ?_;have HI2:=Q3 (HI.out.kept aB.2.2.2 (Nat.zero_le _));have bJ:=Q3 (HO.out.trans aB.2.2.2);clear aB u0 c0 c1;go_wp2;go_roundw
     case rel=>exact⟨i+1,by go_num,by omega,by have e:=HSt.out;rw[if_neg (by simp[iC,mU])] at e;rw[e];exact HI2.out,bJ.out⟩
     case measure=>simp[intOf];omega
  ·have j1:¬ (i:Int)<(l.length:Int):=by omega
   have e:l.take i=l:=List.take_of_length_le (by omega);rw[e] at hI;clear e;obtain⟨po2,pc2,rfl,hat⟩:=hI.at;obtain⟨x0,x1,x2,x3⟩:=Q5 (hO.heap HF.out.2.1 z0);have hvl:=q8m l k;obtain⟨q,hq⟩:∃ q,(vaL l k).length=q:=⟨_,rfl⟩
   have HQ:=Q3 hq;have q0:(0:Int)<=(q:Int):=by omega
   have q1:(q:Int)<=100000:=by omega
   rw[hq] at hvl ⊢;have HA:=Q3 hat;have HX:=Q3 (hO.heap HF.out.2.1 z0);have hva:vaV l k m=if q=0 then (2,m) else (2,(vaL l k).getD (m % (q:Int)).toNat 0):=by unfold vaV;rw[if_neg (by omega),HQ.out]
   have HVa:=Q3 hva;clear hat hI hO hvl hva hq;by_cases hq0:q=0
   ·have e1:((q:Int) == 0)=true:=by simp;omega
    have f2:=G5 (x1:=2) (x2:=m) HX.out;have o2:=(HF.out.2.2.trans HO.out).set2 (b:=gv+1) (o:=0) (o':=1) (.inr (by have:=aW.out;omega)) (Iz 2) (Iz m);have HE:=Q3 (And.intro f2 o2);clear f2 o2;go_wp2;exact bodyPost_ret (K5 Tryz.results21 rfl (U1 HE.out.1)) rfl ⟨by rw[HVa.out,if_pos hq0],HE.out.2⟩
   ·have e1:((q:Int) == 0)=false:=by simp;omega
    have qp:(0:Int)<(q:Int):=by omega
    obtain⟨r1,r2,r3,r4⟩:=j6m m (q:Int) qp;have r5:=Int.emod_nonneg m (Int.ne_of_gt qp);have r6:=Int.emod_lt_of_pos m qp;obtain⟨t,ht⟩:∃ t:Nat,m % (q:Int)=(t:Int):=⟨(m % (q:Int)).toNat,by omega⟩
    have tq:t<q:=by omega
    obtain⟨x,hx⟩:∃ x,(vaL l k)[t]? = some x:=⟨_,List.getElem?_eq_getElem (by rw[HQ.out];exact tq)⟩
    obtain⟨g,rfl,_,_,hgc⟩:=HA.out t x hx;have f2:=G5 (x1:=2) (x2:=x) HX.out;have o2:=(HF.out.2.2.trans HO.out).set2 (b:=gv+1) (o:=0) (o':=1) (.inr (by have:=aW.out;omega)) (Iz 2) (Iz x);have hfin:vaV l k m=(2,x):=by rw[HVa.out,if_neg hq0,ht,Int.toNat_natCast,List.getD_eq_getElem?_getD,hx];rfl
    have HE:=Q3 (And.intro f2 (And.intro o2 hfin));have t0:(0:Int)<=(t:Int):=by omega
    have t1:(t:Int)<(q:Int):=by omega
    obtain⟨z,hz⟩:∃ z,m.tmod (q:Int)=z:=⟨_,rfl⟩
    rw[hz] at r1 r2 r3 r4;clear f2 o2 hfin hx;by_cases hneg:z<0
    ·have e2:z+(q:Int)=(t:Int):=by have:=r1 hneg;omega
     have hw1:wrap64 (z+(q:Int))=(t:Int):=by rw[e2];exact G9 _ (by omega) (by omega)
     clear r1 r2 r5 r6 ht;go_wp2;exact bodyPost_ret (K5 Tryz.results21 rfl (U1 HE.out.1)) rfl ⟨by rw[HE.out.2.2],HE.out.2.1⟩
    ·have e2:z=(t:Int):=by have:=r2 hneg;omega
     clear r1 r2 r5 r6 ht;subst e2;go_wp2;exact bodyPost_ret (K5 Tryz.results21 rfl (U1 HE.out.1)) rfl ⟨by rw[HE.out.2.2],HE.out.2.1⟩
def ElAt (w:World) (v:Value) (n k:Nat) (f:Nat->Nat->Int):Prop:=∃ o c,v=.slice o n c/\(0<n->∃ g,o=some ⟨g,0,none⟩/\∀ j i,j<n->i<k->w.cell? ⟨g,j*k+i,none⟩=some (.int .i64 (f j i)))
theorem ElAt.quiet {w w':World} {v:Value} {n k:Nat} {f:Nat->Nat->Int} (h:ElAt w v n k f) (o:Out 0 0 w w'):ElAt w' v n k f:=by
 obtain⟨a,c,e,h⟩:=h;refine⟨a,c,e,fun hn=>?_⟩;obtain⟨g,hg,hc⟩:=h hn;exact⟨g,hg,fun j i hj hi=>o.cell (hc j i hj hi) z0⟩
theorem x6a {w:World} {base k n:Nat} {T:TypeId} {v:Value} {xs:List Value} {f:Nat->Nat->Int} (h:w.ownsRow base T k v n xs) (hx:∀ j i,j<n->i<k->xs[j*k+i]? = some (.int .i64 (f j i))):ElAt w v n k f:=by
 obtain⟨h1,h2⟩:=h;rcases h2 with ⟨rfl,rfl⟩ | ⟨g,cap,dI,rfl,h3,h4,h5,h6,h7,h8⟩
 ·exact⟨_,_,rfl,fun h=>by omega⟩
 ·refine⟨_,_,rfl,fun _=>⟨g,rfl,fun j i hj hi=>?_⟩⟩;have hu:=hx j i hj hi;rw[<-h8] at hu;have dD:j*k+i<n*k:=by
   have:j*k+k<=n*k:=by rw[<-Nat.succ_mul];exact Nat.mul_le_mul_right k hj
   omega
  have:dI[j*k+i]? = some (.int .i64 (f j i)):=by simpa [List.getElem?_take,dD] using hu
  simp[World.cell?,h4,this]
theorem q4x {w:World} {n:Nat} {v1 v2:Value} {f:Nat->Nat->Int} (h1:ElAt w v1 n 1 f) (h2:ElAt w v2 n 1 f) (hn:(n:Int)<=100000):Kz 32 #[v1,v2] w fun e w'=>e=.returned (.bool true)/\Out 0 0 w w':=by
 obtain⟨o1,c1,rfl,h1⟩:=h1;obtain⟨o2,c2,rfl,h2⟩:=h2;have H1:=Q3 h1;have H2:=Q3 h2;have n0:(0:Int)<=(n:Int):=by omega
 have nn:((n:Int) != (n:Int))=false:=by simp
 obtain⟨nb,hnb⟩:∃ q:Int,(n:Int)<=q/\q<=4611686018427387904:=⟨n,by omega,by omega⟩
 clear h1 h2 hn;go_enter Tryz.func32,Tryz.ntmps32
 go_wp2_with fail;go_loopw [5] (fun u wr=>∃ j:Nat,u=Iz (j:Int)/\j<=n/\Out 0 0 w wr) (fun u _=>n-(intOf u).toNat)
 case atStart=>exact⟨0,rfl,Nat.zero_le _,Out.refl _ _ _⟩
 case round=>
  obtain⟨j,rfl,j1,ro⟩:=hrel;have j0:(0:Int)<=(j:Int):=by omega
  have j4:(j:Int)<=(n:Int):=by omega
  by_cases hj:j<n
  ·have j2:(j:Int)<(n:Int):=by omega
   obtain⟨g1,hg1,hc1⟩:=H1.out (by omega);obtain⟨g2,nL,hc2⟩:=H2.out (by omega);subst hg1 nL;have p0:=ro.cell (hc1 j 0 hj (by omega)) Oz;rw[show j*1+0=j from by omega] at p0;have q0:=ro.cell (hc2 j 0 hj (by omega)) Oz;rw[show j*1+0=j from by omega] at q0;generalize f j 0=x0 at p0 q0
   have z0:(x0 == x0)=true:=by simp
   have y0:(x0 != x0)=false:=by simp
   have HO:=Q3 ro;clear ro hc1 hc2;go_wp2_with fail;refine wp_region_held_drew (S:=fun w'=>cq w' g1 j=some (Iz x0)/\cq w' g2 j=some (Iz x0)) (by kernel_rfl) ?hS11 (fun aB=>?rest11)
   case hS11=>exact⟨p0,q0⟩
   refine tk 0 ?_;refine tk 1 ?_;refine tk 2 ?_;refine tk 3 ?_;refine tk 4 ?_;refine tk 5 ?_;refine tk 6 ?_;refine tk 7 ?_;refine tk 8 ?_;refine dn ?_;clear aB;go_wp2;go_roundw
   case rel=>exact⟨j+1,by go_num,by omega,HO.out.drew⟩
   case measure=>simp[intOf];omega
  ·have e:n=j:=by omega
   subst e;have e2:decide ((n:Int)<(n:Int))=false:=by simp
   go_wp2;go_ret;exact⟨rfl,ro⟩
theorem x2a {n:Nat} {st:Sp} (hi:Inv n st) (k z t:Int):Inv n (alF n st k z t).2.2.2:=by
 unfold alF;cases hf:B7 k z with
 | false=>exact hi
 | true=>
  rw[if_pos rfl];have hz:=U3 hf;cases hp:z0n n st z with
  | none=>exact hi
  | some af=>
   obtain⟨a,aR⟩:=af
   show Inv n (if z<=32/\aR=false/\st.W a ≠ z0e (nf n st (ofV z) (a+1)) then (0,21,(a:Int),st) else ((a:Int),0,0,F9 n st a aR k z t)).2.2.2
   by_cases c:z<=32/\aR=false/\st.W a ≠ z0e (nf n st (ofV z) (a+1))
   ·rw[if_pos c];exact hi
   ·rw[if_neg c]
    show Inv n (F9 n st a aR k z t)
    clear c;unfold z0n at hp;by_cases h32:32<z
    ·rw[if_pos h32] at hp;obtain⟨p,hr,e⟩:=Option.map_eq_some_iff.1 hp;simp only[Prod.mk.injEq] at e;obtain⟨rfl,rfl⟩:=e;exact(q2y (t:=t) hi hf h32 hr).1
    ·rw[if_neg h32] at hp;rcases U4 (fr n st (ofV z)) (64*n) 0 with ⟨e1,e2⟩ | ⟨i,e1,e2,e3,e4,e5⟩
     ·have e1':nf n st (ofV z) 0 = -1:=e1;rw[e1',if_neg (by omega)] at hp;obtain⟨p,hr,e⟩:=Option.map_eq_some_iff.1 hp;simp only[Prod.mk.injEq] at e;obtain⟨rfl,rfl⟩:=e;exact(z6z (t:=t) hi hf (by omega) hr).1
     ·have e1':nf n st (ofV z) 0=(i:Int):=e1;rw[e1',if_pos (by omega)] at hp;simp only[Int.toNat_natCast,Option.some.injEq,Prod.mk.injEq] at hp;obtain⟨rfl,rfl⟩:=hp;exact(z6y (t:=t) hi hf (by omega) e4).1
theorem z8i {n:Nat} {st:Sp} (k z t:Int):(alF n st k z t).2.2.2.last<=st.last+1:=by
 have h:z0s st k<=st.last+1:=by unfold z0s;split <;> omega
 unfold alF;split
 ·split
  ·show st.last<=_;omega
  ·split
   ·show st.last<=_;omega
   ·exact h
 ·show st.last<=_;omega
theorem j5j (n:Nat) (st:Sp):∀ c,(q0q n st c).last=st.last
 | 0=>rfl
 | c+1=>by show (q0q n st c).last=_;exact j5j n st c
theorem j5c (n:Nat) (st:Sp) (l:List Int):(z0m n st l).last=st.last:=j5j n _ 8
def WI (n:Nat) (W:Nat->Int):Prop:=∀ a,a<64*n->-9223372036854775808<=W a/\W a<=9223372036854775807
def I64 (x:Int):Prop:=-9223372036854775808<=x/\x<=9223372036854775807
theorem q9h (n:Int):I64 (z0e n):=by
 unfold I64 z0e;split
 ·rename_i h
  unfold q7j at h;have:=of_decide_eq_true h;omega
 ·omega
theorem j9i (a k n:Int):I64 (B6 a k n):=by
 unfold I64 B6;split
 ·rename_i h
  unfold z9y at h;have h1:=of_decide_eq_true h;unfold z2e;generalize xV a k n*10872568911861=y
  omega
 ·omega
theorem j4w (r:Int):I64 (z1r r):=by unfold I64 z1r;split <;> omega
theorem q9i (x:Int):I64 (wrap64 x):=by unfold I64 wrap64;omega
section
variable {n:Nat} {W:Nat->Int}
theorem WI.upd (h:WI n W) {x:Int} (hx:I64 x) (a:Nat):WI n (z2p W a x):=fun i hi=>by
 unfold z2p;split
 ·exact hx
 ·exact h i hi
theorem WI.poke (h:WI n W) {x:Int} (hx:I64 x) (a:Int):WI n (F3 n W a x):=by
 unfold F3;split
 ·exact h.upd hx _
 ·exact h
theorem WI.zero (h:WI n W) (a k:Nat):WI n (z0b W a k):=fun i hi=>by
 unfold z0b;split
 ·omega
 ·exact h i hi
theorem WI.take {st:Sp} (h:WI n st.W) (a:Nat) (aR:Bool) (k s t:Int):WI n (F9 n st a aR k s t).W:=by
 show WI n (z2p (z0b (if aR then q1z n ⟨z0b st.W a 64,z0f st a aR s,H8 st.O a (k,s,Y0 st k,t),0⟩ (ofV s) else st.W) a (Y8 s)) a (B6 a k s))
 refine(WI.zero ?_ _ _).upd (j9i _ _ _) _;split
 ·intro i hi;unfold q1z;split
  ·exact q9h _
  ·exact h.zero _ _ i hi
 ·exact h
theorem WI.al {st:Sp} (h:WI n st.W) (k s t:Int):WI n (alF n st k s t).2.2.2.W:=by
 unfold alF;split
 ·split
  ·exact h
  ·split
   ·exact h
   ·exact h.take _ _ _ _ _
 ·exact h
theorem WI.ln {st:Sp} (h:WI n st.W):∀ c,WI n (q0q n st c).W
 | 0=>h
 | c+1=>fun i hi=>by
  show -9223372036854775808<=z5p n (Q6 n (q0q n st c)) c i/\z5p n (Q6 n (q0q n st c)) c i<=9223372036854775807
  unfold z5p;split
  ·exact q9h _
  ·exact WI.ln h c i hi
theorem j4d {r:Raw} {kp:Nat->Bool}:∀ p,(V5 n r kp p).W=r.W
 | 0=>rfl
 | p+1=>by
  have ih:=j4d (r:=r) (kp:=kp) p;unfold V5;split
  ·split
   ·exact ih
   ·exact ih
  ·exact ih
theorem WI.keep {st:Sp} (h:WI n st.W) (l:List Int):WI n (z0m n st l).W:=by
 refine WI.ln ?_ 8;intro i hi
 show -9223372036854775808<=wpW (V5 n (Q6 n st) (kpS l) (64*n)) (64*n) i/\wpW (V5 n (Q6 n st) (kpS l) (64*n)) (64*n) i<=9223372036854775807
 unfold wpW;split
 ·omega
 ·rw[j4d];exact h i hi
theorem WI.mk (a k z:Int):∀ (l:List Nat) {W:Nat->Int},WI n W->WI n (mkF n a k z W l)
 | [],_,h=>h
 | x :: l,_,h=>WI.mk a k z l (h.poke (j4w _) _)
theorem WI.mt (a:Int) {bs:List Int} (hb:(bs.length:Int)<=9223372036854775807) (h:WI n W):∀ j,WI n (mtC n a W bs j)
 | 0=>h.poke ⟨by omega,hb⟩ _
 | j+1=>(WI.mt a hb h j).poke (q9i _) _
theorem WI.wr {st:Sp} (h:WI n st.W) (a i:Int) {v:Int} (hv:I64 v):WI n (wrW (Q6 n st) a i v):=by
 unfold wrW;split
 ·exact WI.upd (W:=st.W) h hv _
 ·exact h
theorem WI.new:WI n newSp.W:=fun i hi=>by
 show -9223372036854775808<=(0:Int)/\(0:Int)<=9223372036854775807
 omega
theorem WI.se {st:Sp} (h:WI n st.W) (k m i xk xn:Int):WI n (seQ n st k m i xk xn).2.2.W/\(seQ n st k m i xk xn).2.2.last=st.last:=by
 unfold seQ;split
 ·exact⟨h,rfl⟩
 ·split
  ·exact⟨h,rfl⟩
  ·split
   ·exact⟨h,rfl⟩
   ·split
    ·exact⟨h,rfl⟩
    ·rename_i hv
     split
     ·exact⟨h,rfl⟩
     ·refine⟨WI.poke (W:=st.W) h ?_ _,rfl⟩;have nG:Q8 xk xn=true:=by simpa using hv
      unfold Q8 at nG;have:=of_decide_eq_true nG;unfold I64;omega
theorem WI.sr {st:Sp} (h:WI n st.W) (k m i:Int) {x:Int} (hx:I64 x):WI n (srQ n st k m i x).2.2.W/\(srQ n st k m i x).2.2.last=st.last:=by
 unfold srQ;split
 ·exact⟨h,rfl⟩
 ·split
  ·exact⟨h,rfl⟩
  ·split
   ·exact⟨WI.poke (W:=st.W) h hx _,rfl⟩
   ·exact⟨h,rfl⟩
theorem WI.ma {st:Sp} (h:WI n st.W) (k nn t:Int):WI n (maQ n st k nn t).2.2.W/\(maQ n st k nn t).2.2.last<=st.last+1:=by
 unfold maQ;split
 ·exact⟨h,by show st.last<=_;omega⟩
 ·split
  ·exact⟨WI.mk _ _ _ _ (h.al _ _ _),z8i _ _ _⟩
  ·exact⟨h.al _ _ _,z8i _ _ _⟩
theorem WI.mq {st:Sp} (h:WI n st.W) {bs:List Int} (hb:(bs.length:Int)<=9223372036854775807):WI n (mtQ n st bs).2.2.W/\(mtQ n st bs).2.2.last<=st.last+1:=by
 unfold mtQ;split
 ·exact⟨h,by show st.last<=_;omega⟩
 ·split
  ·exact⟨WI.mt _ hb (h.al _ _ _) _,z8i _ _ _⟩
  ·exact⟨h.al _ _ _,z8i _ _ _⟩
end
structure Q9 where
 B:Nat
 hb:Nat
 rb:Nat
 bk:Nat
 lo:Nat
 hi:Nat
 lo2:Nat
 hi2:Nat
 n:Nat
 cap:Nat
 cw:Nat
 co:Nat
 s:Nat->Nat
 s2:Nat->Nat
structure PB (w:World) (q:Q9) (st:Sp) (c:Nat):Prop where
 be:Be9 w q.B q.hb q.rb q.bk q.lo q.hi q.lo2 q.hi2 q.s q.s2 q.n q.cap q.cw q.co st
 wi:WI q.n st.W
 last:st.last<=(c:Int)
section
variable {w w' w'':World} {q q':Q9} {st st' eU:Sp} {c c':Nat}
theorem PB.inv (h:PB w q st c):Inv q.n st:=h.be.p.2
theorem PB.tops (h:PB w q st c):q.hi<=q.hb/\q.hb<q.lo2/\q.hi2<=q.rb/\q.rb<q.bk/\q.bk<q.B/\q.B<w.heap.size/\4<=q.lo/\q.lo<=q.hi/\q.lo2<=q.hi2:=by
 refine⟨h.be.o1,h.be.o2,h.be.o3,h.be.o4,h.be.o5,Q7 h.be.box,h.be.p.1.glob,?_,?_⟩
 ·have:=h.be.p.1.inn 0 (by omega);omega
 ·have:=h.be.r.inn 0 (by omega);omega
theorem PB.kept {x y:Nat} (h:PB w q st c) (o:Out x y w w') (hd:q.B<x\/y<=q.lo) (hg:4<=x\/y=0):PB w' q st c:=by
 have ht:=h.tops;exact⟨⟨o.heap h.be.box (by omega),h.be.p.kept o (by omega) hg,o.cell h.be.pc (by omega),h.be.r.kept o (by omega),o.cell h.be.rc (by omega),h.be.o1,h.be.o2,h.be.o3,h.be.o4,h.be.o5⟩,h.wi,h.last⟩
theorem PB.quiet (h:PB w q st c) (o:Out 0 0 w w'):PB w' q st c:=h.kept o z0 (.inr rfl)
theorem PB.mono (h:PB w q st c) (hc:c<=c'):PB w q st c':=⟨h.be,h.wi,by have:=h.last;omega⟩
theorem PB.cells (h:PB w q st c):w.cell? ⟨q.B,0,none⟩=some (.pointer (some ⟨q.hb,0,none⟩))/\w.cell? ⟨q.B,1,none⟩=some (.pointer (some ⟨q.rb,0,none⟩))/\w.cell? ⟨q.B,2,none⟩=some (.pointer (some ⟨q.bk,0,none⟩)):=by
 have hb:=h.be.box;refine⟨?_,?_,?_⟩ <;> simp[World.cell?,hb]
structure P2 (B0:Nat) (w:World) (q1 q2:Q9) (eU eT:Sp) (c:Nat):Prop where
 p1:PB w q1 eU c
 p2:PB w q2 eT c
 k1:w.heap[q1.bk]? = some bk0
 k2:w.heap[q2.bk]? = some bk0
 ap:q1.B<q2.lo\/q2.B<q1.lo
 b1:B0<=q1.lo
 b2:B0<=q2.lo
theorem P2.swap {B0:Nat} {eT:Sp} {q1 q2:Q9} (h:P2 B0 w q1 q2 eU eT c):P2 B0 w q2 q1 eT eU c:=⟨h.p2,h.p1,h.k2,h.k1,h.ap.symm,h.b2,h.b1⟩
theorem P2.step {B0:Nat} {eT:Sp} {q1 q2:Q9} (h:P2 B0 w q1 q2 eU eT c) (p:PB w' q1 st' c') (o:Out q1.lo q1.bk w w') (hc:c<=c'):P2 B0 w' q1 q2 st' eT c':=by
 have t1:=h.p1.tops;have t2:=h.p2.tops;have ap:=h.ap;exact⟨p,(h.p2.kept o (by omega) (by omega)).mono hc,o.heap h.k1 (by omega),o.heap h.k2 (by omega),h.ap,h.b1,h.b2⟩
theorem P2.quiet {B0:Nat} {eT:Sp} {q1 q2:Q9} (h:P2 B0 w q1 q2 eU eT c) (o:Out 0 0 w w'):P2 B0 w' q1 q2 eU eT c:=
 ⟨h.p1.quiet o,h.p2.quiet o,o.heap h.k1 z0,o.heap h.k2 z0,h.ap,h.b1,h.b2⟩
end
theorem x2x {K:Go.Act->World->Prop} {F:Nat->Nat->World->Prop} {act:Nat->Nat->Go.Act} {G:Prop} (h1:(∀ g h V,F g h V->K (act g h) V)->G) (h2:∀ g h V,F g h V->K (act g h) V):G:=h1 h2
theorem q6j {P:Program} {md:Region.Mode} {ops:Array Oper} {Q:Exit->Go.Act->World->Prop} {S:World->Prop} {fuel:Nat} {l:Array Bool} {F:Nat->Nat->World->Prop} {act:Nat->Nat->Go.Act} {G:Prop} (h1:(∀ g h V,F g h V->wpAnyH P md ops Q S fuel l (act g h) V)->G) (h2:∀ g h V,F g h V->wpAnyH P md ops Q S fuel l (act g h) V):G:=h1 h2
def Od (q:Q9) (b:Nat):Prop:=q.hi<=q.hb/\q.hb<q.lo2/\q.hi2<=q.rb/\q.rb<q.bk/\q.bk<q.B/\q.B<b/\4<=q.lo/\q.lo<=q.hi/\q.lo2<=q.hi2
structure Mx (q:Q9) (w:World) (lim:Nat) (eU eT:Sp) (V:World):Prop where
 sp:SpAt V q.lo q.hi q.s q.n q.cap eU
 rf:RfAt V q.lo2 q.hi2 q.s2 q.n q.cw q.co eT
 o:Out q.lo q.bk w V
 lim:lim<=V.heap.size
section
variable {w V V':World} {q:Q9} {st eU eT st':Sp} {c lim lim' b:Nat}
theorem PB.od (h:PB w q st c):Od q w.heap.size:=h.tops
theorem PB.md (h:PB w q st c) (o:Out 0 0 w V):Mx q w V.heap.size st st V:=⟨h.be.p.quiet o,h.be.r.quiet o,o.any _ _,Nat.le_refl _⟩
theorem Mx.at (h:Mx q w lim eU eT V):Mx q w V.heap.size eU eT V:=⟨h.sp,h.rf,h.o,Nat.le_refl _⟩
theorem Mx.quiet (h:Mx q w lim eU eT V) (o:Out 0 0 V V'):Mx q w lim eU eT V':=⟨h.sp.quiet o,h.rf.quiet o,h.o.trans (o.any _ _),Nat.le_trans h.lim o.size⟩
theorem Mx.far (h:Mx q w lim eU eT V) {g g':Nat} (o:Out g g' V V') (hd:Od q w.heap.size) (hg:w.heap.size<=g):Mx q w lim eU eT V':=by
 unfold Od at hd;exact⟨h.sp.kept o (by omega) (by omega),h.rf.kept o (by omega),h.o.past o hg,Nat.le_trans h.lim o.size⟩
theorem Mx.p (h:Mx q w lim eU eT V) (hd:Od q w.heap.size) (p:SpAt V' q.lo q.hi q.s q.n q.cap st') (o:Out q.lo q.hi V V'):Mx q w lim st' eT V':=by
 unfold Od at hd;exact⟨p,h.rf.kept o (by omega),h.o.trans (o.wide (by omega) (by omega)),Nat.le_trans h.lim o.size⟩
theorem Mx.r (h:Mx q w lim eU eT V) (hd:Od q w.heap.size) (p:RfAt V' q.lo2 q.hi2 q.s2 q.n q.cw q.co st') (o:Out q.lo2 q.hi2 V V'):Mx q w lim eU st' V':=by
 unfold Od at hd;exact⟨h.sp.kept o (by omega) (by omega),p,h.o.trans (o.wide (by omega) (by omega)),Nat.le_trans h.lim o.size⟩
def E9 (q:Q9) (st:Sp) (w w':World):Prop:=∃ st',SpAt w' q.lo q.hi q.s q.n q.cap st'/\RfAt w' q.lo2 q.hi2 q.s2 q.n q.cw q.co st'/\WI q.n st'.W/\st'.last<=st.last+1/\Out q.lo q.bk w w'/\w'.cell? ⟨q.hb,0,none⟩=some (.pointer (some ⟨q.s 14,0,none⟩))/\w'.cell? ⟨q.rb,0,none⟩=some (.pointer (some ⟨q.s2 0,0,none⟩))
theorem PB.next (h:PB w q st c) (e:E9 q st w V):∃ st',PB V q st' (c+1):=by
 obtain⟨st',e1,e2,e3,e4,e5,e6,e7⟩:=e;have ht:=h.tops;have hl:=h.last;exact⟨st',⟨e5.heap h.be.box (by omega),e1,e6,e2,e7,h.be.o1,h.be.o2,h.be.o3,h.be.o4,h.be.o5⟩,e3,by omega⟩
theorem E9.quiet (e:E9 q st w V) (o:Out 0 0 V V'):E9 q st w V':=by
 obtain⟨st',e1,e2,e3,e4,e5,e6,e7⟩:=e;exact⟨st',e1.quiet o,e2.quiet o,e3,e4,e5.trans (o.any _ _),o.cell e6 z0,o.cell e7 z0⟩
theorem E9.of_out (h:PB w q st c) (o:Out 0 0 w V):E9 q st w V:=
 ⟨st,h.be.p.quiet o,h.be.r.quiet o,h.wi,by omega,o.any _ _,o.cell h.be.pc z0,o.cell h.be.rc z0⟩
theorem Mx.e9 (h:Mx q w lim eU eU V) (hw:WI q.n eU.W) (hl:eU.last<=st.last+1) (h1:V.cell? ⟨q.hb,0,none⟩=some (.pointer (some ⟨q.s 14,0,none⟩))) (h2:V.cell? ⟨q.rb,0,none⟩=some (.pointer (some ⟨q.s2 0,0,none⟩))):E9 q st w V:=⟨eU,h.sp,h.rf,hw,hl,h.o,h1,h2⟩
end
theorem q1m (w:World) (o1 o2 o3:Obj):∃ V b,((w.alloc o1).alloc o2).alloc o3=V/\w.heap.size=b/\V.heap[b]? = some o1/\V.heap[b+1]? = some o2/\V.heap[b+2]? = some o3/\Out 0 0 w V/\V.heap.size=b+3:=
 ⟨_,_,rfl,rfl,J8,J7,J9,(((Out.refl 0 0 w).alloc _).alloc _).alloc _,by first | (show (((w.heap.push _).push _).push _).size=_;rw[Array.size_push,Array.size_push,Array.size_push]) | simp⟩
theorem box1a (w:World) (o1:Obj):∃ V b,w.alloc o1=V/\w.heap.size=b/\V.heap[b]? = some o1/\Out 0 0 w V/\V.heap.size=b+1:=
 ⟨_,_,rfl,rfl,heap_alloc_new _ _,(Out.refl 0 0 w).alloc _,by first | (show (w.heap.push _).size=_;rw[Array.size_push]) | simp⟩
theorem j2o {w:World} {g:Nat} {x0 x1 x2 x3 x4 x5 x6 x7 x8 x9:Value} {T:TypeId} (h:w.heap[g]? = some (.cells #[x0,x1,x2,x3,x4,x5,x6,x7,x8,x9] T (0,0))) :
  w.cell? ⟨g,0,none⟩=some x0/\w.cell? ⟨g,1,none⟩=some x1/\w.cell? ⟨g,2,none⟩=some x2/\w.cell? ⟨g,3,none⟩=some x3/\w.cell? ⟨g,4,none⟩=some x4/\w.cell? ⟨g,5,none⟩=some x5/\w.cell? ⟨g,6,none⟩=some x6/\w.cell? ⟨g,7,none⟩=some x7/\w.cell? ⟨g,8,none⟩=some x8/\w.cell? ⟨g,9,none⟩=some x9:=by
 refine⟨?_,?_,?_,?_,?_,?_,?_,?_,?_,?_⟩ <;> simp[World.cell?,h]
theorem z0d {b:Bool} (h:b=true):Ending.returned (.bool b)=.returned (.bool true):=by rw[h]
theorem eqb (a b c d e:Int) (W:World):(binOp .eql 81 (.agg #[.int .i64 a,.int .i64 b,.int .i64 c,.int .i64 d,.int .i64 e]) (.agg #[.int .i64 a,.int .i64 b,.int .i64 c,.int .i64 d,.int .i64 e])).run Tryz.prog W=.ok (.bool true) W:=by
 go_simp
theorem eqv1 (a b:Int) (W:World):(binOp .eql 32 (.agg #[.int .i64 a,.int .i64 b]) (.agg #[.int .i64 a,.int .i64 b])).run Tryz.prog W=.ok (.bool true) W:=by
 rw[eqv];simp
end Go.Proofs.YtjgnogflgoihfaaGreatDoor
