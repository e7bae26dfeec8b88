import Derived.Test.YtjbbkeoolodeaabGreatDoorB01
import Derived.Lib.SliceRun
import Derived.Deep.AppendLies
import Derived.OwnWalk
import Derived.ArgAppend
import Derived.Deep.DeepAppendRoom
namespace Go.Proofs.YtjbbkeoolodeaabGreatDoor
open Go.RowKit
set_option linter.unusedVariables false
set_option maxRecDepth 100000
set_option maxHeartbeats 16000000
set_option linter.unusedSimpArgs false
def pgs (l:List (Int × Int × Int)):List Value:=l.flatMap fun p=>[.int .i64 p.1,.int .i64 p.2.1,.int .i64 p.2.2]
theorem q7g (p:Int × Int × Int) (l:List (Int × Int × Int)):pgs (p :: l)=.int .i64 p.1 :: .int .i64 p.2.1 :: .int .i64 p.2.2 :: pgs l:=rfl
theorem z4x (l:List (Int × Int × Int)):(pgs l).length=l.length*3:=by
 induction l with
 | nil=>rfl
 | cons p l ih=>rw[q7g];simp[ih];omega
theorem x2a {l:List (Int × Int × Int)}:∀ {i:Nat} {p:Int × Int × Int},l[i]? = some p->(pgs l)[i*3]? = some (.int .i64 p.1)/\(pgs l)[i*3+1]? = some (.int .i64 p.2.1)/\(pgs l)[i*3+2]? = some (.int .i64 p.2.2):=by
 induction l with
 | nil=>intro i p h;simp at h
 | cons q l ih=>
  intro i p h;rw[q7g];cases i with
  | zero=>simp at h;subst h;exact⟨rfl,rfl,rfl⟩
  | succ i=>
   have:=ih (i:=i) (p:=p) (by simpa using h);rw[show (i+1)*3=i*3+3 from by omega];simpa using this
theorem q4v (l:List (Int × Int × Int)):∀ u ∈ pgs l,u.oneCell'=true:=by
 intro u hu;unfold pgs at hu;rw[List.mem_flatMap] at hu;obtain⟨p,_,hu⟩:=hu;simp at hu;rcases hu with rfl | rfl | rfl <;> rfl
def pgl (S:Nat->Int × Int × Int) (n:Nat):List (Int × Int × Int):=(List.range n).map S
theorem z1b (S:Nat->Int × Int × Int) (n:Nat):(pgl S n).length=n:=by unfold pgl;simp
theorem x0r (S:Nat->Int × Int × Int) {n i:Nat} (h:i<n):(pgl S n)[i]? = some (S i):=by unfold pgl;simp[h]
theorem z3z (S:Nat->Int × Int × Int) (n:Nat) {j:Nat} (h:j<n*3):(pgs (pgl S n))[j]? = some (q2b S j):=by
 obtain⟨a,b,c⟩:=x2a (x0r S (n:=n) (i:=j / 3) (by omega));unfold q2b;have hm:j % 3=0\/j % 3=1\/j % 3=2:=by omega
 rcases hm with hm | hm | hm
 ·rw[show j / 3*3=j from by omega] at a;rw[a,hm];rfl
 ·rw[show j / 3*3+1=j from by omega] at b;rw[b,hm];rfl
 ·rw[show j / 3*3+2=j from by omega] at c;rw[c,hm];rfl
def ListIs (w:World) (base:Nat) (v:Value) (l:List (Int × Int × Int)):Prop:=w.ownsRow base 147 3 v l.length (pgs l)
theorem X8 {w w':World} {v:Value} {base k lo hi s:Nat} {xs:List Value} {T:TypeId} (h:w.ownsRow base T s v k xs) (o:Out lo hi w w') (hd:hi<=base):w'.ownsRow base T s v k xs:=by
 obtain⟨hlen,hcase⟩:=h;refine⟨hlen,?_⟩;rcases hcase with ⟨hv,h0⟩ | ⟨g,cap',cur,rfl,hg1,hg2,hg3⟩
 ·exact .inl ⟨hv,h0⟩
 ·exact .inr ⟨g,cap',cur,rfl,hg1,o.heap hg2 (.inr (by omega)),hg3⟩
theorem z3d {w:World} {a b n s:Nat} {T:TypeId} {v:Value} {xs:List Value} (h:w.ownsRow a T s v n xs) (hab:b<=a):w.ownsRow b T s v n xs:=by
 obtain⟨h1,h2⟩:=h;refine⟨h1,?_⟩;rcases h2 with h2 | ⟨g,cap,cur,e,hg,r⟩
 ·exact .inl h2
 ·exact .inr ⟨g,cap,cur,e,Nat.le_trans hab hg,r⟩
theorem q1o {w:World} {B n s:Nat} {T:TypeId} {v:Value} {xs:List Value} (h:w.ownsRow B T s v n xs) {x:Nat} (hx:v.ownBlock=some x):x<w.heap.size:=(h.lt x hx).2
theorem Q8 {w:World} {B n s:Nat} {T:TypeId} {v:Value} {xs:List Value} (h:w.ownsRow B T s v n xs):∃ a cap,v=.slice a n cap:=by
 rcases h.2 with ⟨e,h0⟩ | ⟨g,cap,cur,e,_⟩
 ·exact⟨none,0,by rw[e,h0]⟩
 ·exact⟨_,_,e⟩
theorem q1n {w:World} {B n g cap s:Nat} {T:TypeId} {xs:List Value} (h:w.ownsRow B T s (.slice (some ⟨g,0,none⟩) n cap) n xs):∀ j u,xs[j]? = some u->w.cell? ((⟨g,0,none⟩:Addr).add j)=some u:=h.cells (g:=g) rfl
theorem z4s {w:World} {B n g cap s:Nat} {T:TypeId} {xs:List Value} (h:w.ownsRow B T s (.slice (some ⟨g,0,none⟩) n cap) n xs) {j:Nat} {u:Value} (hu:xs[j]? = some u):w.cell? ⟨g,j,none⟩=some u:=by
 have:=q1n h j u hu;rw[Addr.add_lit,Nat.zero_add] at this;exact this
theorem ListIs.row {w:World} {B g n cap:Nat} {S:Nat->Int × Int × Int} (h:ListIs w B (.slice (some ⟨g,0,none⟩) n cap) (pgl S n)):PRow w g n S/\B<=g/\n<=cap:=by
 unfold ListIs at h;rw[z1b] at h;rcases h.2 with ⟨e,h0⟩ | ⟨g',cap',cur,e,h1,h2,h3,h4,h5,h6⟩
 ·cases e
 ·cases e;refine⟨⟨cur,h2,by omega,fun i hi=>?_⟩,h1,h3⟩;have e:(cur.toList.take (n*3))[i]? = (pgs (pgl S n))[i]? :=by rw[h6]
  rw[z3z S n hi] at e;simp[hi] at e;simpa using e
theorem q9b {w:World} {bw n cap:Nat} {S:Nat->Int × Int × Int} (hr:PRow w bw n S) (h1:1<=n) (hk:n<=4096) :
  Calls Tryz.prog 131 #[.slice (some ⟨bw,0,none⟩) n cap] w fun e w'=>∃ g cap',e=.returned (.slice (some ⟨g,0,none⟩) n cap')/\ListIs w' w.heap.size (.slice (some ⟨g,0,none⟩) n cap') (pgl S n)/\Out 0 0 w w':=by
 obtain⟨i0,hi,hz0,hz1,hz2⟩:=Q3 z4h;have heq:=fun w=>Lib.run_eql_slice_nil (P:=Tryz.prog) w 78 147 (some ⟨bw,0,none⟩) n cap 0 0 Tryz.underlying78
 simp at heq;have hown:(w.alloc (.cells #[] 147)).ownsRow w.heap.size 147 3 (.slice (some ⟨w.heap.size,0,none⟩) 0 0) 0 []:=
  ⟨rfl,.inr ⟨w.heap.size,0,#[],rfl,Nat.le_refl _,heap_alloc_new _ _,Nat.le_refl _,Nat.zero_le _,rfl,rfl⟩⟩
 have hnews:∀ j u,(pgs (pgl S n))[j]? = some u->(w.alloc (.cells #[] 147)).cell? ((⟨bw,0,none⟩:Addr).add j)=some u:=by
  intro j u hj;have hjk:j<n*3:=by
   have:=(List.getElem?_eq_some_iff.1 hj).1;rw[z4x,z1b] at this;exact this
  rw[z3z S n hjk] at hj;cases hj;have:=(PRow.kept hr ((Out.refl 0 0 w).alloc (.cells #[] 147)) z0).cell hjk;rw[Addr.add_lit,Nat.zero_add];exact this
 have HOW:=Z0 hown;have HNE:=Z0 hnews;have HK:Hid (1<=n/\n<=4096):=⟨h1,hk⟩
 clear hown hnews hr h1 hk;go_enter Tryz.func131,Tryz.ntmps131
 go_wp2_with (at_builtin;refine wpList_append_own _ rfl _ _ 78 rfl w.heap.size 147 i0 (.agg #[.int .i64 0,.int .i64 0,.int .i64 0]) 3 24 Tryz.underlying78 hi hz0 hz1 hz2 rfl (by decide) (.slice (some ⟨w.heap.size,0,none⟩) 0 0) 0 [] rfl HOW.out ⟨bw,0,none⟩ n cap (pgs (pgl S n)) rfl (by rw[z4x,z1b]) HNE.out (q4v _) (by unfold maxLen;have:=HK.out;omega) (by have:=HK.out;omega) (by simp) ?_;intro v' w1 hown' hgrow hnil);rw[Nat.zero_add,List.nil_append] at hown';obtain⟨g,cap',rfl,hg,_⟩:=hown'.form (by have:=HK.out;omega);have hO:Out 0 0 w w1:=by
  have h0:Out 0 0 w (w.alloc (.cells #[] 147)):=(Out.refl _ _ _).alloc _;exact⟨hgrow.os.trans h0.1,hgrow.tape.trans h0.2.1,hgrow.output.trans h0.2.2.1,Nat.le_trans h0.size hgrow.size,fun j h1 h2=>(hgrow.block j (Nat.lt_of_lt_of_le h1 h0.size) (by simp[Value.ownBlock];omega)).trans (h0.block h1 h2)⟩
 have HL:Hid (ListIs w1 w.heap.size (.slice (some ⟨g,0,none⟩) n cap') (pgl S n)):=by
  show World.ownsRow _ _ _ _ _ _ _
  rw[z1b];exact hown'
 have HO:=Z0 hO;clear hown' hgrow hnil hO hg;go_wp2;go_ret;exact⟨g,cap',by simp,HL.out,HO.out⟩
theorem q4o {w:World} {b bw n:Nat} {S:Nat->Int × Int × Int} (h:TblAt 132 w b bw n S) :
  Calls Tryz.prog 89 #[.pointer (some ⟨b,0,none⟩)] w fun e w'=>∃ g cap',e=.returned (.slice (some ⟨g,0,none⟩) n cap')/\ListIs w' w.heap.size (.slice (some ⟨g,0,none⟩) n cap') (pgl S n)/\Out 0 0 w w':=by
 obtain⟨cap,c0,_⟩:=h.cell;have H:=Z0 (z7x c0);have HC:=Z0 (q9b (cap:=cap) h.row h.nums.1 h.nums.2.1);clear c0 h;go_enter Tryz.func89,Tryz.ntmps89
 go_wp2_with (first | (go_at_call 132;refine Z5 H.out ?_) | (go_at_call 131;refine HC.out.mono ?_;rintro e w1 ⟨g,cap',rfl,hl,ho⟩;have HL:=Z0 hl;clear hl));go_ret;exact⟨g,cap',rfl,HL.out,ho⟩
theorem q7b {T:TypeId} {w w1:World} {g n cap:Nat} {S:Nat->Int × Int × Int} (hw:4<=w.heap.size) (ho:Out 0 0 w w1) (hl:ListIs w1 w.heap.size (.slice (some ⟨g,0,none⟩) n cap) (pgl S n)) (h1:1<=n) (h2:n<=4096) (hg:Good n S) :
  TblAt T (w1.alloc (.cells #[.slice (some ⟨g,0,none⟩) n cap] T)) w1.heap.size g n S/\w.heap.size<=g/\w.heap.size<=w1.heap.size:=by
 obtain⟨hr,hb,hc⟩:=hl.row;have:=ho.size;have:=Row.lt hr;exact⟨⟨cap,heap_alloc_new _ _,hc,by omega,by omega,by omega,h1,h2,hg,hr.kept ((Out.refl 0 0 _).alloc _) z0⟩,hb,by omega⟩
theorem j6b {w:World} {b bw n:Nat} {S:Nat->Int × Int × Int} (h:TblAt 132 w b bw n S) (hw:4<=w.heap.size) :
  Calls Tryz.prog 151 #[.pointer (some ⟨b,0,none⟩)] w fun e w'=>∃ b' bw',e=.returned (.pointer (some ⟨b',0,none⟩))/\TblAt 132 w' b' bw' n S/\w.heap.size<=b'/\w.heap.size<=bw'/\Out 0 0 w w':=by
 have HA:=Z0 (q4o h);have HN:=Z0 h.nums;have HG:=Z0 h.good;have HW:=Z0 hw;clear h hw;go_enter Tryz.func151,Tryz.ntmps151
 go_wp2_with (go_at_call 89;refine HA.out.mono ?_;rintro e w1 ⟨g,cap',rfl,hl,ho⟩;have HL:=Z0 hl;have HO:=Z0 ho;clear hl ho);go_ret;obtain⟨t1,t2,t3⟩:=q7b (T:=132) HW.out HO.out HL.out HN.out.1 HN.out.2.1 HG.out;exact⟨_,g,rfl,t1,t3,t2,HO.out.alloc _⟩
def z5o (w w':World) (v:Value) (g:Nat):Prop:=(w.grownBy w' none/\w.heap.size<=g)\/(v.ownBlock=some g/\w.grownBy w' (some g))
def GrewX (w w':World) (v:Value) (g at_:Nat) (news:List Value):Prop:=
 (w.grownBy w' none/\w.heap.size<=g)\/(v.ownBlock=some g/\w.grownBy w' (some g)/\∃ cur cur' e,w.heap[g]? = some (.cells cur e (0,0))/\w'.heap[g]? = some (.cells cur' e (0,0))/\cur'.size=cur.size/\∀ q,(q<at_->cur'[q]? = cur[q]?)/\(at_+news.length<=q->cur'[q]? = cur[q]?)/\(q<news.length->cur'[at_+q]? = news[q]?))
theorem GrewX.grew {w w':World} {v:Value} {g at_:Nat} {news:List Value} (h:GrewX w w' v g at_ news):z5o w w' v g:=by
 rcases h with h | ⟨h1,h2,_⟩
 ·exact .inl h
 ·exact .inr ⟨h1,h2⟩
theorem B6 {ops:Array Oper} {rest:List Oper} {o:Oper} {a:Act} {Q:Exit->Act->World->Prop} (w:World) (hgd:o.guard=none) (s x:Operand) (t:TypeId)
  (ho:o.op=.call { callee:=.builtin .append,args:=#[s,x],argTypes:=#[t,t] })
  (base:Nat) (e:TypeId) (i:TypeInfo) (z:Value) (sz bytes:Nat) (ht:Tryz.prog.underlying t=some (.slice e)) (hi:Tryz.prog.info? e=some i) (hz:i.zero=some z)
  (hsize:i.size=sz) (hby:i.bytes=bytes) (hzs:z.cells.size=sz) (hsz:0<sz)
  (v:Value) (n:Nat) (xs:List Value) (hs:a.eval s=v) (hown:w.ownsRow base e sz v n xs)
  (ad:Addr) (m c:Nat) (news:List Value) (hx:a.eval x=.slice (some ad) m c) (hl:news.length=m*sz) (hnews:∀ j u,news[j]? = some u->w.cell? (ad.add j)=some u) (h1:∀ u ∈ news,u.oneCell'=true)
  (hm:0<m) (h63:n+m<=maxLen) (hbytes:(n+m)*bytes<=140737488355328) (hbase:base<=w.heap.size)
  (h:∀ g cap w',w'.ownsRow base e sz (.slice (some ⟨g,0,none⟩) (n+m) cap) (n+m) (xs ++ news)->GrewX w w' v g (n*sz) news->wpList Tryz.prog ops Q rest (a.put o.dst (.slice (some ⟨g,0,none⟩) (n+m) cap)) w'):wpList Tryz.prog ops Q (o :: rest) a w:=by
 have fin:∀ v' w',w'.ownsRow w.heap.size e sz v' (n+m) (xs ++ news)->w.grownBy w' none->wpList Tryz.prog ops Q rest (a.put o.dst v') w':=by
  intro v' w' r1 r2;obtain⟨g,cap,rfl,hg,_⟩:=r1.form (by omega);exact h g cap w' (z3d r1 hbase) (.inl ⟨r2,hg⟩)
 have hown':=hown;obtain⟨hlen,hcase⟩:=hown;rcases hcase with ⟨rfl,rfl⟩ | ⟨g,cap,cur,rfl,hg1,hg2,hg3,hg4,hg5,hg6⟩
 ·exact wpList_append_grows w hgd s x t ho e i z sz bytes ht hi hz hsize hby hzs hsz none 0 0 xs hs (fun _=>⟨rfl,rfl⟩) hlen (fun b hb=>by cases hb) ad m c news hx hl hnews h1 (by omega) h63 hbytes fin
 ·by_cases hr:n+m<=cap
  ·subst hsize;have hfit:n*i.size+news.length<=cur.size:=by rw[hl,hg5,<-Nat.add_mul];exact Nat.mul_le_mul_right _ hr
   have hrun:=run_append_room (P:=Tryz.prog) w t o.type e i ht hi g n cap cur hg2 ad m c news hl hnews h1 hr hfit;have hlen2:(xs ++ news).length=(n+m)*i.size:=by rw[List.length_append,hlen,hl,Nat.add_mul]
   refine wpList_plain hgd fun K hK=>?_
   unfold Oper.wp execOp;simp only[ho,resolve,invoke,builtin,Sem.run_bind,Sem.run_pure,Result.andThen_ok,List.map_toArray,List.map_cons,List.map_nil,hs,hx,hrun];refine hK _ _ (h g cap _ ⟨hlen2,.inr ⟨g,cap,_,rfl,hg1,setRow_heap w g cur _ e _ hg2,hr,hg4,?_,?_⟩⟩ (.inr ⟨rfl,⟨rfl,rfl,rfl,by simp,fun k _ hk=>setRow_other w g k _ (fun e=>hk (by simp[e]))⟩,cur,_,e,hg2,setRow_heap w g cur _ e _ hg2,?_,fun q=>?_⟩))
   ·simp only[List.size_toArray,List.length_append,List.length_take,List.length_drop,Array.length_toList];omega
   ·rw[hg6,<-hlen2];exact List.take_left
   ·simp only[List.size_toArray,List.length_append,List.length_take,List.length_drop,Array.length_toList];omega
   ·have hm1:min (n*i.size) cur.size=n*i.size:=by omega
    refine⟨fun hq=>?_,fun hq=>?_,fun hq=>?_⟩
    ·simp only[List.getElem?_toArray];rw[List.getElem?_append_left (by simp only[List.length_append,List.length_take,Array.length_toList];omega),List.getElem?_append_left (by simp only[List.length_take,Array.length_toList];omega),List.getElem?_take,if_pos hq,Array.getElem?_toList]
    ·simp only[List.getElem?_toArray];rw[List.getElem?_append_right (by simp only[List.length_append,List.length_take,Array.length_toList];omega),List.getElem?_drop,Array.getElem?_toList];refine congrArg (fun z=>cur[z]?) ?_;simp only[List.length_append,List.length_take,Array.length_toList];omega
    ·simp only[List.getElem?_toArray];rw[List.getElem?_append_left (by simp only[List.length_append,List.length_take,Array.length_toList];omega),List.getElem?_append_right (by simp only[List.length_take,Array.length_toList];omega)];refine congrArg (fun z=>news[z]?) ?_;simp only[List.length_take,Array.length_toList];omega
  ·exact wpList_append_grows w hgd s x t ho e i z sz bytes ht hi hz hsize hby hzs hsz (some ⟨g,0,none⟩) n cap xs hs (fun e=>by cases e) hlen (fun b hb=>by cases hb;exact hown'.cells (g:=g) rfl) ad m c news hx hl hnews h1 (by omega) h63 hbytes fin
def Chg (col:Nat->Nat) (P:Nat->Prop) (w w':World):Prop:=
 w'.os=w.os/\w'.tape=w.tape/\w'.output=w.output/\w.heap.size<=w'.heap.size/\∀ k,k<w.heap.size->¬ P (col k)->w'.heap[k]? = w.heap[k]?
section
variable {col:Nat->Nat} {P R:Nat->Prop} {w w':World}
theorem Chg.size (h:Chg col P w w'):w.heap.size<=w'.heap.size:=h.2.2.2.1
theorem Chg.of_out (h:Out 0 0 w w') (col:Nat->Nat) (P:Nat->Prop):Chg col P w w':=⟨h.1,h.2.1,h.2.2.1,h.size,fun k hk _=>h.block hk z0⟩
theorem Chg.of_part {lo hi:Nat} (h:Out lo hi w w') (hp:∀ k,lo<=k->k<hi->P (col k)):Chg col P w w':=⟨h.1,h.2.1,h.2.2.1,h.size,fun k hk hn=>h.block hk (by
 by_cases q:k<lo
 ·exact .inl q
 ·by_cases q2:hi<=k
  ·exact .inr q2
  ·exact absurd (hp k (by omega) (by omega)) hn)⟩
theorem Chg.trans {a b c:World} (h:Chg col P a b) (g:Chg col P b c):Chg col P a c:=
 ⟨g.1.trans h.1,g.2.1.trans h.2.1,g.2.2.1.trans h.2.2.1,Nat.le_trans h.size g.size,fun k hk hp=>(g.2.2.2.2 k (Nat.lt_of_lt_of_le hk h.size) hp).trans (h.2.2.2.2 k hk hp)⟩
theorem Chg.mono {a b:World} (h:Chg col P a b) (hr:∀ c,P c->R c):Chg col R a b:=
 ⟨h.1,h.2.1,h.2.2.1,h.size,fun k hk hp=>h.2.2.2.2 k hk (fun q=>hp (hr _ q))⟩
theorem Chg.recol {col':Nat->Nat} (h:Chg col P w w') (e:∀ k,k<w.heap.size->¬ P (col' k)->¬ P (col k)):Chg col' P w w':=
 ⟨h.1,h.2.1,h.2.2.1,h.size,fun k hk hp=>h.2.2.2.2 k hk (e k hk hp)⟩
theorem Chg.heap (h:Chg col P w w') {k:Nat} {o:Obj} (hb:w.heap[k]? = some o) (hp:¬ P (col k)):w'.heap[k]? = some o:=
 (h.2.2.2.2 k (Q4 hb) hp).trans hb
theorem Chg.cell (h:Chg col P w w') {k i:Nat} {v:Value} (hb:w.cell? ⟨k,i,none⟩=some v) (hp:¬ P (col k)):w'.cell? ⟨k,i,none⟩=some v:=by
 rw[World.cell?_of_block (w:=w) (a:=⟨k,i,none⟩) (h.2.2.2.2 k (z0a hb) hp)];exact hb
theorem Chg.setCell (h:Chg col P w w') {p:Addr} (hp:P (col p.block)) (u:Value):Chg col P w (w'.setCell p u):=by
 refine⟨h.1,h.2.1,h.2.2.1,by have:=h.size;simpa [World.setCell] using this,fun k hk hq=>?_⟩;rw[Below.heap_setCell _ _ _ _ (by intro e;subst e;exact hq hp)];exact h.2.2.2.2 k hk hq
theorem Chg.grew {v:Value} {g:Nat} (h:z5o w w' v g) (hp:∀ x,v.ownBlock=some x->P (col x)):Chg col P w w':=by
 rcases h with ⟨h,_⟩ | ⟨e,h⟩
 ·exact⟨h.os,h.tape,h.output,h.size,fun k hk _=>h.block k hk (by simp)⟩
 ·exact⟨h.os,h.tape,h.output,h.size,fun k hk hq=>h.block k hk (fun e'=>by cases e';exact hq (hp _ e))⟩
theorem Chg.own {B n sz:Nat} {T:TypeId} {v:Value} {xs:List Value} (h:Chg col P w w') (hw:w.ownsRow B T sz v n xs) (hp:∀ x,v.ownBlock=some x->¬ P (col x)):w'.ownsRow B T sz v n xs:=by
 obtain⟨h1,h2⟩:=hw;refine⟨h1,?_⟩;rcases h2 with h2 | ⟨g,cap,cur,rfl,hg,hh,r⟩
 ·exact .inl h2
 ·exact .inr ⟨g,cap,cur,rfl,hg,h.heap hh (hp g rfl),r⟩
end
def Fix (col col':Nat->Nat) (w w':World):Prop:=Chg col (fun c=>c ≠ 7) w w'/\∀ k,k<w.heap.size->col k=7->col' k=7
theorem Fix.of {col col':Nat->Nat} {P:Nat->Prop} {w w':World} (h:Chg col P w w') (hP:¬ P 7) (e:∀ k,k<w.heap.size->col k=7->col' k=7):Fix col col' w w':=
 ⟨h.mono fun c hc h7=>by subst h7;exact hP hc,e⟩
theorem Fix.refl (col:Nat->Nat) (w:World):Fix col col w w:=⟨Chg.of_out (Out.refl 0 0 _) _ _,fun _ _ h=>h⟩
theorem Fix.trans {c0 c1 c2:Nat->Nat} {a b c:World} (h:Fix c0 c1 a b) (g:Fix c1 c2 b c):Fix c0 c2 a c:=by
 refine⟨⟨g.1.1.trans h.1.1,g.1.2.1.trans h.1.2.1,g.1.2.2.1.trans h.1.2.2.1,Nat.le_trans h.1.size g.1.size,fun k hk hp=>?_⟩,fun k hk h7=>g.2 k (Nat.lt_of_lt_of_le hk h.1.size) (h.2 k hk h7)⟩;have h7:c0 k=7:=Classical.not_not.1 hp;exact(g.1.2.2.2.2 k (Nat.lt_of_lt_of_le hk h.1.size) (fun q=>q (h.2 k hk h7))).trans (h.1.2.2.2.2 k hk hp)
theorem Fix.heap {c0 c1:Nat->Nat} {a b:World} (h:Fix c0 c1 a b) {k:Nat} {o:Obj} (hb:a.heap[k]? = some o) (h7:c0 k=7):b.heap[k]? = some o:=h.1.heap hb (fun q=>q h7)
theorem Fix.out {c0 c1:Nat->Nat} {a b c:World} (h:Fix c0 c1 a b) (o:Out 0 0 b c):Fix c0 c1 a c:=h.trans ⟨Chg.of_out o _ _,fun _ _ h=>h⟩
theorem Fix.re {c0 c1 c2:Nat->Nat} {a b:World} (h:Fix c0 c1 a b) (e:∀ k,k<b.heap.size->c1 k=7->c2 k=7):Fix c0 c2 a b:=
 ⟨h.1,fun k hk h7=>e k (Nat.lt_of_lt_of_le hk h.1.size) (h.2 k hk h7)⟩
def z3o (col:Nat->Nat) (g c:Nat):Nat->Nat:=fun x=>if x=g then c else col x
theorem z1x (col:Nat->Nat) (g c:Nat):z3o col g c g=c:=by unfold z3o;rw[if_pos rfl]
theorem G9 {col:Nat->Nat} {g c x:Nat} (h:x ≠ g):z3o col g c x=col x:=by unfold z3o;rw[if_neg h]
def szK (t:Nat):Nat:=if t=0 then 1 else if t=1 then 3 else 5
def etK (t:Nat):TypeId:=if t=0 then 3 else if t=1 then 147 else 97
def mkF (t m i:Nat):Int:=if (t=2/\i=1)\/(t ≠ 2/\i=0) then (m:Int) else 0
def tyS (i:Nat):TypeId:=if i=2\/i=3\/i=8 then 30 else if i=4\/i=5\/i=9 then 78 else if i=6\/i=7\/i=10 then 70 else 3
def FullC (w:World) (col:Nat->Nat) (cur:Option (Nat × Nat)) (t:Nat) (v:Value) (m:Nat):Prop:=
 ∃ a n cap,v=.slice a n cap/\(n<=1700/\m<=2000000)/\(0<n->∃ g,a=some ⟨g,0,none⟩/\g<w.heap.size/\(col g=5\/(col g=8/\cur=some (t,m)))/\∀ j k,j<n->k<szK t->w.cell? ⟨g,j*szK t+k,none⟩=some (.int .i64 (mkF t m k)))
def WereC (w:World) (col:Nat->Nat) (v:Value) (n sz:Nat) (f:Nat->Nat->Int):Prop:=
 ∃ a cap,v=.slice a n cap/\(0<n->∃ g,a=some ⟨g,0,none⟩/\g<w.heap.size/\col g=6/\∀ j k,j<n->k<sz->w.cell? ⟨g,j*sz+k,none⟩=some (.int .i64 (f j k)))
def LeftC (B:Nat) (w:World) (col:Nat->Nat) (t i:Nat) (v:Value) (n:Nat) (f:Nat->Nat->Int):Prop:=
 (∃ xs,w.ownsRow B (etK t) (szK t) v n xs/\∀ j k,j<n->k<szK t->xs[j*szK t+k]? = some (.int .i64 (f j k)))/\n<=1536/\∀ x,v.ownBlock=some x->col x=100+3*i+t
structure Kp (B:Nat) (w:World) (b:Nat) (V:Nat->Value) (X:Nat->List Value) (C:Nat->Nat->Nat × (Nat->Nat->Int)) (col:Nat->Nat) (cur:Option (Nat × Nat)) (p:Nat->Nat):Prop where
 hB:B<=w.heap.size
 hb:w.heap[b]? = some (.cells #[V 0,V 1,V 2,V 3,V 4,V 5,V 6,V 7,V 8,V 9,V 10,V 11,V 12,V 13] 54 (0,0))
 cb:col b=0
 own:∀ (i:Nat),2<=i->i<14->w.ownsRow B (tyS i) 1 (V i) (X i).length (X i)
 co:∀ (i:Nat),2<=i->i<14->∀ x,(V i).ownBlock=some x->col x=10+i
 lf:∀ (t i:Nat) (v:Value),t<3->p t<=i->(X (2+2*t))[i]? = some v->LeftC B w col t i v (C t i).1 (C t i).2
 wr:∀ (t i:Nat) (v:Value),t<3->(X (3+2*t))[i]? = some v->WereC w col v (C t i).1 (szK t) (C t i).2
 fl:∀ (t i:Nat) (v z:Value),t<3->(X (8+t))[i]? = some v->(X (11+t))[i]? = some z->∃ m:Nat,z=Value.int .i64 (m:Int)/\FullC w col cur t v m
section
variable {B:Nat} {w w':World} {b:Nat} {V:Nat->Value} {X:Nat->List Value} {C:Nat->Nat->Nat × (Nat->Nat->Int)} {col col':Nat->Nat} {cur:Option (Nat × Nat)} {p:Nat->Nat}
theorem FullC.recol {t m:Nat} {v:Value} (h:FullC w col cur t v m) (e:∀ x,x<w.heap.size->col x ≠ 9->col' x=col x):FullC w col' cur t v m:=by
 obtain⟨a,n,cap,e1,hn,hr⟩:=h;refine⟨a,n,cap,e1,hn,fun h0=>?_⟩;obtain⟨g,g0,g1,g2,g3⟩:=hr h0;refine⟨g,g0,g1,?_,g3⟩;have:col' g=col g:=e g g1 (by rcases g2 with g2 | g2 <;> omega);rw[this];exact g2
theorem WereC.recol {n sz:Nat} {v:Value} {f:Nat->Nat->Int} (h:WereC w col v n sz f) (e:∀ x,x<w.heap.size->col x ≠ 9->col' x=col x):WereC w col' v n sz f:=by
 obtain⟨a,cap,e1,hr⟩:=h;refine⟨a,cap,e1,fun h0=>?_⟩;obtain⟨g,g0,g1,g2,g3⟩:=hr h0;exact⟨g,g0,g1,by rw[e g g1 (by omega)];exact g2,g3⟩
theorem LeftC.recol {t i n:Nat} {v:Value} {f:Nat->Nat->Int} (h:LeftC B w col t i v n f) (e:∀ x,x<w.heap.size->col x ≠ 9->col' x=col x):LeftC B w col' t i v n f:=by
 obtain⟨⟨xs,h1,h2⟩,h3,h4⟩:=h;exact⟨⟨xs,h1,h2⟩,h3,fun x hx=>by rw[e x (q1o h1 hx) (by rw[h4 x hx];omega)];exact h4 x hx⟩
theorem Kp.recol (h:Kp B w b V X C col cur p) (e:∀ x,x<w.heap.size->col x ≠ 9->col' x=col x):Kp B w b V X C col' cur p:=
 ⟨h.hB,h.hb,by rw[e b (Q4 h.hb) (by rw[h.cb];omega)];exact h.cb,h.own,fun i h1 h2 x hx=>by rw[e x (q1o (h.own i h1 h2) hx) (by rw[h.co i h1 h2 x hx];omega)];exact h.co i h1 h2 x hx,
  fun t i v ht hp hv=>(h.lf t i v ht hp hv).recol e,fun t i v ht hv=>(h.wr t i v ht hv).recol e,fun t i v z ht hv hz=>by
   obtain⟨m,e1,e2⟩:=h.fl t i v z ht hv hz;exact⟨m,e1,e2.recol e⟩⟩
theorem FullC.chg {P:Nat->Prop} {t m:Nat} {v:Value} (h:FullC w col cur t v m) (o:Chg col P w w') (h5:¬ P 5) (h8:cur=none\/¬ P 8):FullC w' col cur t v m:=by
 obtain⟨a,n,cap,e1,hn,hr⟩:=h;refine⟨a,n,cap,e1,hn,fun h0=>?_⟩;obtain⟨g,g0,g1,g2,g3⟩:=hr h0;refine⟨g,g0,Nat.lt_of_lt_of_le g1 o.size,g2,fun j k hj hk=>o.cell (g3 j k hj hk) ?_⟩;rcases g2 with g2 | ⟨g2,g4⟩
 ·rw[g2];exact h5
 ·rw[g2];rcases h8 with h8 | h8
  ·rw[h8] at g4;cases g4
  ·exact h8
theorem WereC.chg {P:Nat->Prop} {n sz:Nat} {v:Value} {f:Nat->Nat->Int} (h:WereC w col v n sz f) (o:Chg col P w w') (h6:¬ P 6):WereC w' col v n sz f:=by
 obtain⟨a,cap,e1,hr⟩:=h;refine⟨a,cap,e1,fun h0=>?_⟩;obtain⟨g,g0,g1,g2,g3⟩:=hr h0;exact⟨g,g0,Nat.lt_of_lt_of_le g1 o.size,g2,fun j k hj hk=>o.cell (g3 j k hj hk) (by rw[g2];exact h6)⟩
theorem LeftC.chg {P:Nat->Prop} {t i n:Nat} {v:Value} {f:Nat->Nat->Int} (h:LeftC B w col t i v n f) (o:Chg col P w w') (hp:¬ P (100+3*i+t)):LeftC B w' col t i v n f:=by
 obtain⟨⟨xs,h1,h2⟩,h3,h4⟩:=h;exact⟨⟨xs,o.own h1 fun x hx=>by rw[h4 x hx];exact hp,h2⟩,h3,h4⟩
theorem Kp.chg {P:Nat->Prop} (h:Kp B w b V X C col cur p) (o:Chg col P w w') (hP:∀ c,P c->c=7\/c=9\/(c=8/\cur=none)):Kp B w' b V X C col cur p:=by
 have no:∀ c,c ≠ 7->c ≠ 8->c ≠ 9->¬ P c:=fun c c1 c2 c3 hp=>by have:=hP c hp;omega
 refine⟨Nat.le_trans h.hB o.size,o.heap h.hb (by rw[h.cb];exact no 0 (by omega) (by omega) (by omega)),h.cb,fun i h1 h2=>o.own (h.own i h1 h2) fun x hx=>?_,h.co,fun t i v ht hp hv=>(h.lf t i v ht hp hv).chg o (no _ (by omega) (by omega) (by omega)),fun t i v ht hv=>(h.wr t i v ht hv).chg o (no _ (by omega) (by omega) (by omega)),fun t i v z ht hv hz=>?_⟩
 ·rw[h.co i h1 h2 x hx];exact no _ (by omega) (by omega) (by omega)
 ·obtain⟨m,e1,e2⟩:=h.fl t i v z ht hv hz;refine⟨m,e1,e2.chg o (no _ (by omega) (by omega) (by omega)) ?_⟩;by_cases q:P 8
  ·have:=hP 8 q;exact .inl (by rcases this with h | h | h;omega;omega;exact h.2)
  ·exact .inr q
theorem Kp.quiet (h:Kp B w b V X C col cur p) (o:Out 0 0 w w'):Kp B w' b V X C col cur p:=h.chg (P:=fun c=>c=9) (Chg.of_out o _ _) (fun _ h=>.inr (.inl h))
theorem Kp.opened (h:Kp B w b V X C col none p) (t m:Nat):Kp B w b V X C col (some (t,m)) p:=by
 refine { h with fl:=fun t' i v z ht hv hz=>?_ };obtain⟨m',e1,a,n,cap,e2,hn,hr⟩:=h.fl t' i v z ht hv hz;refine⟨m',e1,a,n,cap,e2,hn,fun h0=>?_⟩;obtain⟨g,g0,g1,g2,g3⟩:=hr h0;refine⟨g,g0,g1,?_,g3⟩;rcases g2 with g2 | ⟨_,g2⟩
 ·exact .inl g2
 ·cases g2
theorem Kp.shut {t m:Nat} (h:Kp B w b V X C col (some (t,m)) p):Kp B w b V X C (fun x=>if col x=8 then 5 else col x) none p:=by
 have ne:∀ x,col x ≠ 8->(if col x=8 then 5 else col x)=col x:=fun x hx=>by rw[if_neg hx]
 refine⟨h.hB,h.hb,(ne b (by rw[h.cb];omega)).trans h.cb,h.own,fun i h1 h2 x hx=>?_,fun t i v ht hp hv=>?_,fun t i v ht hv=>?_,fun t' i v z ht hv hz=>?_⟩
 ·have:=h.co i h1 h2 x hx;exact(ne x (by omega)).trans this
 ·obtain⟨h1,h2,h3⟩:=h.lf t i v ht hp hv;exact⟨h1,h2,fun x hx=>by have:=h3 x hx;exact(ne x (by omega)).trans this⟩
 ·obtain⟨a,cap,e1,hr⟩:=h.wr t i v ht hv;refine⟨a,cap,e1,fun h0=>?_⟩;obtain⟨g,g0,g1,g2,g3⟩:=hr h0;exact⟨g,g0,g1,(ne g (by omega)).trans g2,g3⟩
 ·obtain⟨m',e1,a,n,cap,e2,hn,hr⟩:=h.fl t' i v z ht hv hz;refine⟨m',e1,a,n,cap,e2,hn,fun h0=>?_⟩;obtain⟨g,g0,g1,g2,g3⟩:=hr h0;refine⟨g,g0,g1,.inl ?_,g3⟩;rcases g2 with g2 | ⟨g2,_⟩
  ·exact(ne g (by omega)).trans g2
  ·show (if col g=8 then 5 else col g)=5
   rw[if_pos g2]
end
end Go.Proofs.YtjbbkeoolodeaabGreatDoor
