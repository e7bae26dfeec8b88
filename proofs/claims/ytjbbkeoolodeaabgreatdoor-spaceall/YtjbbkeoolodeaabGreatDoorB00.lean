import Derived.WalkKit
import Derived.Carry
import Derived.OwnWalk
import Derived.Deep.RegionHeld3
import Derived.Deep.OwnRows
import Derived.Test.YtjbbkeoolodeaabGreatDoorRows
import Derived.Test.YtjbbkeoolodeaabGreatDoorChecked
import Derived.Lib.TrailingZeros
namespace Go.Proofs.YtjbbkeoolodeaabGreatDoor
open Go.RowKit
set_option linter.unusedVariables false
set_option maxRecDepth 100000
set_option maxHeartbeats 16000000
set_option linter.unusedSimpArgs false
theorem xa {α:Type} {l:List α} {i:Nat} (h:i<l.toArray.size):l.toArray[i]=l[i]'(by simpa using h):=by simp
theorem xb {α:Type} (a:α) (ys:List α) (h:0<(a :: ys).length):(a :: ys)[0]=a:=rfl
theorem xc {α:Type} (a:α) (ys:List α) (i:Nat) (h:i+1<(a :: ys).length):(a :: ys)[i+1]=ys[i]'(Nat.lt_of_succ_lt_succ h):=rfl
theorem xd {α:Type} {l:List α} {i:Nat} {a:α}:l.toArray.setIfInBounds i a=(l.set i a).toArray:=by simp
theorem xe {α:Type} {x:α} {xs:List α} {a:α}:(x :: xs).set 0 a=a :: xs:=rfl
theorem xf {α:Type} {x:α} {xs:List α} {n:Nat} {a:α}:(x :: xs).set (n+1) a=x :: xs.set n a:=rfl
theorem tk (i:Nat) {P:Program} {md:Region.Mode} {ops:Array Oper} {Q:Exit->Act->World->Prop} {S:World->Prop} {oi:Oper} {v:Value} {fuel:Nat} {listed l':Array Bool} {a a':Act} {w:World}
  (h:wpAnyH P md ops Q S fuel l' a' w) (hi:ops[i]? = some oi:=by exact rfl) (hs:Region.noSelect ops=true:=by kernel_rfl) (hf:Region.free md ops listed i=true:=by kernel_rfl) (hr:(Region.ready md ops listed).contains i=true:=by kernel_rfl)
  (hw:Region.wanted oi (yielded ops a.tmps)=true:=by rfl)
  (hy:∀ w,S w->(execOp a.eval oi).run P w=.ok (.value v) w:=by intro w hSw;(try dsimp only at hSw);simp only[List.getElem_toArray,List.getElem_cons_zero,List.getElem_cons_succ];go_simp;(try with_reducible rfl))
  (hS:S w:=by assumption)
  (hl:listed.setIfInBounds i true=l':=by (try simp only[List.setIfInBounds_toArray,List.set_cons_zero,List.set_cons_succ]);exact rfl)
  (ha:a.put oi.dst v=a':=by (try simp only[Act.put,List.getElem_toArray,List.getElem_cons_zero,List.getElem_cons_succ,List.setIfInBounds_toArray,List.set_cons_zero,List.set_cons_succ]);exact rfl)
  (hQ:∀ c a w,Q (.panic c) (a.put oi.dst v) w->Q (.panic c) a w:=by exact fun _ _ _ h=>h):wpAnyH P md ops Q S (fuel+1) listed a w:=by
 subst hl ha;exact wpAnyH_take hi hs hf hr hQ (Or.inl ⟨hw,hy⟩) hS h
theorem sk (i:Nat) {P:Program} {md:Region.Mode} {ops:Array Oper} {Q:Exit->Act->World->Prop} {S:World->Prop} {oi:Oper} {fuel:Nat} {listed l':Array Bool} {a a':Act} {w:World}
  (h:wpAnyH P md ops Q S fuel l' a' w) (hi:ops[i]? = some oi:=by exact rfl) (hs:Region.noSelect ops=true:=by kernel_rfl) (hf:Region.free md ops listed i=true:=by kernel_rfl) (hr:(Region.ready md ops listed).contains i=true:=by kernel_rfl)
  (hw:Region.wanted oi (yielded ops a.tmps)=false:=by rfl) (hS:S w:=by assumption)
  (hl:listed.setIfInBounds i true=l':=by (try simp only[List.setIfInBounds_toArray,List.set_cons_zero,List.set_cons_succ]);exact rfl)
  (ha:a.put oi.dst undef=a':=by (try simp only[Act.put,List.getElem_toArray,List.getElem_cons_zero,List.getElem_cons_succ,List.setIfInBounds_toArray,List.set_cons_zero,List.set_cons_succ]);exact rfl)
  (hQ:∀ c a w,Q (.panic c) (a.put oi.dst undef) w->Q (.panic c) a w:=by exact fun _ _ _ h=>h):wpAnyH P md ops Q S (fuel+1) listed a w:=by
 subst hl ha;exact wpAnyH_take hi hs hf hr hQ (Or.inr ⟨hw,rfl⟩) hS h
theorem rd1 (i:Nat) {P:Program} {md:Region.Mode} {ops:Array Oper} {Q:Exit->Act->World->Prop} {S:World->Prop} {fuel:Nat} {listed:Array Bool} {a a':Act} {w:World} {li:Array Bool} {oi:Oper}
  (hi:∀ K':Act->World->Prop,Shut (∀ a w,S w->(S w->wpAnyH P md ops Q S fuel li a w)->K' a w)->if Region.wanted oi (yielded ops a'.tmps)=true then Oper.wp P oi a' w K' Q else K' (a'.put oi.dst undef) w)
  (hr:Region.ready md ops listed=[i]:=by kernel_rfl) (qi:ops[i]? = some oi:=by exact rfl)
  (pi:listed.setIfInBounds i true=li:=by (try simp only[List.setIfInBounds_toArray,List.set_cons_zero,List.set_cons_succ]);exact rfl)
  (ha:a=a':=by (try simp only[Act.put,xa,xb,xc,xd,xe,xf]);exact rfl):wpAnyH P md ops Q S (fuel+1) listed a w:=by
 subst ha pi;exact wpAnyH_ready hr (by simp) (AllReadyH.cons qi hi AllReadyH.nil)
theorem rd2 (i j:Nat) {P:Program} {md:Region.Mode} {ops:Array Oper} {Q:Exit->Act->World->Prop} {S:World->Prop} {fuel:Nat} {listed:Array Bool} {a a':Act} {w:World} {li lj:Array Bool} {oi oj:Oper}
  (hi:∀ K':Act->World->Prop,Shut (∀ a w,S w->(S w->wpAnyH P md ops Q S fuel li a w)->K' a w)->if Region.wanted oi (yielded ops a'.tmps)=true then Oper.wp P oi a' w K' Q else K' (a'.put oi.dst undef) w)
  (hj:∀ K':Act->World->Prop,Shut (∀ a w,S w->(S w->wpAnyH P md ops Q S fuel lj a w)->K' a w)->if Region.wanted oj (yielded ops a'.tmps)=true then Oper.wp P oj a' w K' Q else K' (a'.put oj.dst undef) w)
  (hr:Region.ready md ops listed=[i,j]:=by kernel_rfl) (qi:ops[i]? = some oi:=by exact rfl) (qj:ops[j]? = some oj:=by exact rfl)
  (pi:listed.setIfInBounds i true=li:=by (try simp only[List.setIfInBounds_toArray,List.set_cons_zero,List.set_cons_succ]);exact rfl) (pj:listed.setIfInBounds j true=lj:=by (try simp only[List.setIfInBounds_toArray,List.set_cons_zero,List.set_cons_succ]);exact rfl)
  (ha:a=a':=by (try simp only[Act.put,xa,xb,xc,xd,xe,xf]);exact rfl):wpAnyH P md ops Q S (fuel+1) listed a w:=by
 subst ha pi pj;exact wpAnyH_ready hr (by simp) (AllReadyH.cons qi hi (AllReadyH.cons qj hj AllReadyH.nil))
theorem rd3 (i j k:Nat) {P:Program} {md:Region.Mode} {ops:Array Oper} {Q:Exit->Act->World->Prop} {S:World->Prop} {fuel:Nat} {listed:Array Bool} {a a':Act} {w:World} {li lj lk:Array Bool} {oi oj ok:Oper}
  (hi:∀ K':Act->World->Prop,Shut (∀ a w,S w->(S w->wpAnyH P md ops Q S fuel li a w)->K' a w)->if Region.wanted oi (yielded ops a'.tmps)=true then Oper.wp P oi a' w K' Q else K' (a'.put oi.dst undef) w)
  (hj:∀ K':Act->World->Prop,Shut (∀ a w,S w->(S w->wpAnyH P md ops Q S fuel lj a w)->K' a w)->if Region.wanted oj (yielded ops a'.tmps)=true then Oper.wp P oj a' w K' Q else K' (a'.put oj.dst undef) w)
  (hk:∀ K':Act->World->Prop,Shut (∀ a w,S w->(S w->wpAnyH P md ops Q S fuel lk a w)->K' a w)->if Region.wanted ok (yielded ops a'.tmps)=true then Oper.wp P ok a' w K' Q else K' (a'.put ok.dst undef) w)
  (hr:Region.ready md ops listed=[i,j,k]:=by kernel_rfl) (qi:ops[i]? = some oi:=by exact rfl) (qj:ops[j]? = some oj:=by exact rfl) (qk:ops[k]? = some ok:=by exact rfl)
  (pi:listed.setIfInBounds i true=li:=by (try simp only[List.setIfInBounds_toArray,List.set_cons_zero,List.set_cons_succ]);exact rfl) (pj:listed.setIfInBounds j true=lj:=by (try simp only[List.setIfInBounds_toArray,List.set_cons_zero,List.set_cons_succ]);exact rfl) (pk:listed.setIfInBounds k true=lk:=by (try simp only[List.setIfInBounds_toArray,List.set_cons_zero,List.set_cons_succ]);exact rfl)
  (ha:a=a':=by (try simp only[Act.put,xa,xb,xc,xd,xe,xf]);exact rfl):wpAnyH P md ops Q S (fuel+1) listed a w:=by
 subst ha pi pj pk;exact wpAnyH_ready hr (by simp) (AllReadyH.cons qi hi (AllReadyH.cons qj hj (AllReadyH.cons qk hk AllReadyH.nil)))
theorem rd4 (i j k l:Nat) {P:Program} {md:Region.Mode} {ops:Array Oper} {Q:Exit->Act->World->Prop} {S:World->Prop} {fuel:Nat} {listed:Array Bool} {a a':Act} {w:World} {li lj lk ll:Array Bool} {oi oj ok ol:Oper}
  (hi:∀ K':Act->World->Prop,Shut (∀ a w,S w->(S w->wpAnyH P md ops Q S fuel li a w)->K' a w)->if Region.wanted oi (yielded ops a'.tmps)=true then Oper.wp P oi a' w K' Q else K' (a'.put oi.dst undef) w)
  (hj:∀ K':Act->World->Prop,Shut (∀ a w,S w->(S w->wpAnyH P md ops Q S fuel lj a w)->K' a w)->if Region.wanted oj (yielded ops a'.tmps)=true then Oper.wp P oj a' w K' Q else K' (a'.put oj.dst undef) w)
  (hk:∀ K':Act->World->Prop,Shut (∀ a w,S w->(S w->wpAnyH P md ops Q S fuel lk a w)->K' a w)->if Region.wanted ok (yielded ops a'.tmps)=true then Oper.wp P ok a' w K' Q else K' (a'.put ok.dst undef) w)
  (hl:∀ K':Act->World->Prop,Shut (∀ a w,S w->(S w->wpAnyH P md ops Q S fuel ll a w)->K' a w)->if Region.wanted ol (yielded ops a'.tmps)=true then Oper.wp P ol a' w K' Q else K' (a'.put ol.dst undef) w)
  (hr:Region.ready md ops listed=[i,j,k,l]:=by kernel_rfl) (qi:ops[i]? = some oi:=by exact rfl) (qj:ops[j]? = some oj:=by exact rfl) (qk:ops[k]? = some ok:=by exact rfl) (ql:ops[l]? = some ol:=by exact rfl)
  (pi:listed.setIfInBounds i true=li:=by (try simp only[List.setIfInBounds_toArray,List.set_cons_zero,List.set_cons_succ]);exact rfl) (pj:listed.setIfInBounds j true=lj:=by (try simp only[List.setIfInBounds_toArray,List.set_cons_zero,List.set_cons_succ]);exact rfl) (pk:listed.setIfInBounds k true=lk:=by (try simp only[List.setIfInBounds_toArray,List.set_cons_zero,List.set_cons_succ]);exact rfl) (pl:listed.setIfInBounds l true=ll:=by (try simp only[List.setIfInBounds_toArray,List.set_cons_zero,List.set_cons_succ]);exact rfl)
  (ha:a=a':=by (try simp only[Act.put,xa,xb,xc,xd,xe,xf]);exact rfl):wpAnyH P md ops Q S (fuel+1) listed a w:=by
 subst ha pi pj pk pl;exact wpAnyH_ready hr (by simp) (AllReadyH.cons qi hi (AllReadyH.cons qj hj (AllReadyH.cons qk hk (AllReadyH.cons ql hl AllReadyH.nil))))
theorem dn {P:Program} {md:Region.Mode} {ops:Array Oper} {Q:Exit->Act->World->Prop} {S:World->Prop} {fuel:Nat} {listed:Array Bool} {a a':Act} {w:World} (h:Q .normal a' w) (hr:Region.ready md ops listed=[]:=by kernel_rfl) (ha:a=a':=by (try simp only[Act.put,xa,xb,xc,xd,xe,xf]);exact rfl):wpAnyH P md ops Q S fuel listed a w:=by
 subst ha;exact wpAnyH_done hr h _
theorem z1 {n:Nat} {P:Prop}:(n<=n/\n<n+1)\/P:=.inl ⟨Nat.le_refl _,Nat.lt_succ_self _⟩
theorem z0 {P:Prop} {n:Nat}:P\/0<=n:=.inr (Nat.zero_le _)
theorem Z0 {p:Prop} (h:p):Hid p:=h
theorem U3 {k:IntKind} {a b:Int} (h:a=b):Ending.returned (.int k a)=.returned (.int k b):=by rw[h]
theorem K8 {a b:Bool} (h:a=b):Ending.returned (.bool a)=.returned (.bool b):=by rw[h]
theorem z9a {k:IntKind} {a b:Int} {p q:Bool} (h:a=b) (g:p=q):Ending.returned (.tuple #[.int k a,.bool p])=.returned (.tuple #[.int k b,.bool q]):=by rw[h,g]
theorem Z5 {f:FuncId} {args:Array Value} {v:Value} {w:World} {Q:Ending->World->Prop} (h:Calls Tryz.prog f args w (fun e w'=>e=.returned v/\w'=w)) (hq:Q (.returned v) w):Calls Tryz.prog f args w Q:=
 h.mono fun _ _ ⟨he,hw⟩=>by rw[he,hw];exact hq
theorem z5i {n:Int} (h:(Lit.int .i64 n).wf=true):-9223372036854775808<=n/\n<=9223372036854775807:=by
 simpa [Lit.wf,IntKind.min,IntKind.max,IntKind.signed,IntKind.bits] using h
def Out (lo hi:Nat) (w w':World):Prop:=
 w'.os=w.os/\w'.tape=w.tape/\w'.output=w.output/\w.heap.size<=w'.heap.size/\∀ k,k<w.heap.size->(k<lo\/hi<=k)->w'.heap[k]? = w.heap[k]?
theorem Out.refl (lo hi:Nat) (w:World):Out lo hi w w:=⟨rfl,rfl,rfl,Nat.le_refl _,fun _ _ _=>rfl⟩
theorem Out.size {lo hi:Nat} {w w':World} (h:Out lo hi w w'):w.heap.size<=w'.heap.size:=h.2.2.2.1
theorem Out.block {lo hi:Nat} {w w':World} (h:Out lo hi w w') {k:Nat} (h1:k<w.heap.size) (h2:k<lo\/hi<=k):w'.heap[k]? = w.heap[k]? :=h.2.2.2.2 k h1 h2
theorem Out.trans {lo hi:Nat} {a b c:World} (h:Out lo hi a b) (g:Out lo hi b c):Out lo hi a c:=
 ⟨g.1.trans h.1,g.2.1.trans h.2.1,g.2.2.1.trans h.2.2.1,Nat.le_trans h.size g.size,fun k h1 h2=>(g.block (Nat.lt_of_lt_of_le h1 h.size) h2).trans (h.block h1 h2)⟩
theorem Out.wide {lo hi lo' hi':Nat} {w w':World} (h:Out lo hi w w') (h1:lo'<=lo) (h2:hi<=hi'):Out lo' hi' w w':=
 ⟨h.1,h.2.1,h.2.2.1,h.size,fun k a b=>h.block a (by omega)⟩
theorem Out.past {x y lo hi:Nat} {a b c:World} (h:Out x y a b) (g:Out lo hi b c) (hl:a.heap.size<=lo):Out x y a c:=
 ⟨g.1.trans h.1,g.2.1.trans h.2.1,g.2.2.1.trans h.2.2.1,Nat.le_trans h.size g.size,fun k h1 h2=>(g.block (Nat.lt_of_lt_of_le h1 h.size) (.inl (by omega))).trans (h.block h1 h2)⟩
theorem Out.any {w w':World} (h:Out 0 0 w w') (lo hi:Nat):Out lo hi w w':=
 ⟨h.1,h.2.1,h.2.2.1,h.size,fun k h1 _=>h.block h1 (by omega)⟩
theorem Out.of_below {w w':World} (h:Below w.heap.size w w') (lo hi:Nat):Out lo hi w w':=⟨h.os,h.tape,h.output,h.size,fun k h1 _=>h.block k h1⟩
theorem Out.all {w w':World} (h:Out 0 0 w w'):Below w.heap.size w w':=⟨h.1,h.2.1,h.2.2.1,h.size,fun k hk=>h.block hk (by omega)⟩
theorem Out.drew {lo hi:Nat} {a w:World} (h:Out lo hi a w):Out lo hi a w.drew:=⟨h.1,h.2.1,h.2.2.1,h.size,h.2.2.2.2⟩
theorem Out.alloc {lo hi:Nat} {a w:World} (h:Out lo hi a w) (o:Obj):Out lo hi a (w.alloc o):=
 h.trans ⟨rfl,rfl,rfl,by simp,fun k h1 _=>Below.heap_alloc _ _ _ h1⟩
theorem Out.setCell {lo hi:Nat} {a w:World} (h:Out lo hi a w) {p:Addr} (hp:(lo<=p.block/\p.block<hi)\/a.heap.size<=p.block) (u:Value):Out lo hi a (w.setCell p u):=by
 refine⟨h.1,h.2.1,h.2.2.1,by have:=h.size;simpa [World.setCell] using this,fun k h1 h2=>?_⟩;rw[Below.heap_setCell _ _ _ _ (by omega)];exact h.block h1 h2
theorem Out.cell {lo hi:Nat} {w w':World} (h:Out lo hi w w') {b o:Nat} {v:Value} (hc:w.cell? ⟨b,o,none⟩=some v) (h2:b<lo\/hi<=b):w'.cell? ⟨b,o,none⟩=some v:=by
 have hb:b<w.heap.size:=by
  by_cases hb:b<w.heap.size
  ·exact hb
  ·have:w.heap[b]? = none:=by simp;omega
   simp[World.cell?,this] at hc
 rw[World.cell?_of_block (w:=w) (a:=⟨b,o,none⟩) (h.block hb h2)];exact hc
theorem Q4 {w:World} {b:Nat} {o:Obj} (h:w.heap[b]? = some o):b<w.heap.size:=(Array.getElem?_eq_some_iff.1 h).1
theorem Out.heap {lo hi:Nat} {w w':World} (h:Out lo hi w w') {b:Nat} {o:Obj} (hc:w.heap[b]? = some o) (h2:b<lo\/hi<=b):w'.heap[b]? = some o:=
 (h.block (Q4 hc) h2).trans hc
def Row (w:World) (b:Nat) (T:TypeId) (k:Nat) (f:Nat->Value):Prop:=
 ∃ c:Array Value,w.heap[b]? = some (.cells c T (0,0))/\k<=c.size/\∀ i,i<k->c[i]? = some (f i)
theorem Row.cell {w:World} {b k:Nat} {T:TypeId} {f:Nat->Value} (h:Row w b T k f) {i:Nat} (hi:i<k):w.cell? ⟨b,i,none⟩=some (f i):=by
 obtain⟨c,hb,_,hc⟩:=h;simp[World.cell?,hb,hc i hi]
theorem Row.frozen {w:World} {b k:Nat} {T:TypeId} {f:Nat->Value} (h:Row w b T k f) (i:Nat):w.frozen? ⟨b,i,none⟩=false:=by
 obtain⟨c,hb,_,_⟩:=h;simp[World.frozen?,hb]
theorem Row.lt {w:World} {b k:Nat} {T:TypeId} {f:Nat->Value} (h:Row w b T k f):b<w.heap.size:=by
 obtain⟨c,hb,_,_⟩:=h;exact Q4 hb
theorem Row.of_block {w w':World} {b k:Nat} {T:TypeId} {f:Nat->Value} (h:Row w b T k f) (e:w'.heap[b]? = w.heap[b]?):Row w' b T k f:=by
 obtain⟨c,hb,hn,hc⟩:=h;exact⟨c,e.trans hb,hn,hc⟩
theorem Row.kept {w w':World} {b k lo hi:Nat} {T:TypeId} {f:Nat->Value} (h:Row w b T k f) (g:Out lo hi w w') (h2:b<lo\/hi<=b):Row w' b T k f:=h.of_block (g.block h.lt h2)
theorem Row.congr {w:World} {b k:Nat} {T:TypeId} {f g:Nat->Value} (h:Row w b T k f) (e:∀ i,i<k->f i=g i):Row w b T k g:=by
 obtain⟨c,hb,hn,hc⟩:=h;exact⟨c,hb,hn,fun i hi=>by rw[hc i hi,e i hi]⟩
theorem Row.set {w:World} {b k:Nat} {T:TypeId} {f:Nat->Value} (h:Row w b T k f) (i:Nat) (v:Value):Row (w.setCell ⟨b,i,none⟩ v) b T k (fun j=>if j=i then v else f j):=by
 obtain⟨c,hb,hn,hc⟩:=h;refine⟨c.setIfInBounds i v,?_,by simpa using hn,fun j hj=>?_⟩
 ·simp[World.setCell,Array.getElem?_modify,hb]
 ·rw[Array.getElem?_setIfInBounds];by_cases e:j=i
  ·subst e;have:j<c.size:=by omega
   simp[this]
  ·rw[if_neg (fun h=>e h.symm)]
   show c[j]? = some (if j=i then v else f j)
   rw[if_neg e];exact hc j hj
theorem q9w {a b c:World} (h:Below a.heap.size a b) (g:Below b.heap.size b c):Below a.heap.size a c:=h.trans (g.mono h.size)
theorem G5 {P:Program} {f:FuncId} {args:Array Value} {w w0:World} {post:Ending->Prop} (h:Calls P f args w (fun e w'=>post e/\Below w.heap.size w w')) (h0:Below w0.heap.size w0 w) :
  Calls P f args w (fun e w'=>post e/\Below w0.heap.size w0 w'):=h.mono fun _ _ ⟨he,hb⟩=>⟨he,q9w h0 hb⟩
def wd (k:Int):Int:=[0,3,2,1,2,2,1,2,3,3,3,5,1,4].getD k.toNat 0
def mo (k:Int):Int:=[0,0,0,1023,4096,0,64,0,0,0,0,128,512,0].getD k.toNat 0
def Tab (w:World):Prop:=(∀ j:Nat,j<3->w.cell? ⟨2,j,none⟩=some (.int .i64 0)/\w.cell? ⟨1,j,none⟩=some (.int .i64 (if j=0 then 3 else 0))) ∧
 (∀ j:Nat,j<14->w.cell? ⟨0,j*2,none⟩=some (.int .i64 (wd j))/\w.cell? ⟨0,j*2+1,none⟩=some (.int .i64 (mo j))) ∧
 (∀ j,j<64->w.cell? ⟨3,j,none⟩=some (.int .u8 (Lib.deBruijn64tab.getD j 0)))
theorem z0a {w:World} {b o:Nat} {v:Value} (hc:w.cell? ⟨b,o,none⟩=some v):b<w.heap.size:=by
 by_cases hb:b<w.heap.size
 ·exact hb
 ·have:w.heap[b]? = none:=by simp;omega
  simp[World.cell?,this] at hc
theorem Tab.lt {w:World} (h:Tab w):4<=w.heap.size:=by
 have h1:=z0a (h.1 0 (by omega)).1;have h2:=z0a (h.1 0 (by omega)).2;have h3:=z0a (h.2.1 0 (by omega)).1;have h4:=z0a (h.2.2 0 (by omega));omega
theorem Tab.kept {w w':World} {lo hi:Nat} (h:Tab w) (g:Out lo hi w w') (h2:4<=lo\/hi=0):Tab w':=
 ⟨fun j hj=>⟨g.cell (h.1 j hj).1 (by omega),g.cell (h.1 j hj).2 (by omega)⟩,fun j hj=>⟨g.cell (h.2.1 j hj).1 (by omega),g.cell (h.2.1 j hj).2 (by omega)⟩,fun j hj=>g.cell (h.2.2 j hj) (by omega)⟩
theorem Tab.quiet {w w':World} (h:Tab w) (g:Out 0 0 w w'):Tab w':=h.kept g (.inr rfl)
theorem Tab.f {w:World} (h:Tab w):w.cell? ⟨2,0,none⟩=some (.int .i64 0)/\w.cell? ⟨2,1,none⟩=some (.int .i64 0)/\w.cell? ⟨2,2,none⟩=some (.int .i64 0):=⟨(h.1 0 (by omega)).1,(h.1 1 (by omega)).1,(h.1 2 (by omega)).1⟩
theorem Tab.r {w:World} (h:Tab w):w.cell? ⟨1,0,none⟩=some (.int .i64 3)/\w.cell? ⟨1,1,none⟩=some (.int .i64 0)/\w.cell? ⟨1,2,none⟩=some (.int .i64 0):=⟨(h.1 0 (by omega)).2,(h.1 1 (by omega)).2,(h.1 2 (by omega)).2⟩
def fld (p:Int × Int × Int) (j:Nat):Int:=if j=0 then p.1 else if j=1 then p.2.1 else p.2.2
def z2f (p:Int × Int × Int):Bool:=p.1 == 0
def PgOk (n:Nat) (S:Nat->Int × Int × Int) (i:Nat):Prop:=
 S i=(0,0,0)\/(∃ c:Int,0<=c/\c<=7/\S i=(1,c,0))\/(∃ k:Nat,1<=k/\k<=16/\i+k<=n/\S i=(2,0,(k:Int))/\∀ j,i<j->j<i+k->S j=(3,0,0)) ∨
  (S i=(3,0,0)/\∃ h k:Nat,h<i/\i<h+k/\S h=(2,0,(k:Int)))
def Good (n:Nat) (S:Nat->Int × Int × Int):Prop:=∀ i,i<n->PgOk n S i
theorem q2s (n:Nat):Good n (fun _=>(0,0,0)):=fun _ _=>.inl rfl
theorem Good.free {n i:Nat} {S:Nat->Int × Int × Int} (h:Good n S) (hi:i<n) (hf:z2f (S i)=true):S i=(0,0,0):=by
 unfold z2f at hf;rcases h i hi with e | ⟨c,_,_,e⟩ | ⟨k,_,_,_,e,_⟩ | ⟨e,_⟩
 ·exact e
 all_goals (rw[e] at hf;simp at hf)
theorem Good.cases {n i:Nat} {S:Nat->Int × Int × Int} (h:Good n S) (hi:i<n) :
  S i=(0,0,0)\/(∃ c:Int,0<=c/\c<=7/\S i=(1,c,0))\/(∃ k:Nat,1<=k/\k<=16/\i+k<=n/\S i=(2,0,(k:Int)))\/S i=(3,0,0):=by
 rcases h i hi with e | e | ⟨k,k1,k2,k3,e,_⟩ | ⟨e,_⟩
 ·exact .inl e
 ·exact .inr (.inl e)
 ·exact .inr (.inr (.inl ⟨k,k1,k2,k3,e⟩))
 ·exact .inr (.inr (.inr e))
def j0q (S:Nat->Int × Int × Int) (p n:Nat):Bool:=(List.range n).all fun i=>z2f (S (p+i))
theorem allF_iff {S:Nat->Int × Int × Int} {p n:Nat}:j0q S p n=true ↔ ∀ j,p<=j->j<p+n->z2f (S j)=true:=by
 unfold j0q;rw[List.all_eq_true];constructor
 ·intro h j h1 h2;have:=h (j-p) (by simp;omega);rwa [show p+(j-p)=j from by omega] at this
 ·intro h x hx;simp at hx;exact h _ (by omega) (by omega)
def U2 (S:Nat->Int × Int × Int) (n k:Nat):Option Nat:=(List.range n).find? fun p=>decide (p+k<=n) && j0q S p k
theorem z2l {f:Nat->Bool} {n p:Nat} (hp:p<n) (hf:f p=true) (hl:∀ q,q<p->f q=false):(List.range n).find? f=some p:=by
 rw[List.find?_range_eq_some];exact⟨hf,by simpa using hp,fun j hj=>by simp[hl j hj]⟩
theorem z2r {f:Nat->Bool} {n:Nat} (hl:∀ q,q<n->f q=false):(List.range n).find? f=none:=by
 rw[List.find?_eq_none];intro x hx;simp at hx;simp[hl x hx]
theorem G3 {S:Nat->Int × Int × Int} {n k p:Nat} (h:U2 S n k=some p):p<n/\p+k<=n/\j0q S p k=true/\∀ q,q<p->q+k<=n->j0q S q k=false:=by
 unfold U2 at h;rw[List.find?_range_eq_some] at h;obtain⟨h1,h2,h3⟩:=h;simp at h1 h2;refine⟨h2,h1.1,h1.2,fun q hq hk=>?_⟩;have:=h3 q hq;simp[hk] at this;exact this
theorem q9i {S:Nat->Int × Int × Int} {n k p:Nat} (h1:1<=k) (h2:p+k<=n) (h3:j0q S p k=true) (h4:∀ q,q<p->j0q S q k=false):U2 S n k=some p:=
 z2l (by omega) (by simp[h2,h3]) (fun q hq=>by simp[h4 q hq])
theorem j1j {S:Nat->Int × Int × Int} {n k:Nat} (h4:∀ q,q+k<=n->j0q S q k=false):U2 S n k=none:=
 z2r (fun q hq=>by by_cases h:q+k<=n <;> simp[h];exact h4 q h)
def RowInv (S:Nat->Int × Int × Int) (k i f:Nat):Prop:=
 f<=i/\f<k/\(∀ j,i-f<=j->j<i->z2f (S j)=true)/\(f=i\/z2f (S (i-f-1))=false)/\∀ q,q+k<=i->j0q S q k=false
theorem RowInv.start (S:Nat->Int × Int × Int) {k:Nat} (h:1<=k):RowInv S k 0 0:=⟨Nat.le_refl _,h,fun j _ h2=>by omega,.inl rfl,fun q hq=>by omega⟩
theorem q0k {S:Nat->Int × Int × Int} {p n j:Nat} (h1:p<=j) (h2:j<p+n) (h:z2f (S j)=false):j0q S p n=false:=by
 cases e:j0q S p n with
 | false=>rfl
 | true=>rw[allF_iff.1 e j h1 h2] at h;cases h
theorem RowInv.taken {S:Nat->Int × Int × Int} {k i f:Nat} (h:RowInv S k i f) (hi:z2f (S i)=false):RowInv S k (i+1) 0:=by
 obtain⟨h1,h2,h3,h4,h5⟩:=h;refine⟨by omega,by omega,fun j _ _=>by omega,.inr (by simpa using hi),fun q hq=>?_⟩;by_cases e:q+k<=i
 ·exact h5 q e
 ·exact q0k (j:=i) (by omega) (by omega) hi
theorem RowInv.more {S:Nat->Int × Int × Int} {k i f:Nat} (h:RowInv S k i f) (hi:z2f (S i)=true) (hf:f+1 ≠ k):RowInv S k (i+1) (f+1):=by
 obtain⟨h1,h2,h3,h4,h5⟩:=h;refine⟨by omega,by omega,fun j j1 j2=>?_,?_,fun q hq=>?_⟩
 ·by_cases e:j=i
  ·rw[e];exact hi
  ·exact h3 j (by omega) (by omega)
 ·rcases h4 with e | e
  ·left;omega
  ·right;rw[show i+1-(f+1)-1=i-f-1 from by omega];exact e
 ·by_cases e:q+k<=i
  ·exact h5 q e
  ·rcases h4 with e4 | e4
   ·omega
   ·by_cases e5:f=i
    ·omega
    ·exact q0k (j:=i-f-1) (by omega) (by omega) e4
theorem RowInv.found {S:Nat->Int × Int × Int} {k i f n:Nat} (h:RowInv S k i f) (hi:z2f (S i)=true) (hf:f+1=k) (hn:i<n):U2 S n k=some (i-f):=by
 obtain⟨h1,h2,h3,h4,h5⟩:=h;refine q9i (by omega) (by omega) (allF_iff.2 fun j j1 j2=>?_) (fun q hq=>h5 q (by omega));by_cases e:j=i
 ·rw[e];exact hi
 ·exact h3 j j1 (by omega)
theorem RowInv.none {S:Nat->Int × Int × Int} {k i f:Nat} (h:RowInv S k i f):U2 S i k=none:=j1j h.2.2.2.2
def U7 (c:Int):Bool:=decide (0<=c) && decide (c<=7)
def q4b (k:Int):Bool:=decide (1<=k) && decide (k<=16)
def setC (S:Nat->Int × Int × Int) (p:Nat) (c:Int):Nat->Int × Int × Int:=fun j=>if j=p then (1,c,0) else S j
def setR (S:Nat->Int × Int × Int) (p k:Nat):Nat->Int × Int × Int:=fun j=>if j=p then (2,0,(k:Int)) else if p<j/\j<p+k then (3,0,0) else S j
def setF (S:Nat->Int × Int × Int) (p k:Nat):Nat->Int × Int × Int:=fun j=>if p<=j/\j<p+k then (0,0,0) else S j
def tcP (S:Nat->Int × Int × Int) (n:Nat) (c:Int):Nat:=if U7 c then (U2 S n 1).getD 0 else 0
def tcE (S:Nat->Int × Int × Int) (n:Nat) (c:Int):Int:=if U7 c then (if (U2 S n 1).isSome then 0 else 20) else 1
def tcS (S:Nat->Int × Int × Int) (n:Nat) (c:Int):Nat->Int × Int × Int:=if U7 c then (match U2 S n 1 with | some p=>setC S p c | none=>S) else S
def trP (S:Nat->Int × Int × Int) (n:Nat) (k:Int):Nat:=if q4b k then (U2 S n k.toNat).getD 0 else 0
def trE (S:Nat->Int × Int × Int) (n:Nat) (k:Int):Int:=if q4b k then (if (U2 S n k.toNat).isSome then 0 else 20) else 1
def trS (S:Nat->Int × Int × Int) (n:Nat) (k:Int):Nat->Int × Int × Int:=if q4b k then (match U2 S n k.toNat with | some p=>setR S p k.toNat | none=>S) else S
def inB (n:Nat) (i:Int):Bool:=decide (0<=i) && decide (i<n)
def z4t (p:Int × Int × Int):Nat:=if p.1=2 then p.2.2.toNat else 1
def z4n (S:Nat->Int × Int × Int) (n:Nat) (i:Int):Bool:=inB n i && ((S i.toNat).1 == 1 || (S i.toNat).1 == 2)
def gvE (S:Nat->Int × Int × Int) (n:Nat) (i:Int):Int:=if z4n S n i then 0 else 1
def gvS (S:Nat->Int × Int × Int) (n:Nat) (i:Int):Nat->Int × Int × Int:=if z4n S n i then setF S i.toNat (z4t (S i.toNat)) else S
def stP (S:Nat->Int × Int × Int) (n:Nat) (i:Int):Int × Int × Int:=if inB n i then S i.toNat else (0,0,0)
theorem z7v {n p:Nat} {S:Nat->Int × Int × Int} {c:Int} (h:Good n S) (hp:S p=(0,0,0)) (h0:0<=c) (h7:c<=7):Good n (setC S p c):=by
 intro i hi;unfold setC;by_cases e:i=p
 ·exact .inr (.inl ⟨c,h0,h7,by simp[e]⟩)
 ·rcases h i hi with e1 | ⟨c',a,b,e1⟩ | ⟨k,k1,k2,k3,e1,hr⟩ | ⟨e1,a,k,ha,hk,e2⟩
  ·exact .inl (by simp[e,e1])
  ·exact .inr (.inl ⟨c',a,b,by simp[e,e1]⟩)
  ·refine .inr (.inr (.inl ⟨k,k1,k2,k3,by simp[e,e1],fun j j1 j2=>?_⟩));have:=hr j j1 j2;by_cases ej:j=p
   ·rw[ej,hp] at this;simp at this
   ·simp[ej,this]
  ·refine .inr (.inr (.inr ⟨by simp[e,e1],a,k,ha,hk,?_⟩));by_cases ej:a=p
   ·rw[ej,hp] at e2;simp at e2
   ·simp[ej,e2]
theorem z7u {n p k:Nat} {S:Nat->Int × Int × Int} (h:Good n S) (hp:∀ j,p<=j->j<p+k->S j=(0,0,0)) (h1:1<=k) (h2:k<=16) (h3:p+k<=n):Good n (setR S p k):=by
 have out:∀ j,(j<p\/p+k<=j)->setR S p k j=S j:=by
  intro j hj;unfold setR;rw[if_neg (by omega),if_neg (by omega)]
 have hd:setR S p k p=(2,0,(k:Int)):=by unfold setR;rw[if_pos rfl]
 have hr:∀ j,p<j->j<p+k->setR S p k j=(3,0,0):=by
  intro j a b;unfold setR;rw[if_neg (by omega),if_pos ⟨a,b⟩]
 have nz:∀ j,S j ≠ (0,0,0)->j<p\/p+k<=j:=by
  intro j hj;by_cases e:j<p\/p+k<=j
  ·exact e
  ·exact absurd (hp j (by omega) (by omega)) hj
 intro i hi;by_cases e:i=p
 ·subst e;exact .inr (.inr (.inl ⟨k,h1,h2,h3,hd,hr⟩))
 ·by_cases e':p<i/\i<p+k
  ·exact .inr (.inr (.inr ⟨hr i e'.1 e'.2,p,k,e'.1,e'.2,hd⟩))
  ·have eo:=out i (by omega);rcases h i hi with e1 | ⟨c',a,b,e1⟩ | ⟨k',k1,k2,k3,e1,hr'⟩ | ⟨e1,a,k',ha,hk,e2⟩
   ·exact .inl (by rw[eo,e1])
   ·exact .inr (.inl ⟨c',a,b,by rw[eo,e1]⟩)
   ·refine .inr (.inr (.inl ⟨k',k1,k2,k3,by rw[eo,e1],fun j j1 j2=>?_⟩));have:=hr' j j1 j2;rw[out j (nz j (by rw[this];simp)),this]
   ·exact .inr (.inr (.inr ⟨by rw[eo,e1],a,k',ha,hk,by rw[out a (nz a (by rw[e2];simp)),e2]⟩))
theorem z5j {n p:Nat} {S:Nat->Int × Int × Int} (h:Good n S) (hp:p<n) (hk:(S p).1=1\/(S p).1=2) :
  1<=z4t (S p)/\z4t (S p)<=16/\p+z4t (S p)<=n/\(∀ j,p<j->j<p+z4t (S p)->S j=(3,0,0))/\(((S p).1=1/\z4t (S p)=1/\(S p).2.2=0)\/((S p).1=2/\(S p).2.2=(z4t (S p):Nat))):=by
 rcases h p hp with e | ⟨c,_,_,e⟩ | ⟨k,k1,k2,k3,e,hr⟩ | ⟨e,_⟩
 ·rw[e] at hk;simp at hk
 ·rw[e];have:z4t (1,c,0)=1:=by unfold z4t;simp
  rw[this];exact⟨by omega,by omega,by omega,fun j j1 j2=>by omega,.inl ⟨rfl,rfl,rfl⟩⟩
 ·rw[e];have:z4t (2,0,(k:Int))=k:=by unfold z4t;simp
  rw[this];exact⟨k1,k2,k3,hr,.inr ⟨rfl,rfl⟩⟩
 ·rw[e] at hk;simp at hk
theorem q2q {n p:Nat} {S:Nat->Int × Int × Int} (h:Good n S) (hp:p<n) (hk:(S p).1=1\/(S p).1=2):Good n (setF S p (z4t (S p))):=by
 obtain⟨l1,l2,l3,hrest,hkind⟩:=z5j h hp hk;generalize hL:z4t (S p)=L at *
 have out:∀ j,(j<p\/p+L<=j)->setF S p L j=S j:=by
  intro j hj;unfold setF;rw[if_neg (by omega)]
 intro i hi;by_cases e:p<=i/\i<p+L
 ·left;unfold setF;rw[if_pos e]
 ·have eo:=out i (by omega);rcases h i hi with e1 | ⟨c',a,b,e1⟩ | ⟨k',k1,k2,k3,e1,hr'⟩ | ⟨e1,a,k',ha,hk',e2⟩
  ·exact .inl (by rw[eo,e1])
  ·exact .inr (.inl ⟨c',a,b,by rw[eo,e1]⟩)
  ·refine .inr (.inr (.inl ⟨k',k1,k2,k3,by rw[eo,e1],fun j j1 j2=>?_⟩));have hj:=hr' j j1 j2;rw[out j ?_,hj];by_cases hp':i<p
   ·have:¬ (p<i+k'):=fun hlt=>by
     have:=hr' p hp' hlt;rw[this] at hk;simp at hk
    omega
   ·omega
  ·refine .inr (.inr (.inr ⟨by rw[eo,e1],a,k',ha,hk',?_⟩));rw[out a ?_,e2];by_cases ea:a<p\/p+L<=a
   ·exact ea
   ·exfalso
    by_cases ep:a=p
    ·subst ep;have hl2:(S a).2.2=(k':Int):=by rw[e2]
     rcases hkind with ⟨q1,q2,q3⟩ | ⟨q1,q2⟩
     ·rw[e2] at q1;simp at q1
     ·rw[q2] at hl2;have:L=k':=by omega
      omega
    ·have:=hrest a (by omega) (by omega);rw[e2] at this;simp at this
def q2b (S:Nat->Int × Int × Int) (i:Nat):Value:=.int .i64 (fld (S (i / 3)) (i % 3))
def PRow (w:World) (b n:Nat) (S:Nat->Int × Int × Int):Prop:=Row w b 147 (n*3) (q2b S)
theorem PRow.cells {w:World} {b n i:Nat} {S:Nat->Int × Int × Int} (h:PRow w b n S) (hi:i<n) :
  w.cell? ⟨b,i*3,none⟩=some (.int .i64 (S i).1)/\w.cell? ⟨b,i*3+1,none⟩=some (.int .i64 (S i).2.1)/\w.cell? ⟨b,i*3+2,none⟩=some (.int .i64 (S i).2.2):=by
 refine⟨?_,?_,?_⟩
 ·rw[Row.cell h (i:=i*3) (by omega)];unfold q2b;rw[show i*3 / 3=i from by omega,show i*3 % 3=0 from by omega];rfl
 ·rw[Row.cell h (i:=i*3+1) (by omega)];unfold q2b;rw[show (i*3+1) / 3=i from by omega,show (i*3+1) % 3=1 from by omega];rfl
 ·rw[Row.cell h (i:=i*3+2) (by omega)];unfold q2b;rw[show (i*3+2) / 3=i from by omega,show (i*3+2) % 3=2 from by omega];rfl
def setP (S:Nat->Int × Int × Int) (p:Nat) (x:Int × Int × Int):Nat->Int × Int × Int:=fun j=>if j=p then x else S j
theorem PRow.set {w:World} {b n:Nat} {S:Nat->Int × Int × Int} (h:PRow w b n S) (i:Nat) (k c r:Int) :
  PRow (((w.setCell ⟨b,i*3,none⟩ (.int .i64 k)).setCell ⟨b,i*3+1,none⟩ (.int .i64 c)).setCell ⟨b,i*3+2,none⟩ (.int .i64 r)) b n (setP S i (k,c,r)):=by
 refine Row.congr (((Row.set h (i*3) (.int .i64 k)).set (i*3+1) (.int .i64 c)).set (i*3+2) (.int .i64 r)) fun j hj=>?_
 unfold q2b setP;by_cases e:j / 3=i
 ·rw[if_pos e];have hm:j % 3=0\/j % 3=1\/j % 3=2:=by omega
  rcases hm with hm | hm | hm
  ·rw[if_neg (by omega),if_neg (by omega),if_pos (by omega),hm];rfl
  ·rw[if_neg (by omega),if_pos (by omega),hm];rfl
  ·rw[if_pos (by omega),hm];rfl
 ·rw[if_neg e,if_neg (by omega),if_neg (by omega),if_neg (by omega)]
theorem PRow.kept {w w':World} {b n lo hi:Nat} {S:Nat->Int × Int × Int} (h:PRow w b n S) (g:Out lo hi w w') (h2:b<lo\/hi<=b):PRow w' b n S:=Row.kept h g h2
theorem Out.set3 {lo hi:Nat} {a w:World} (h:Out lo hi a w) {b o:Nat} (hp:(lo<=b/\b<hi)\/a.heap.size<=b) (x y z:Value):Out lo hi a (((w.setCell ⟨b,o,none⟩ x).setCell ⟨b,o+1,none⟩ y).setCell ⟨b,o+2,none⟩ z):=
 ((h.setCell (p:=⟨b,o,none⟩) hp x).setCell (p:=⟨b,o+1,none⟩) hp y).setCell (p:=⟨b,o+2,none⟩) hp z
def TblAt (T:TypeId) (w:World) (b bw n:Nat) (S:Nat->Int × Int × Int):Prop:=
 ∃ cap,w.heap[b]? = some (.cells #[.slice (some ⟨bw,0,none⟩) n cap] T (0,0))/\n<=cap/\bw ≠ b/\4<=b/\4<=bw/\1<=n/\n<=4096/\Good n S/\PRow w bw n S
theorem TblAt.kept {T:TypeId} {w w':World} {b bw n lo hi:Nat} {S:Nat->Int × Int × Int} (h:TblAt T w b bw n S) (g:Out lo hi w w') (h1:b<lo\/hi<=b) (h2:bw<lo\/hi<=bw):TblAt T w' b bw n S:=by
 obtain⟨cap,hb,k1,k2,k3,k4,k5,k6,k7,hr⟩:=h;exact⟨cap,g.heap hb h1,k1,k2,k3,k4,k5,k6,k7,hr.kept g h2⟩
theorem TblAt.quiet {T:TypeId} {w w':World} {b bw n:Nat} {S:Nat->Int × Int × Int} (h:TblAt T w b bw n S) (g:Out 0 0 w w'):TblAt T w' b bw n S:=h.kept g z0 z0
theorem TblAt.cell {T:TypeId} {w:World} {b bw n:Nat} {S:Nat->Int × Int × Int} (h:TblAt T w b bw n S):∃ cap,w.cell? ⟨b,0,none⟩=some (.slice (some ⟨bw,0,none⟩) n cap)/\n<=cap:=by
 obtain⟨cap,hb,k1,_⟩:=h;exact⟨cap,by simp[World.cell?,hb],k1⟩
theorem TblAt.row {T:TypeId} {w:World} {b bw n:Nat} {S:Nat->Int × Int × Int} (h:TblAt T w b bw n S):PRow w bw n S:=by obtain⟨cap,hb,k1,k2,k3,k4,k5,k6,k7,hr⟩:=h;exact hr
theorem TblAt.good {T:TypeId} {w:World} {b bw n:Nat} {S:Nat->Int × Int × Int} (h:TblAt T w b bw n S):Good n S:=by obtain⟨cap,hb,k1,k2,k3,k4,k5,k6,k7,hr⟩:=h;exact k7
theorem TblAt.nums {T:TypeId} {w:World} {b bw n:Nat} {S:Nat->Int × Int × Int} (h:TblAt T w b bw n S):1<=n/\n<=4096/\4<=b/\4<=bw/\bw ≠ b/\b<w.heap.size/\bw<w.heap.size:=by
 obtain⟨cap,hb,k1,k2,k3,k4,k5,k6,k7,hr⟩:=h;exact⟨k5,k6,k3,k4,k2,Q4 hb,Row.lt hr⟩
theorem TblAt.turn {T:TypeId} {w w':World} {b bw n:Nat} {S S':Nat->Int × Int × Int} (h:TblAt T w b bw n S) (g:Out bw (bw+1) w w') (hr:PRow w' bw n S') (hg:Good n S'):TblAt T w' b bw n S':=by
 obtain⟨cap,hb,k1,k2,k3,k4,k5,k6,k7,_⟩:=h;exact⟨cap,g.heap hb (by omega),k1,k2,k3,k4,k5,k6,hg,hr⟩
theorem z7x {w:World} {b n cap:Nat} {a:Option Addr} (c0:w.cell? ⟨b,0,none⟩=some (.slice a n cap)) :
  Calls Tryz.prog 132 #[.pointer (some ⟨b,0,none⟩)] w fun e w'=>e=.returned (.slice a n cap)/\w'=w:=by
 go_enter Tryz.func132,Tryz.ntmps132
 go_wp2;go_ret;exact⟨rfl,rfl⟩
theorem j4i {w:World} {b n cap:Nat} {a:Option Addr} (c0:w.cell? ⟨b,0,none⟩=some (.slice a n cap)) :
  Calls Tryz.prog 164 #[.pointer (some ⟨b,0,none⟩)] w fun e w'=>e=.returned (.int .i64 n)/\w'=w:=by
 have H:=Z0 (z7x c0);clear c0;go_enter Tryz.func164,Tryz.ntmps164
 go_wp2_with (go_at_call 132;refine Z5 H.out ?_);go_ret;exact⟨rfl,rfl⟩
theorem PRow.page {w:World} {b n i:Nat} {S:Nat->Int × Int × Int} {x y z:Int} (h:PRow w b n S) (hi:i<n) (e:S i=(x,y,z)) :
  w.cell? ⟨b,i*3,none⟩=some (.int .i64 x)/\w.cell? ⟨b,i*3+1,none⟩=some (.int .i64 y)/\w.cell? ⟨b,i*3+2,none⟩=some (.int .i64 z):=by
 have:=h.cells hi;rw[e] at this;exact this
theorem z1c (p:Int × Int × Int):∃ x y z,p=(x,y,z):=⟨p.1,p.2.1,p.2.2,rfl⟩
theorem q5g {w:World} {b bw n cap:Nat} {S:Nat->Int × Int × Int} (c0:w.cell? ⟨b,0,none⟩=some (.slice (some ⟨bw,0,none⟩) n cap)) (hT:Tab w) (hn:1<=n/\n<=4096) (hr:PRow w bw n S) (hg:Good n S) (k:Nat) (hk:1<=k) (hk2:k<=16) :
  Calls Tryz.prog 152 #[.pointer (some ⟨b,0,none⟩),.int .i64 k] w fun e w'=>e=.returned (.tuple #[.int .i64 ((U2 S n k).getD 0:Nat),.bool (U2 S n k).isSome])/\Out 0 0 w w':=by
 have H:=Z0 (z7x c0);have HT:=Z0 hT;have HR:=Z0 hr;have HG:=Z0 hg;have HN:=Z0 hn;have HK:Hid (1<=k/\k<=16):=⟨hk,hk2⟩
 obtain⟨a,ha⟩:∃ a,U2 S n k=a:=⟨_,rfl⟩
 have HA:=Z0 ha;rw[ha];clear c0 hT hr hg hn hk hk2 ha;go_enter Tryz.func152,Tryz.ntmps152
 go_wp2_with (go_at_call 132;refine Z5 H.out ?_);go_loopw [6,12] (fun x y wr=>∃ i f:Nat,i<=n/\x=.int .i64 f/\y=.int .i64 i/\RowInv S k i f/\Out 0 0 w wr) (fun _ y _=>n-(intOf y).toNat)
 case atStart=>exact⟨0,0,Nat.zero_le _,rfl,rfl,RowInv.start S HK.out.1,Out.refl _ _ _⟩
 case round=>
  obtain⟨i,f,i1,rfl,rfl,hv,ho⟩:=hrel;have HV:=Z0 hv;have HO:=Z0 ho;obtain⟨f0,f1,f2⟩:=(HT.out.quiet ho).f;have b0:(0:Int)<=(i:Int):=by omega
  have b5:(i:Int)<=4096:=by have:=HN.out;omega
  have b6:(0:Int)<=(f:Int)/\(f:Int)<16:=by have:=hv.2.1;have:=HK.out;omega
  obtain⟨b7,b8⟩:=b6;by_cases hi:i<n
  ·have b1:(i:Int)<(n:Int):=by omega
   have HO2:Hid (∀ c,Out 0 0 w (wr.alloc c)):=fun c=>ho.alloc c
   obtain⟨x,y,z,hp⟩:=z1c (S i);obtain⟨q0,q1,q2⟩:=(HR.out.kept ho z0).page hi hp;obtain⟨g0,g1,g2⟩:=(HT.out.quiet (ho.alloc (.cells #[.int .i64 x,.int .i64 y,.int .i64 z] 147))).f;by_cases hf:z2f (S i)=true
   ·have e:=HG.out.free hi hf;rw[hp] at e;cases e;by_cases hk:f+1=k
    ·have hres:=hv.found hf hk hi;rw[HA.out] at hres;subst hres;have HE:Hid (f<=i):=hv.1;subst hk;clear hv ho hp hf HV HO;go_wp2;go_ret2;refine⟨z9a ?_ rfl,HO2.out _⟩
     show ((i:Int)+1-((f:Int)+1))=((i-f:Nat):Int)
     have:=HE.out;omega
    ·have HV2:=Z0 (hv.more hf hk);have ek:((f:Int)+1 == (k:Int))=false:=by simp;omega
     clear hv ho hp hf HV HO hk;go_wp2;go_roundw
     case rel=>exact⟨i+1,f+1,by omega,by go_num,by go_num,HV2.out,HO2.out _⟩
     case measure=>simp[intOf];omega
   ·have hf':z2f (S i)=false:=by simpa using hf
    have HV2:=Z0 (hv.taken hf');have hx:(x == 0)=false:=by have:=hf';rw[hp] at this;exact this
    clear hv ho hp hf HV HO hf';go_wp2;go_roundw
    case rel=>exact⟨i+1,0,by omega,by go_num,by go_num,HV2.out,HO2.out _⟩
    case measure=>simp[intOf];omega
  ·have:i=n:=by omega
   subst this;have hres:=hv.none;rw[HA.out] at hres;subst hres;clear hv ho hi HV;go_wp2;go_ret2;exact⟨rfl,HO.out⟩
end Go.Proofs.YtjbbkeoolodeaabGreatDoor
