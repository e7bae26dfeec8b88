import Derived.Deep.RegionHeld3
import Derived.Deep.OwnRows
import Derived.Test.YtjgnogflgoihfaaGreatDoorRows
import Derived.Test.YtjgnogflgoihfaaGreatDoorChecked
import Derived.Lib.TrailingZeros
import Derived.Test.YtjgnogflgoihfaaGreatDoorTie
import Derived.LaidMore
import Derived.SevenTiedAt
import Derived.Lib.SmallJoins
set_option linter.unusedSimpArgs false
set_option linter.unusedVariables false
set_option maxHeartbeats 16000000
set_option maxRecDepth 100000
namespace Go.Proofs.YtjgnogflgoihfaaGreatDoor
open Go.RowKit
abbrev Iz (x:Int):Value:=.int .i64 x
abbrev Pq (g:Nat):Value:=.pointer (some ⟨g,0,none⟩)
abbrev Vz (a b:Int):Value:=.agg #[Iz a,Iz b]
abbrev Wz (a b c d e:Int):Value:=.agg #[Iz a,Iz b,Iz c,Iz d,Iz e]
abbrev Dz (a b:Int) (T:TypeId):Obj:=.cells #[Iz a,Iz b] T
abbrev Ez (a b c d e:Int) (T:TypeId):Obj:=.cells #[Iz a,Iz b,Iz c,Iz d,Iz e] T
abbrev cq (w:World) (g i:Nat):Option Value:=w.cell? ⟨g,i,none⟩
abbrev Sz (g n c:Nat):Value:=.slice (some ⟨g,0,none⟩) n c
theorem Oz {P:Prop} {n:Nat}:P ∨ 0 ≤ n:=.inr (Nat.zero_le _)
theorem Lz {n:Nat} {P:Prop}:(n ≤ n ∧ n < n+1) ∨ P:=.inl ⟨Nat.le_refl _,Nat.lt_succ_self _⟩
abbrev Kz:=@Calls Tryz.prog
theorem xa {α:Type} {l:List α} {i:Nat} (h:i<l.toArray.size):l.toArray[i]=l[i]'(by simpa using h):=by simp
theorem xb {α:Type} (a:α) (ys:List α) (h:0<(a :: ys).length):(a :: ys)[0]=a:=rfl
theorem xc {α:Type} (a:α) (ys:List α) (i:Nat) (h:i+1<(a :: ys).length):(a :: ys)[i+1]=ys[i]'(Nat.lt_of_succ_lt_succ h):=rfl
theorem xd {α:Type} {l:List α} {i:Nat} {a:α}:l.toArray.setIfInBounds i a=(l.set i a).toArray:=by simp
theorem xe {α:Type} {x:α} {xs:List α} {a:α}:(x :: xs).set 0 a=a :: xs:=rfl
theorem xf {α:Type} {x:α} {xs:List α} {n:Nat} {a:α}:(x :: xs).set (n+1) a=x :: xs.set n a:=rfl
theorem tk (i:Nat) {P:Program} {md:Region.Mode} {ops:Array Oper} {Q:Exit->Act->World->Prop} {S:World->Prop} {oi:Oper} {v:Value} {fuel:Nat} {aL l':Array Bool} {a a':Act} {w:World}
  (h:wpAnyH P md ops Q S fuel l' a' w) (hi:ops[i]? = some oi:=by exact rfl) (hs:Region.noSelect ops=true:=by kernel_rfl) (hf:Region.free md ops aL i=true:=by kernel_rfl) (hr:(Region.ready md ops aL).contains i=true:=by kernel_rfl)
  (hw:Region.wanted oi (yielded ops a.tmps)=true:=by rfl)
  (hy:∀ w,S w->(execOp a.eval oi).run P w=.ok (.value v) w:=by intro w hSw;(try dsimp only at hSw);simp only[List.getElem_toArray,List.getElem_cons_zero,List.getElem_cons_succ];go_simp;(try with_reducible rfl))
  (hS:S w:=by assumption)
  (hl:aL.setIfInBounds i true=l':=by (try simp only[List.setIfInBounds_toArray,List.set_cons_zero,List.set_cons_succ]);exact rfl)
  (ha:a.put oi.dst v=a':=by (try simp only[Act.put,List.getElem_toArray,List.getElem_cons_zero,List.getElem_cons_succ,List.setIfInBounds_toArray,List.set_cons_zero,List.set_cons_succ]);exact rfl)
  (hQ:∀ c a w,Q (.panic c) (a.put oi.dst v) w->Q (.panic c) a w:=by exact fun _ _ _ h=>h):wpAnyH P md ops Q S (fuel+1) aL a w:=by
 subst hl ha;exact wpAnyH_take hi hs hf hr hQ (Or.inl ⟨hw,hy⟩) hS h
theorem sk (i:Nat) {P:Program} {md:Region.Mode} {ops:Array Oper} {Q:Exit->Act->World->Prop} {S:World->Prop} {oi:Oper} {fuel:Nat} {aL l':Array Bool} {a a':Act} {w:World}
  (h:wpAnyH P md ops Q S fuel l' a' w) (hi:ops[i]? = some oi:=by exact rfl) (hs:Region.noSelect ops=true:=by kernel_rfl) (hf:Region.free md ops aL i=true:=by kernel_rfl) (hr:(Region.ready md ops aL).contains i=true:=by kernel_rfl)
  (hw:Region.wanted oi (yielded ops a.tmps)=false:=by rfl) (hS:S w:=by assumption)
  (hl:aL.setIfInBounds i true=l':=by (try simp only[List.setIfInBounds_toArray,List.set_cons_zero,List.set_cons_succ]);exact rfl)
  (ha:a.put oi.dst undef=a':=by (try simp only[Act.put,List.getElem_toArray,List.getElem_cons_zero,List.getElem_cons_succ,List.setIfInBounds_toArray,List.set_cons_zero,List.set_cons_succ]);exact rfl)
  (hQ:∀ c a w,Q (.panic c) (a.put oi.dst undef) w->Q (.panic c) a w:=by exact fun _ _ _ h=>h):wpAnyH P md ops Q S (fuel+1) aL a w:=by
 subst hl ha;exact wpAnyH_take hi hs hf hr hQ (Or.inr ⟨hw,rfl⟩) hS h
theorem rd1 (i:Nat) {P:Program} {md:Region.Mode} {ops:Array Oper} {Q:Exit->Act->World->Prop} {S:World->Prop} {fuel:Nat} {aL:Array Bool} {a a':Act} {w:World} {li:Array Bool} {oi:Oper}
  (hi:∀ K':Act->World->Prop,Shut (∀ a w,S w->(S w->wpAnyH P md ops Q S fuel li a w)->K' a w)->if Region.wanted oi (yielded ops a'.tmps)=true then Oper.wp P oi a' w K' Q else K' (a'.put oi.dst undef) w)
  (hr:Region.ready md ops aL=[i]:=by kernel_rfl) (qi:ops[i]? = some oi:=by exact rfl)
  (pi:aL.setIfInBounds i true=li:=by (try simp only[List.setIfInBounds_toArray,List.set_cons_zero,List.set_cons_succ]);exact rfl)
  (ha:a=a':=by (try simp only[Act.put,xa,xb,xc,xd,xe,xf]);exact rfl):wpAnyH P md ops Q S (fuel+1) aL a w:=by
 subst ha pi;exact wpAnyH_ready hr (by simp) (AllReadyH.cons qi hi AllReadyH.nil)
theorem rd2 (i j:Nat) {P:Program} {md:Region.Mode} {ops:Array Oper} {Q:Exit->Act->World->Prop} {S:World->Prop} {fuel:Nat} {aL:Array Bool} {a a':Act} {w:World} {li lj:Array Bool} {oi oj:Oper}
  (hi:∀ K':Act->World->Prop,Shut (∀ a w,S w->(S w->wpAnyH P md ops Q S fuel li a w)->K' a w)->if Region.wanted oi (yielded ops a'.tmps)=true then Oper.wp P oi a' w K' Q else K' (a'.put oi.dst undef) w)
  (hj:∀ K':Act->World->Prop,Shut (∀ a w,S w->(S w->wpAnyH P md ops Q S fuel lj a w)->K' a w)->if Region.wanted oj (yielded ops a'.tmps)=true then Oper.wp P oj a' w K' Q else K' (a'.put oj.dst undef) w)
  (hr:Region.ready md ops aL=[i,j]:=by kernel_rfl) (qi:ops[i]? = some oi:=by exact rfl) (qj:ops[j]? = some oj:=by exact rfl)
  (pi:aL.setIfInBounds i true=li:=by (try simp only[List.setIfInBounds_toArray,List.set_cons_zero,List.set_cons_succ]);exact rfl) (pj:aL.setIfInBounds j true=lj:=by (try simp only[List.setIfInBounds_toArray,List.set_cons_zero,List.set_cons_succ]);exact rfl)
  (ha:a=a':=by (try simp only[Act.put,xa,xb,xc,xd,xe,xf]);exact rfl):wpAnyH P md ops Q S (fuel+1) aL a w:=by
 subst ha pi pj;exact wpAnyH_ready hr (by simp) (AllReadyH.cons qi hi (AllReadyH.cons qj hj AllReadyH.nil))
theorem rd3 (i j k:Nat) {P:Program} {md:Region.Mode} {ops:Array Oper} {Q:Exit->Act->World->Prop} {S:World->Prop} {fuel:Nat} {aL:Array Bool} {a a':Act} {w:World} {li lj lk:Array Bool} {oi oj ok:Oper}
  (hi:∀ K':Act->World->Prop,Shut (∀ a w,S w->(S w->wpAnyH P md ops Q S fuel li a w)->K' a w)->if Region.wanted oi (yielded ops a'.tmps)=true then Oper.wp P oi a' w K' Q else K' (a'.put oi.dst undef) w)
  (hj:∀ K':Act->World->Prop,Shut (∀ a w,S w->(S w->wpAnyH P md ops Q S fuel lj a w)->K' a w)->if Region.wanted oj (yielded ops a'.tmps)=true then Oper.wp P oj a' w K' Q else K' (a'.put oj.dst undef) w)
  (hk:∀ K':Act->World->Prop,Shut (∀ a w,S w->(S w->wpAnyH P md ops Q S fuel lk a w)->K' a w)->if Region.wanted ok (yielded ops a'.tmps)=true then Oper.wp P ok a' w K' Q else K' (a'.put ok.dst undef) w)
  (hr:Region.ready md ops aL=[i,j,k]:=by kernel_rfl) (qi:ops[i]? = some oi:=by exact rfl) (qj:ops[j]? = some oj:=by exact rfl) (qk:ops[k]? = some ok:=by exact rfl)
  (pi:aL.setIfInBounds i true=li:=by (try simp only[List.setIfInBounds_toArray,List.set_cons_zero,List.set_cons_succ]);exact rfl) (pj:aL.setIfInBounds j true=lj:=by (try simp only[List.setIfInBounds_toArray,List.set_cons_zero,List.set_cons_succ]);exact rfl) (pk:aL.setIfInBounds k true=lk:=by (try simp only[List.setIfInBounds_toArray,List.set_cons_zero,List.set_cons_succ]);exact rfl)
  (ha:a=a':=by (try simp only[Act.put,xa,xb,xc,xd,xe,xf]);exact rfl):wpAnyH P md ops Q S (fuel+1) aL a w:=by
 subst ha pi pj pk;exact wpAnyH_ready hr (by simp) (AllReadyH.cons qi hi (AllReadyH.cons qj hj (AllReadyH.cons qk hk AllReadyH.nil)))
theorem rd4 (i j k l:Nat) {P:Program} {md:Region.Mode} {ops:Array Oper} {Q:Exit->Act->World->Prop} {S:World->Prop} {fuel:Nat} {aL:Array Bool} {a a':Act} {w:World} {li lj lk ll:Array Bool} {oi oj ok ol:Oper}
  (hi:∀ K':Act->World->Prop,Shut (∀ a w,S w->(S w->wpAnyH P md ops Q S fuel li a w)->K' a w)->if Region.wanted oi (yielded ops a'.tmps)=true then Oper.wp P oi a' w K' Q else K' (a'.put oi.dst undef) w)
  (hj:∀ K':Act->World->Prop,Shut (∀ a w,S w->(S w->wpAnyH P md ops Q S fuel lj a w)->K' a w)->if Region.wanted oj (yielded ops a'.tmps)=true then Oper.wp P oj a' w K' Q else K' (a'.put oj.dst undef) w)
  (hk:∀ K':Act->World->Prop,Shut (∀ a w,S w->(S w->wpAnyH P md ops Q S fuel lk a w)->K' a w)->if Region.wanted ok (yielded ops a'.tmps)=true then Oper.wp P ok a' w K' Q else K' (a'.put ok.dst undef) w)
  (hl:∀ K':Act->World->Prop,Shut (∀ a w,S w->(S w->wpAnyH P md ops Q S fuel ll a w)->K' a w)->if Region.wanted ol (yielded ops a'.tmps)=true then Oper.wp P ol a' w K' Q else K' (a'.put ol.dst undef) w)
  (hr:Region.ready md ops aL=[i,j,k,l]:=by kernel_rfl) (qi:ops[i]? = some oi:=by exact rfl) (qj:ops[j]? = some oj:=by exact rfl) (qk:ops[k]? = some ok:=by exact rfl) (ql:ops[l]? = some ol:=by exact rfl)
  (pi:aL.setIfInBounds i true=li:=by (try simp only[List.setIfInBounds_toArray,List.set_cons_zero,List.set_cons_succ]);exact rfl) (pj:aL.setIfInBounds j true=lj:=by (try simp only[List.setIfInBounds_toArray,List.set_cons_zero,List.set_cons_succ]);exact rfl) (pk:aL.setIfInBounds k true=lk:=by (try simp only[List.setIfInBounds_toArray,List.set_cons_zero,List.set_cons_succ]);exact rfl) (pl:aL.setIfInBounds l true=ll:=by (try simp only[List.setIfInBounds_toArray,List.set_cons_zero,List.set_cons_succ]);exact rfl)
  (ha:a=a':=by (try simp only[Act.put,xa,xb,xc,xd,xe,xf]);exact rfl):wpAnyH P md ops Q S (fuel+1) aL a w:=by
 subst ha pi pj pk pl;exact wpAnyH_ready hr (by simp) (AllReadyH.cons qi hi (AllReadyH.cons qj hj (AllReadyH.cons qk hk (AllReadyH.cons ql hl AllReadyH.nil))))
theorem dn {P:Program} {md:Region.Mode} {ops:Array Oper} {Q:Exit->Act->World->Prop} {S:World->Prop} {fuel:Nat} {aL:Array Bool} {a a':Act} {w:World} (h:Q .normal a' w) (hr:Region.ready md ops aL=[]:=by kernel_rfl) (ha:a=a':=by (try simp only[Act.put,xa,xb,xc,xd,xe,xf]);exact rfl):wpAnyH P md ops Q S fuel aL a w:=by
 subst ha;exact wpAnyH_done hr h _
theorem z1 {n:Nat} {P:Prop}:(n<=n/\n<n+1)\/P:=.inl ⟨Nat.le_refl _,Nat.lt_succ_self _⟩
theorem z0 {P:Prop} {n:Nat}:P\/0<=n:=.inr (Nat.zero_le _)
theorem Q3 {p:Prop} (h:p):Hid p:=h
theorem G4 {k:IntKind} {a b:Int} (h:a=b):Ending.returned (.int k a)=.returned (.int k b):=by rw[h]
theorem U9 {a b:Bool} (h:a=b):Ending.returned (.bool a)=.returned (.bool b):=by rw[h]
theorem z9j {k:IntKind} {a b:Int} {p q:Bool} (h:a=b) (g:p=q):Ending.returned (.tuple #[.int k a,.bool p])=.returned (.tuple #[.int k b,.bool q]):=by rw[h,g]
theorem Q4 {f:FuncId} {args:Array Value} {v:Value} {w:World} {Q:Ending->World->Prop} (h:Calls Tryz.prog f args w (fun e w'=>e=.returned v/\w'=w)) (hq:Q (.returned v) w):Calls Tryz.prog f args w Q:=
 h.mono fun _ _ ⟨he,hw⟩=>by rw[he,hw];exact hq
theorem G8 {n:Int} (h:(Lit.int .i64 n).wf=true):-9223372036854775808<=n/\n<=9223372036854775807:=by
 simpa [Lit.wf,IntKind.min,IntKind.max,IntKind.signed,IntKind.bits] using h
def Out (lo hi:Nat) (w w':World):Prop:=
 w'.os=w.os/\w'.tape=w.tape/\w'.output=w.output/\w.heap.size<=w'.heap.size/\∀ k,k<w.heap.size->(k<lo\/hi<=k)->w'.heap[k]? = w.heap[k]?
theorem Out.refl (lo hi:Nat) (w:World):Out lo hi w w:=⟨rfl,rfl,rfl,Nat.le_refl _,fun _ _ _=>rfl⟩
theorem Out.size {lo hi:Nat} {w w':World} (h:Out lo hi w w'):w.heap.size<=w'.heap.size:=h.2.2.2.1
theorem Out.block {lo hi:Nat} {w w':World} (h:Out lo hi w w') {k:Nat} (h1:k<w.heap.size) (h2:k<lo\/hi<=k):w'.heap[k]? = w.heap[k]? :=h.2.2.2.2 k h1 h2
theorem Out.trans {lo hi:Nat} {a b c:World} (h:Out lo hi a b) (g:Out lo hi b c):Out lo hi a c:=
 ⟨g.1.trans h.1,g.2.1.trans h.2.1,g.2.2.1.trans h.2.2.1,Nat.le_trans h.size g.size,fun k h1 h2=>(g.block (Nat.lt_of_lt_of_le h1 h.size) h2).trans (h.block h1 h2)⟩
theorem Out.wide {lo hi lo' bQ:Nat} {w w':World} (h:Out lo hi w w') (h1:lo'<=lo) (h2:hi<=bQ):Out lo' bQ w w':=
 ⟨h.1,h.2.1,h.2.2.1,h.size,fun k a b=>h.block a (by omega)⟩
theorem Out.past {x y lo hi:Nat} {a b c:World} (h:Out x y a b) (g:Out lo hi b c) (hl:a.heap.size<=lo):Out x y a c:=
 ⟨g.1.trans h.1,g.2.1.trans h.2.1,g.2.2.1.trans h.2.2.1,Nat.le_trans h.size g.size,fun k h1 h2=>(g.block (Nat.lt_of_lt_of_le h1 h.size) (.inl (by omega))).trans (h.block h1 h2)⟩
theorem Out.any {w w':World} (h:Out 0 0 w w') (lo hi:Nat):Out lo hi w w':=
 ⟨h.1,h.2.1,h.2.2.1,h.size,fun k h1 _=>h.block h1 (by omega)⟩
theorem Out.of_below {w w':World} (h:Below w.heap.size w w') (lo hi:Nat):Out lo hi w w':=⟨h.os,h.tape,h.output,h.size,fun k h1 _=>h.block k h1⟩
theorem Out.all {w w':World} (h:Out 0 0 w w'):Below w.heap.size w w':=⟨h.1,h.2.1,h.2.2.1,h.size,fun k hk=>h.block hk (by omega)⟩
theorem Out.drew {lo hi:Nat} {a w:World} (h:Out lo hi a w):Out lo hi a w.drew:=⟨h.1,h.2.1,h.2.2.1,h.size,h.2.2.2.2⟩
theorem Out.alloc {lo hi:Nat} {a w:World} (h:Out lo hi a w) (o:Obj):Out lo hi a (w.alloc o):=
 h.trans ⟨rfl,rfl,rfl,by simp,fun k h1 _=>Below.heap_alloc _ _ _ h1⟩
theorem Out.setCell {lo hi:Nat} {a w:World} (h:Out lo hi a w) {p:Addr} (hp:(lo<=p.block/\p.block<hi)\/a.heap.size<=p.block) (u:Value):Out lo hi a (w.setCell p u):=by
 refine⟨h.1,h.2.1,h.2.2.1,by have:=h.size;simpa [World.setCell] using this,fun k h1 h2=>?_⟩;rw[Below.heap_setCell _ _ _ _ (by omega)];exact h.block h1 h2
theorem Out.zo2 {lo hi:Nat} {a w:World} (h:Out lo hi a w) {b:Nat} (p:(lo ≤ b ∧ b < hi) ∨ a.heap.size ≤ b) (x y:Value):Out lo hi a ((w.setCell ⟨b,0,none⟩ x).setCell ⟨b,1,none⟩ y):=(h.setCell (p:=⟨b,0,none⟩) p x).setCell (p:=⟨b,1,none⟩) p y
theorem Out.zo5 {lo hi:Nat} {a w:World} (h:Out lo hi a w) {b:Nat} (p:(lo ≤ b ∧ b < hi) ∨ a.heap.size ≤ b) (x y z u v:Value):Out lo hi a (((((w.setCell ⟨b,0,none⟩ x).setCell ⟨b,1,none⟩ y).setCell ⟨b,2,none⟩ z).setCell ⟨b,3,none⟩ u).setCell ⟨b,4,none⟩ v):=((((h.setCell (p:=⟨b,0,none⟩) p x).setCell (p:=⟨b,1,none⟩) p y).setCell (p:=⟨b,2,none⟩) p z).setCell (p:=⟨b,3,none⟩) p u).setCell (p:=⟨b,4,none⟩) p v
theorem alz (Z:World) (o:Obj):∃ g V,Z.heap.size=g/\Z.alloc o=V/\Out 0 0 Z V/\V.heap[g]? = some o:=⟨_,_,rfl,rfl,(Out.refl 0 0 _).alloc _,heap_alloc_new _ _⟩
theorem s2z (Z:World) (g:Nat) (x y:Int):∃ V,((Z.setCell ⟨g,0,none⟩ (Iz x)).setCell ⟨g,1,none⟩ (Iz y))=V/\Out g (g+1) Z V:=⟨_,rfl,(Out.refl _ _ _).zo2 (.inl ⟨Nat.le_refl _,Nat.lt_succ_self _⟩) _ _⟩
theorem s5z (Z:World) (g:Nat) (x y z u v:Int):∃ V,(((((Z.setCell ⟨g,0,none⟩ (Iz x)).setCell ⟨g,1,none⟩ (Iz y)).setCell ⟨g,2,none⟩ (Iz z)).setCell ⟨g,3,none⟩ (Iz u)).setCell ⟨g,4,none⟩ (Iz v))=V/\Out g (g+1) Z V:=⟨_,rfl,(Out.refl _ _ _).zo5 (.inl ⟨Nat.le_refl _,Nat.lt_succ_self _⟩) _ _ _ _ _⟩
theorem Out.cell {lo hi:Nat} {w w':World} (h:Out lo hi w w') {b o:Nat} {v:Value} (hc:w.cell? ⟨b,o,none⟩=some v) (h2:b<lo\/hi<=b):w'.cell? ⟨b,o,none⟩=some v:=by
 have hb:b<w.heap.size:=by
  by_cases hb:b<w.heap.size
  ·exact hb
  ·have:w.heap[b]? = none:=by simp;omega
   simp[World.cell?,this] at hc
 rw[World.cell?_of_block (w:=w) (a:=⟨b,o,none⟩) (h.block hb h2)];exact hc
theorem Q7 {w:World} {b:Nat} {o:Obj} (h:w.heap[b]? = some o):b<w.heap.size:=(Array.getElem?_eq_some_iff.1 h).1
theorem Out.heap {lo hi:Nat} {w w':World} (h:Out lo hi w w') {b:Nat} {o:Obj} (hc:w.heap[b]? = some o) (h2:b<lo\/hi<=b):w'.heap[b]? = some o:=
 (h.block (Q7 hc) h2).trans hc
def Row (w:World) (b:Nat) (T:TypeId) (k:Nat) (f:Nat->Value):Prop:=
 ∃ c:Array Value,w.heap[b]? = some (.cells c T (0,0))/\k<=c.size/\∀ i,i<k->c[i]? = some (f i)
theorem Row.cell {w:World} {b k:Nat} {T:TypeId} {f:Nat->Value} (h:Row w b T k f) {i:Nat} (hi:i<k):w.cell? ⟨b,i,none⟩=some (f i):=by
 obtain⟨c,hb,_,hc⟩:=h;simp[World.cell?,hb,hc i hi]
theorem Row.frozen {w:World} {b k:Nat} {T:TypeId} {f:Nat->Value} (h:Row w b T k f) (i:Nat):w.frozen? ⟨b,i,none⟩=false:=by
 obtain⟨c,hb,_,_⟩:=h;simp[World.frozen?,hb]
theorem Row.lt {w:World} {b k:Nat} {T:TypeId} {f:Nat->Value} (h:Row w b T k f):b<w.heap.size:=by
 obtain⟨c,hb,_,_⟩:=h;exact Q7 hb
theorem Row.of_block {w w':World} {b k:Nat} {T:TypeId} {f:Nat->Value} (h:Row w b T k f) (e:w'.heap[b]? = w.heap[b]?):Row w' b T k f:=by
 obtain⟨c,hb,hn,hc⟩:=h;exact⟨c,e.trans hb,hn,hc⟩
theorem Row.kept {w w':World} {b k lo hi:Nat} {T:TypeId} {f:Nat->Value} (h:Row w b T k f) (g:Out lo hi w w') (h2:b<lo\/hi<=b):Row w' b T k f:=h.of_block (g.block h.lt h2)
theorem Row.congr {w:World} {b k:Nat} {T:TypeId} {f g:Nat->Value} (h:Row w b T k f) (e:∀ i,i<k->f i=g i):Row w b T k g:=by
 obtain⟨c,hb,hn,hc⟩:=h;exact⟨c,hb,hn,fun i hi=>by rw[hc i hi,e i hi]⟩
theorem Row.set {w:World} {b k:Nat} {T:TypeId} {f:Nat->Value} (h:Row w b T k f) (i:Nat) (v:Value):Row (w.setCell ⟨b,i,none⟩ v) b T k (fun j=>if j=i then v else f j):=by
 obtain⟨c,hb,hn,hc⟩:=h;refine⟨c.setIfInBounds i v,?_,by simpa using hn,fun j hj=>?_⟩
 ·simp[World.setCell,Array.getElem?_modify,hb]
 ·rw[Array.getElem?_setIfInBounds];by_cases e:j=i
  ·subst e;have:j<c.size:=by omega
   simp[this]
  ·rw[if_neg (fun h=>e h.symm)]
   show c[j]? = some (if j=i then v else f j)
   rw[if_neg e];exact hc j hj
theorem j3i {a b c:World} (h:Below a.heap.size a b) (g:Below b.heap.size b c):Below a.heap.size a c:=h.trans (g.mono h.size)
theorem z0r {P:Program} {f:FuncId} {args:Array Value} {w w0:World} {post:Ending->Prop} (h:Calls P f args w (fun e w'=>post e/\Below w.heap.size w w')) (h0:Below w0.heap.size w0 w) :
  Calls P f args w (fun e w'=>post e/\Below w0.heap.size w0 w'):=h.mono fun _ _ ⟨he,hb⟩=>⟨he,j3i h0 hb⟩
def wd (k:Int):Int:=[0,3,2,1,2,2,1,2,3,3,3,5,1,4].getD k.toNat 0
def mo (k:Int):Int:=[0,0,0,1023,4096,0,64,0,0,0,0,128,512,0].getD k.toNat 0
def Tab (w:World):Prop:=(∀ j:Nat,j<3->w.cell? ⟨1,j,none⟩=some (.int .i64 0)/\w.cell? ⟨2,j,none⟩=some (.int .i64 (if j=0 then 3 else 0))) ∧
 (∀ j:Nat,j<14->w.cell? ⟨0,j*2,none⟩=some (.int .i64 (wd j))/\w.cell? ⟨0,j*2+1,none⟩=some (.int .i64 (mo j))) ∧
 (∀ j,j<64->w.cell? ⟨3,j,none⟩=some (.int .u8 (Lib.deBruijn64tab.getD j 0)))
theorem Y4 {w:World} {b o:Nat} {v:Value} (hc:w.cell? ⟨b,o,none⟩=some v):b<w.heap.size:=by
 by_cases hb:b<w.heap.size
 ·exact hb
 ·have:w.heap[b]? = none:=by simp;omega
  simp[World.cell?,this] at hc
theorem Tab.lt {w:World} (h:Tab w):4<=w.heap.size:=by
 have h1:=Y4 (h.1 0 (by omega)).1;have h2:=Y4 (h.1 0 (by omega)).2;have h3:=Y4 (h.2.1 0 (by omega)).1;have h4:=Y4 (h.2.2 0 (by omega));omega
theorem Tab.kept {w w':World} {lo hi:Nat} (h:Tab w) (g:Out lo hi w w') (h2:4<=lo\/hi=0):Tab w':=
 ⟨fun j hj=>⟨g.cell (h.1 j hj).1 (by omega),g.cell (h.1 j hj).2 (by omega)⟩,fun j hj=>⟨g.cell (h.2.1 j hj).1 (by omega),g.cell (h.2.1 j hj).2 (by omega)⟩,fun j hj=>g.cell (h.2.2 j hj) (by omega)⟩
theorem Tab.quiet {w w':World} (h:Tab w) (g:Out 0 0 w w'):Tab w':=h.kept g (.inr rfl)
theorem Tab.f {w:World} (h:Tab w):w.cell? ⟨1,0,none⟩=some (.int .i64 0)/\w.cell? ⟨1,1,none⟩=some (.int .i64 0)/\w.cell? ⟨1,2,none⟩=some (.int .i64 0):=⟨(h.1 0 (by omega)).1,(h.1 1 (by omega)).1,(h.1 2 (by omega)).1⟩
theorem Tab.r {w:World} (h:Tab w):w.cell? ⟨2,0,none⟩=some (.int .i64 3)/\w.cell? ⟨2,1,none⟩=some (.int .i64 0)/\w.cell? ⟨2,2,none⟩=some (.int .i64 0):=⟨(h.1 0 (by omega)).2,(h.1 1 (by omega)).2,(h.1 2 (by omega)).2⟩
end Go.Proofs.YtjgnogflgoihfaaGreatDoor
namespace Go.Proofs.YtjgnogflgoihfaaGreatDoor
open Go.ChangeShapes Go.WideShapes Go.ChangeAt Go.RowKit
theorem own:ownKnob Tryz.prog.godebug=none:=by kernel_rfl
theorem laid_out:laidOutB Tryz.prog=true:=by kernel_rfl
theorem gD : Tryz.prog.globalNamed "math/bits.deBruijn64tab" = some 3 := by kernel_rfl
theorem tD:(Tryz.prog.globals[3]?).map (·.type)=some 228:=by kernel_rfl
theorem gS : Tryz.prog.globalNamed "hearth/layout.shapes" = some 0 := by kernel_rfl
theorem tS:(Tryz.prog.globals[0]?).map (·.type)=some 202:=by kernel_rfl
theorem gF : Tryz.prog.globalNamed "hearth/pages.free" = some 1 := by kernel_rfl
theorem tF:(Tryz.prog.globals[1]?).map (·.type)=some 189:=by kernel_rfl
theorem gR : Tryz.prog.globalNamed "hearth/pages.rest" = some 2 := by kernel_rfl
theorem tR:(Tryz.prog.globals[2]?).map (·.type)=some 189:=by kernel_rfl
theorem q6g:Tryz.prog.cellsOf 201=2:=by kernel_rfl
theorem q3f:Tryz.prog.cellsOf 3=1:=by kernel_rfl
theorem q8z:Tryz.prog.cellsOf 5=1:=by kernel_rfl
def laidL : List (String × DataW Unit) := [("math/bits.deBruijn64tab", Rows.laid_math_bits_deBruijn64tab), ("hearth/layout.shapes", Rows.laid_hearth_layout_shapes), ("hearth/pages.free", Rows.laid_hearth_pages_free), ("hearth/pages.rest", Rows.laid_hearth_pages_rest)]
theorem j9q:(Rows.laid_hearth_layout_shapes:DataW Unit)=.agg ((List.range 14).map fun(j:Nat)=>.agg [.lit (.int .i64 (wd j)),.lit (.int .i64 (mo j))]):=by kernel_rfl
theorem j9p:(Rows.laid_math_bits_deBruijn64tab:DataW Unit)=.agg (Lib.deBruijn64tab.map fun(n:Nat)=>.lit (.int .u8 (n:Int))):=by kernel_rfl
theorem door_met (os:Os) (args:Array Value):laidMetH Tryz.prog laidL ((World.doorLaid Tryz.prog 400 os).forCall (fun _ _=>0) ⟨#[],args,[]⟩).memory:=
 laidMetH_of_parts3 (fuel:=8) (laidMet_of_run' 8 (by kernel_rfl) (by kernel_rfl)) (by kernel_rfl) (by kernel_rfl)
theorem x7r {W:World} {f:Nat} {q:List MemPlace} {z0 z1 z2:Int} {cs:Array Value} (hd:DataW.trod (fun x=>()) Tryz.prog W 0 (fun x=>true) false f 189 cs.toList=some (.agg [.lit (.int .i64 z0),.lit (.int .i64 z1),.lit (.int .i64 z2)],q)) :
  cs[0]? = some (.int .i64 z0)/\cs[1]? = some (.int .i64 z1)/\cs[2]? = some (.int .i64 z2):=by
 obtain⟨ys,m2,rfl,hy,hylen,hyn,hyel⟩:=DataW.trod_struct Tryz.underlying189 hd;have hy3:ys.length=3:=hyn;have k0:DataW.trod (fun x=>()) Tryz.prog W 0 (fun x=>true) false m2 3 (List.take (Tryz.prog.cellsOf 3) (List.drop 0 cs.toList))=ys[0]? :=hyel 0 _ rfl;have k1:DataW.trod (fun x=>()) Tryz.prog W 0 (fun x=>true) false m2 3 (List.take (Tryz.prog.cellsOf 3) (List.drop 1 cs.toList))=ys[1]? :=hyel 1 _ rfl;have k2:DataW.trod (fun x=>()) Tryz.prog W 0 (fun x=>true) false m2 3 (List.take (Tryz.prog.cellsOf 3) (List.drop 2 cs.toList))=ys[2]? :=hyel 2 _ rfl;match ys,hy3 with
 | [y0,y1,y2],_=>
  rw[q3f] at k0 k1 k2;simp only[List.getElem?_cons_zero,List.getElem?_cons_succ] at k0 k1 k2;obtain⟨x0,e0,f0,_⟩:=DataW.trod_int Tryz.underlying3 k0;obtain⟨x1,e1,f1,_⟩:=DataW.trod_int Tryz.underlying3 k1;obtain⟨x2,e2,f2,_⟩:=DataW.trod_int Tryz.underlying3 k2;simp[f0,f1,f2] at hy;obtain⟨⟨rfl,rfl,rfl⟩,_⟩:=hy;have q0:cs.toList[0]? = some (.int .i64 z0):=by
   have:=congrArg (fun l=>l[0]?) e0;simpa [List.getElem?_take,List.getElem?_drop] using this
  have q1:cs.toList[1]? = some (.int .i64 z1):=by
   have:=congrArg (fun l=>l[0]?) e1;simpa [List.getElem?_take,List.getElem?_drop] using this
  have q2:cs.toList[2]? = some (.int .i64 z2):=by
   have:=congrArg (fun l=>l[0]?) e2;simpa [List.getElem?_take,List.getElem?_drop] using this
  rw[Array.getElem?_toList] at q0 q1 q2;exact⟨q0,q1,q2⟩
theorem tab_S {W : World} {cs : Array Value} {f : Nat} {q : List MemPlace} (hv : W.var? Tryz.prog "hearth/layout.shapes" = some cs) (hd : DataW.trod (fun x => ()) Tryz.prog W 0 (fun x => true) false f 202 cs.toList = some (Rows.laid_hearth_layout_shapes, q)) :
  ∀ j:Nat,j<14->W.cell? ⟨0,j*2,none⟩=some (.int .i64 (wd j))/\W.cell? ⟨0,j*2+1,none⟩=some (.int .i64 (mo j)):=by
 obtain⟨xs,m,rfl,hx,bZ,hn,hel⟩:=DataW.trod_array Tryz.underlying202 hd;rw[j9q] at hx;simp only[Prod.mk.injEq,DataW.agg.injEq] at hx;intro j hj;have lC:=hel j hj;have hxj:xs[j]? = some (xs[j]'(by omega)):=List.getElem?_eq_getElem (by omega);rw[hxj,q6g] at lC;obtain⟨ys,m2,rfl,hy,hylen,hyn,hyel⟩:=DataW.trod_struct Tryz.underlying201 lC;have hy2:ys.length=2:=hyn;have k0:DataW.trod (fun x=>()) Tryz.prog W 0 (fun x=>true) false m2 3 (List.take (Tryz.prog.cellsOf 3) (List.drop 0 (List.take 2 (List.drop (j*2) cs.toList))))=ys[0]? :=hyel 0 _ rfl;have k1:DataW.trod (fun x=>()) Tryz.prog W 0 (fun x=>true) false m2 3 (List.take (Tryz.prog.cellsOf 3) (List.drop 1 (List.take 2 (List.drop (j*2) cs.toList))))=ys[1]? :=hyel 1 _ rfl;match ys,hy2 with
 | [y0,y1],_=>
  rw[q3f] at k0 k1;simp only[List.getElem?_cons_zero,List.getElem?_cons_succ] at k0 k1;obtain⟨z0,e0,f0,_⟩:=DataW.trod_int Tryz.underlying3 k0;obtain⟨z1,e1,f1,_⟩:=DataW.trod_int Tryz.underlying3 k1;have hk:(xs.map (·.1))[j]? = some (.agg [.lit (.int .i64 z0),.lit (.int .i64 z1)]):=by
   rw[List.getElem?_map,hxj,Option.map_some,hy];simp[f0,f1]
  rw[<-hx.1,List.getElem?_map,List.getElem?_range hj] at hk;simp at hk;have q0:cs.toList[j*2]? = some (.int .i64 z0):=by
   have:=congrArg (fun l=>l[0]?) e0;simpa [List.getElem?_take,List.getElem?_drop] using this
  have q1:cs.toList[j*2+1]? = some (.int .i64 z1):=by
   have:=congrArg (fun l=>l[0]?) e1;simpa [List.getElem?_take,List.getElem?_drop] using this
  refine⟨?_,?_⟩
  ·rw[World.var?_cell gS hv (j*2),<-Array.getElem?_toList,q0,<-hk.1]
  ·rw[World.var?_cell gS hv (j*2+1),<-Array.getElem?_toList,q1,<-hk.2]
theorem tab_D {W : World} {cs : Array Value} {f : Nat} {q : List MemPlace} (hv : W.var? Tryz.prog "math/bits.deBruijn64tab" = some cs) (hd : DataW.trod (fun x => ()) Tryz.prog W 0 (fun x => true) false f 228 cs.toList = some (Rows.laid_math_bits_deBruijn64tab, q)) :
  ∀ j,j<64->W.cell? ⟨3,j,none⟩=some (.int .u8 (Lib.deBruijn64tab.getD j 0)):=by
 obtain⟨xs,m,rfl,hx,bZ,hn,hel⟩:=DataW.trod_array Tryz.underlying228 hd;rw[j9p] at hx;simp only[Prod.mk.injEq,DataW.agg.injEq] at hx;intro j hj;have lC:=hel j hj;have hxj:xs[j]? = some (xs[j]'(by omega)):=List.getElem?_eq_getElem (by omega);rw[hxj,q8z] at lC;obtain⟨k,e1,e2,_⟩:=DataW.trod_int Tryz.underlying5 lC;have hk:(xs.map (·.1))[j]? = some (.lit (.int .u8 k)):=by rw[List.getElem?_map,hxj,Option.map_some,e2]
 rw[<-hx.1,List.getElem?_map] at hk;have dD:j<Lib.deBruijn64tab.length:=by rw[show Lib.deBruijn64tab.length=64 from by decide +kernel];exact hj
 rw[List.getElem?_eq_getElem dD,Option.map_some] at hk;simp at hk;rw[World.var?_cell gD hv j];have e3:cs.toList[j]? = some (.int .u8 k):=by
  have:=congrArg (fun l=>l[0]?) e1;simp at this;simpa using this
 rw[<-Array.getElem?_toList,e3,<-hk];simp[List.getD_eq_getElem?_getD,List.getElem?_eq_getElem dD]
theorem tab_of_laid {W:World} (h:laidMetH Tryz.prog laidL W):Tab W:=by
 rw[MakeChecks.laidMetH_plain _ _ _ (by kernel_rfl)] at h;obtain⟨ps,⟨g1,t1,cs1,f1,p1,q1,hg1,ht1,hv1,mT,iR,_⟩,_,_⟩:=h;obtain⟨g2,t2,cs2,f2,p2,q2,nL,ht2,hv2,lD,lA,_⟩:=iR;obtain⟨g3,t3,cs3,f3,p3,q3,hg3,ht3,hv3,hd3,hr3,_⟩:=lA;obtain⟨g4,t4,cs4,f4,p4,q4,hg4,ht4,hv4,hd4,_,_⟩:=hr3;obtain rfl:=Option.some.inj (gD.symm.trans hg1);obtain rfl:=Option.some.inj (tD.symm.trans ht1);obtain rfl:=Option.some.inj (gS.symm.trans nL);obtain rfl:=Option.some.inj (tS.symm.trans ht2);obtain rfl:=Option.some.inj (gF.symm.trans hg3);obtain rfl:=Option.some.inj (tF.symm.trans ht3);obtain rfl:=Option.some.inj (gR.symm.trans hg4);obtain rfl:=Option.some.inj (tR.symm.trans ht4);obtain⟨a0,a1,a2⟩:=x7r hd3;obtain⟨b0,b1,b2⟩:=x7r hd4;refine⟨fun j hj=>?_,tab_S hv2 lD,tab_D hv1 mT⟩;rw[World.var?_cell hg3 hv3 j,World.var?_cell hg4 hv4 j];have lC:j=0\/j=1\/j=2:=by omega
 rcases lC with rfl | rfl | rfl
 ·exact⟨a0,b0⟩
 ·exact⟨a1,b1⟩
 ·exact⟨a2,b2⟩
end Go.Proofs.YtjgnogflgoihfaaGreatDoor
namespace Go.Proofs.YtjgnogflgoihfaaGreatDoor
open Go.RowKit
def fld (p:Int × Int × Int) (j:Nat):Int:=if j=0 then p.1 else if j=1 then p.2.1 else p.2.2
def z3b (p:Int × Int × Int):Bool:=p.1 == 0
def PgOk (n:Nat) (S:Nat->Int × Int × Int) (i:Nat):Prop:=
 S i=(0,0,0)\/(∃ c:Int,0<=c/\c<=7/\S i=(1,c,0))\/(∃ k:Nat,1<=k/\k<=16/\i+k<=n/\S i=(2,0,(k:Int))/\∀ j,i<j->j<i+k->S j=(3,0,0)) ∨
  (S i=(3,0,0)/\∃ h k:Nat,h<i/\i<h+k/\S h=(2,0,(k:Int)))
def Good (n:Nat) (S:Nat->Int × Int × Int):Prop:=∀ i,i<n->PgOk n S i
theorem q3s (n:Nat):Good n (fun _=>(0,0,0)):=fun _ _=>.inl rfl
theorem Good.free {n i:Nat} {S:Nat->Int × Int × Int} (h:Good n S) (hi:i<n) (hf:z3b (S i)=true):S i=(0,0,0):=by
 unfold z3b at hf;rcases h i hi with e | ⟨c,_,_,e⟩ | ⟨k,_,_,_,e,_⟩ | ⟨e,_⟩
 ·exact e
 all_goals (rw[e] at hf;simp at hf)
theorem Good.cases {n i:Nat} {S:Nat->Int × Int × Int} (h:Good n S) (hi:i<n) :
  S i=(0,0,0)\/(∃ c:Int,0<=c/\c<=7/\S i=(1,c,0))\/(∃ k:Nat,1<=k/\k<=16/\i+k<=n/\S i=(2,0,(k:Int)))\/S i=(3,0,0):=by
 rcases h i hi with e | e | ⟨k,k1,k2,k3,e,_⟩ | ⟨e,_⟩
 ·exact .inl e
 ·exact .inr (.inl e)
 ·exact .inr (.inr (.inl ⟨k,k1,k2,k3,e⟩))
 ·exact .inr (.inr (.inr e))
def j3c (S:Nat->Int × Int × Int) (p n:Nat):Bool:=(List.range n).all fun i=>z3b (S (p+i))
theorem allF_iff {S:Nat->Int × Int × Int} {p n:Nat}:j3c S p n=true ↔ ∀ j,p<=j->j<p+n->z3b (S j)=true:=by
 unfold j3c;rw[List.all_eq_true];constructor
 ·intro h j h1 h2;have:=h (j-p) (by simp;omega);rwa [show p+(j-p)=j from by omega] at this
 ·intro h x hx;simp at hx;exact h _ (by omega) (by omega)
def z0a (S:Nat->Int × Int × Int) (n k:Nat):Option Nat:=(List.range n).find? fun p=>decide (p+k<=n) && j3c S p k
theorem z3z {f:Nat->Bool} {n p:Nat} (hp:p<n) (hf:f p=true) (hl:∀ q,q<p->f q=false):(List.range n).find? f=some p:=by
 rw[List.find?_range_eq_some];exact⟨hf,by simpa using hp,fun j hj=>by simp[hl j hj]⟩
theorem z3y {f:Nat->Bool} {n:Nat} (hl:∀ q,q<n->f q=false):(List.range n).find? f=none:=by
 rw[List.find?_eq_none];intro x hx;simp at hx;simp[hl x hx]
theorem z0v {S:Nat->Int × Int × Int} {n k p:Nat} (h:z0a S n k=some p):p<n/\p+k<=n/\j3c S p k=true/\∀ q,q<p->q+k<=n->j3c S q k=false:=by
 unfold z0a at h;rw[List.find?_range_eq_some] at h;obtain⟨h1,h2,h3⟩:=h;simp at h1 h2;refine⟨h2,h1.1,h1.2,fun q hq hk=>?_⟩;have:=h3 q hq;simp[hk] at this;exact this
theorem j6v {S:Nat->Int × Int × Int} {n k p:Nat} (h1:1<=k) (h2:p+k<=n) (h3:j3c S p k=true) (h4:∀ q,q<p->j3c S q k=false):z0a S n k=some p:=
 z3z (by omega) (by simp[h2,h3]) (fun q hq=>by simp[h4 q hq])
theorem j6u {S:Nat->Int × Int × Int} {n k:Nat} (h4:∀ q,q+k<=n->j3c S q k=false):z0a S n k=none:=
 z3y (fun q hq=>by by_cases h:q+k<=n <;> simp[h];exact h4 q h)
def RowInv (S:Nat->Int × Int × Int) (k i f:Nat):Prop:=
 f<=i/\f<k/\(∀ j,i-f<=j->j<i->z3b (S j)=true)/\(f=i\/z3b (S (i-f-1))=false)/\∀ q,q+k<=i->j3c S q k=false
theorem RowInv.start (S:Nat->Int × Int × Int) {k:Nat} (h:1<=k):RowInv S k 0 0:=⟨Nat.le_refl _,h,fun j _ h2=>by omega,.inl rfl,fun q hq=>by omega⟩
theorem q2c {S:Nat->Int × Int × Int} {p n j:Nat} (h1:p<=j) (h2:j<p+n) (h:z3b (S j)=false):j3c S p n=false:=by
 cases e:j3c S p n with
 | false=>rfl
 | true=>rw[allF_iff.1 e j h1 h2] at h;cases h
theorem RowInv.taken {S:Nat->Int × Int × Int} {k i f:Nat} (h:RowInv S k i f) (hi:z3b (S i)=false):RowInv S k (i+1) 0:=by
 obtain⟨h1,h2,h3,h4,h5⟩:=h;refine⟨by omega,by omega,fun j _ _=>by omega,.inr (by simpa using hi),fun q hq=>?_⟩;by_cases e:q+k<=i
 ·exact h5 q e
 ·exact q2c (j:=i) (by omega) (by omega) hi
theorem RowInv.more {S:Nat->Int × Int × Int} {k i f:Nat} (h:RowInv S k i f) (hi:z3b (S i)=true) (hf:f+1 ≠ k):RowInv S k (i+1) (f+1):=by
 obtain⟨h1,h2,h3,h4,h5⟩:=h;refine⟨by omega,by omega,fun j j1 j2=>?_,?_,fun q hq=>?_⟩
 ·by_cases e:j=i
  ·rw[e];exact hi
  ·exact h3 j (by omega) (by omega)
 ·rcases h4 with e | e
  ·left;omega
  ·right;rw[show i+1-(f+1)-1=i-f-1 from by omega];exact e
 ·by_cases e:q+k<=i
  ·exact h5 q e
  ·rcases h4 with e4 | e4
   ·omega
   ·by_cases e5:f=i
    ·omega
    ·exact q2c (j:=i-f-1) (by omega) (by omega) e4
theorem RowInv.found {S:Nat->Int × Int × Int} {k i f n:Nat} (h:RowInv S k i f) (hi:z3b (S i)=true) (hf:f+1=k) (hn:i<n):z0a S n k=some (i-f):=by
 obtain⟨h1,h2,h3,h4,h5⟩:=h;refine j6v (by omega) (by omega) (allF_iff.2 fun j j1 j2=>?_) (fun q hq=>h5 q (by omega));by_cases e:j=i
 ·rw[e];exact hi
 ·exact h3 j j1 (by omega)
theorem RowInv.none {S:Nat->Int × Int × Int} {k i f:Nat} (h:RowInv S k i f):z0a S i k=none:=j6u h.2.2.2.2
def H9 (c:Int):Bool:=decide (0<=c) && decide (c<=7)
def j2f (k:Int):Bool:=decide (1<=k) && decide (k<=16)
def q2t (S:Nat->Int × Int × Int) (p:Nat) (c:Int):Nat->Int × Int × Int:=fun j=>if j=p then (1,c,0) else S j
def setR (S:Nat->Int × Int × Int) (p k:Nat):Nat->Int × Int × Int:=fun j=>if j=p then (2,0,(k:Int)) else if p<j/\j<p+k then (3,0,0) else S j
def setF (S:Nat->Int × Int × Int) (p k:Nat):Nat->Int × Int × Int:=fun j=>if p<=j/\j<p+k then (0,0,0) else S j
def tcP (S:Nat->Int × Int × Int) (n:Nat) (c:Int):Nat:=if H9 c then (z0a S n 1).getD 0 else 0
def tcE (S:Nat->Int × Int × Int) (n:Nat) (c:Int):Int:=if H9 c then (if (z0a S n 1).isSome then 0 else 20) else 1
def tcS (S:Nat->Int × Int × Int) (n:Nat) (c:Int):Nat->Int × Int × Int:=if H9 c then (match z0a S n 1 with | some p=>q2t S p c | none=>S) else S
def trP (S:Nat->Int × Int × Int) (n:Nat) (k:Int):Nat:=if j2f k then (z0a S n k.toNat).getD 0 else 0
def trE (S:Nat->Int × Int × Int) (n:Nat) (k:Int):Int:=if j2f k then (if (z0a S n k.toNat).isSome then 0 else 20) else 1
def trS (S:Nat->Int × Int × Int) (n:Nat) (k:Int):Nat->Int × Int × Int:=if j2f k then (match z0a S n k.toNat with | some p=>setR S p k.toNat | none=>S) else S
def inB (n:Nat) (i:Int):Bool:=decide (0<=i) && decide (i<n)
def z5n (p:Int × Int × Int):Nat:=if p.1=2 then p.2.2.toNat else 1
def z5l (S:Nat->Int × Int × Int) (n:Nat) (i:Int):Bool:=inB n i && ((S i.toNat).1 == 1 || (S i.toNat).1 == 2)
def gvE (S:Nat->Int × Int × Int) (n:Nat) (i:Int):Int:=if z5l S n i then 0 else 1
def gvS (S:Nat->Int × Int × Int) (n:Nat) (i:Int):Nat->Int × Int × Int:=if z5l S n i then setF S i.toNat (z5n (S i.toNat)) else S
def stP (S:Nat->Int × Int × Int) (n:Nat) (i:Int):Int × Int × Int:=if inB n i then S i.toNat else (0,0,0)
theorem z8u {n p:Nat} {S:Nat->Int × Int × Int} {c:Int} (h:Good n S) (hp:S p=(0,0,0)) (h0:0<=c) (h7:c<=7):Good n (q2t S p c):=by
 intro i hi;unfold q2t;by_cases e:i=p
 ·exact .inr (.inl ⟨c,h0,h7,by simp[e]⟩)
 ·rcases h i hi with e1 | ⟨c',a,b,e1⟩ | ⟨k,k1,k2,k3,e1,hr⟩ | ⟨e1,a,k,ha,hk,e2⟩
  ·exact .inl (by simp[e,e1])
  ·exact .inr (.inl ⟨c',a,b,by simp[e,e1]⟩)
  ·refine .inr (.inr (.inl ⟨k,k1,k2,k3,by simp[e,e1],fun j j1 j2=>?_⟩));have:=hr j j1 j2;by_cases ej:j=p
   ·rw[ej,hp] at this;simp at this
   ·simp[ej,this]
  ·refine .inr (.inr (.inr ⟨by simp[e,e1],a,k,ha,hk,?_⟩));by_cases ej:a=p
   ·rw[ej,hp] at e2;simp at e2
   ·simp[ej,e2]
theorem z8v {n p k:Nat} {S:Nat->Int × Int × Int} (h:Good n S) (hp:∀ j,p<=j->j<p+k->S j=(0,0,0)) (h1:1<=k) (h2:k<=16) (h3:p+k<=n):Good n (setR S p k):=by
 have out:∀ j,(j<p\/p+k<=j)->setR S p k j=S j:=by
  intro j hj;unfold setR;rw[if_neg (by omega),if_neg (by omega)]
 have hd:setR S p k p=(2,0,(k:Int)):=by unfold setR;rw[if_pos rfl]
 have hr:∀ j,p<j->j<p+k->setR S p k j=(3,0,0):=by
  intro j a b;unfold setR;rw[if_neg (by omega),if_pos ⟨a,b⟩]
 have nz:∀ j,S j ≠ (0,0,0)->j<p\/p+k<=j:=by
  intro j hj;by_cases e:j<p\/p+k<=j
  ·exact e
  ·exact absurd (hp j (by omega) (by omega)) hj
 intro i hi;by_cases e:i=p
 ·subst e;exact .inr (.inr (.inl ⟨k,h1,h2,h3,hd,hr⟩))
 ·by_cases e':p<i/\i<p+k
  ·exact .inr (.inr (.inr ⟨hr i e'.1 e'.2,p,k,e'.1,e'.2,hd⟩))
  ·have eo:=out i (by omega);rcases h i hi with e1 | ⟨c',a,b,e1⟩ | ⟨k',k1,k2,k3,e1,hr'⟩ | ⟨e1,a,k',ha,hk,e2⟩
   ·exact .inl (by rw[eo,e1])
   ·exact .inr (.inl ⟨c',a,b,by rw[eo,e1]⟩)
   ·refine .inr (.inr (.inl ⟨k',k1,k2,k3,by rw[eo,e1],fun j j1 j2=>?_⟩));have:=hr' j j1 j2;rw[out j (nz j (by rw[this];simp)),this]
   ·exact .inr (.inr (.inr ⟨by rw[eo,e1],a,k',ha,hk,by rw[out a (nz a (by rw[e2];simp)),e2]⟩))
theorem z6k {n p:Nat} {S:Nat->Int × Int × Int} (h:Good n S) (hp:p<n) (hk:(S p).1=1\/(S p).1=2) :
  1<=z5n (S p)/\z5n (S p)<=16/\p+z5n (S p)<=n/\(∀ j,p<j->j<p+z5n (S p)->S j=(3,0,0))/\(((S p).1=1/\z5n (S p)=1/\(S p).2.2=0)\/((S p).1=2/\(S p).2.2=(z5n (S p):Nat))):=by
 rcases h p hp with e | ⟨c,_,_,e⟩ | ⟨k,k1,k2,k3,e,hr⟩ | ⟨e,_⟩
 ·rw[e] at hk;simp at hk
 ·rw[e];have:z5n (1,c,0)=1:=by unfold z5n;simp
  rw[this];exact⟨by omega,by omega,by omega,fun j j1 j2=>by omega,.inl ⟨rfl,rfl,rfl⟩⟩
 ·rw[e];have:z5n (2,0,(k:Int))=k:=by unfold z5n;simp
  rw[this];exact⟨k1,k2,k3,hr,.inr ⟨rfl,rfl⟩⟩
 ·rw[e] at hk;simp at hk
theorem q3t {n p:Nat} {S:Nat->Int × Int × Int} (h:Good n S) (hp:p<n) (hk:(S p).1=1\/(S p).1=2):Good n (setF S p (z5n (S p))):=by
 obtain⟨l1,l2,l3,hrest,iM⟩:=z6k h hp hk;generalize hL:z5n (S p)=L at *
 have out:∀ j,(j<p\/p+L<=j)->setF S p L j=S j:=by
  intro j hj;unfold setF;rw[if_neg (by omega)]
 intro i hi;by_cases e:p<=i/\i<p+L
 ·left;unfold setF;rw[if_pos e]
 ·have eo:=out i (by omega);rcases h i hi with e1 | ⟨c',a,b,e1⟩ | ⟨k',k1,k2,k3,e1,hr'⟩ | ⟨e1,a,k',ha,hk',e2⟩
  ·exact .inl (by rw[eo,e1])
  ·exact .inr (.inl ⟨c',a,b,by rw[eo,e1]⟩)
  ·refine .inr (.inr (.inl ⟨k',k1,k2,k3,by rw[eo,e1],fun j j1 j2=>?_⟩));have hj:=hr' j j1 j2;rw[out j ?_,hj];by_cases hp':i<p
   ·have:¬ (p<i+k'):=fun dD=>by
     have:=hr' p hp' dD;rw[this] at hk;simp at hk
    omega
   ·omega
  ·refine .inr (.inr (.inr ⟨by rw[eo,e1],a,k',ha,hk',?_⟩));rw[out a ?_,e2];by_cases ea:a<p\/p+L<=a
   ·exact ea
   ·exfalso
    by_cases ep:a=p
    ·subst ep;have lX:(S a).2.2=(k':Int):=by rw[e2]
     rcases iM with ⟨q1,q2,q3⟩ | ⟨q1,q2⟩
     ·rw[e2] at q1;simp at q1
     ·rw[q2] at lX;have:L=k':=by omega
      omega
    ·have:=hrest a (by omega) (by omega);rw[e2] at this;simp at this
def q4n (S:Nat->Int × Int × Int) (i:Nat):Value:=.int .i64 (fld (S (i / 3)) (i % 3))
def PRow (w:World) (b n:Nat) (S:Nat->Int × Int × Int):Prop:=Row w b 189 (n*3) (q4n S)
theorem PRow.cells {w:World} {b n i:Nat} {S:Nat->Int × Int × Int} (h:PRow w b n S) (hi:i<n) :
  w.cell? ⟨b,i*3,none⟩=some (.int .i64 (S i).1)/\w.cell? ⟨b,i*3+1,none⟩=some (.int .i64 (S i).2.1)/\w.cell? ⟨b,i*3+2,none⟩=some (.int .i64 (S i).2.2):=by
 refine⟨?_,?_,?_⟩
 ·rw[Row.cell h (i:=i*3) (by omega)];unfold q4n;rw[show i*3 / 3=i from by omega,show i*3 % 3=0 from by omega];rfl
 ·rw[Row.cell h (i:=i*3+1) (by omega)];unfold q4n;rw[show (i*3+1) / 3=i from by omega,show (i*3+1) % 3=1 from by omega];rfl
 ·rw[Row.cell h (i:=i*3+2) (by omega)];unfold q4n;rw[show (i*3+2) / 3=i from by omega,show (i*3+2) % 3=2 from by omega];rfl
def setP (S:Nat->Int × Int × Int) (p:Nat) (x:Int × Int × Int):Nat->Int × Int × Int:=fun j=>if j=p then x else S j
theorem PRow.set {w:World} {b n:Nat} {S:Nat->Int × Int × Int} (h:PRow w b n S) (i:Nat) (k c r:Int) :
  PRow (((w.setCell ⟨b,i*3,none⟩ (.int .i64 k)).setCell ⟨b,i*3+1,none⟩ (.int .i64 c)).setCell ⟨b,i*3+2,none⟩ (.int .i64 r)) b n (setP S i (k,c,r)):=by
 refine Row.congr (((Row.set h (i*3) (.int .i64 k)).set (i*3+1) (.int .i64 c)).set (i*3+2) (.int .i64 r)) fun j hj=>?_
 unfold q4n setP;by_cases e:j / 3=i
 ·rw[if_pos e];have hm:j % 3=0\/j % 3=1\/j % 3=2:=by omega
  rcases hm with hm | hm | hm
  ·rw[if_neg (by omega),if_neg (by omega),if_pos (by omega),hm];rfl
  ·rw[if_neg (by omega),if_pos (by omega),hm];rfl
  ·rw[if_pos (by omega),hm];rfl
 ·rw[if_neg e,if_neg (by omega),if_neg (by omega),if_neg (by omega)]
theorem PRow.kept {w w':World} {b n lo hi:Nat} {S:Nat->Int × Int × Int} (h:PRow w b n S) (g:Out lo hi w w') (h2:b<lo\/hi<=b):PRow w' b n S:=Row.kept h g h2
theorem Out.set3 {lo hi:Nat} {a w:World} (h:Out lo hi a w) {b o:Nat} (hp:(lo<=b/\b<hi)\/a.heap.size<=b) (x y z:Value):Out lo hi a (((w.setCell ⟨b,o,none⟩ x).setCell ⟨b,o+1,none⟩ y).setCell ⟨b,o+2,none⟩ z):=
 ((h.setCell (p:=⟨b,o,none⟩) hp x).setCell (p:=⟨b,o+1,none⟩) hp y).setCell (p:=⟨b,o+2,none⟩) hp z
def TblAt (T:TypeId) (w:World) (b bw n:Nat) (S:Nat->Int × Int × Int):Prop:=
 ∃ cap,w.heap[b]? = some (.cells #[.slice (some ⟨bw,0,none⟩) n cap] T (0,0))/\n<=cap/\bw ≠ b/\4<=b/\4<=bw/\1<=n/\n<=4096/\Good n S/\PRow w bw n S
theorem TblAt.kept {T:TypeId} {w w':World} {b bw n lo hi:Nat} {S:Nat->Int × Int × Int} (h:TblAt T w b bw n S) (g:Out lo hi w w') (h1:b<lo\/hi<=b) (h2:bw<lo\/hi<=bw):TblAt T w' b bw n S:=by
 obtain⟨cap,hb,k1,k2,k3,k4,k5,k6,k7,hr⟩:=h;exact⟨cap,g.heap hb h1,k1,k2,k3,k4,k5,k6,k7,hr.kept g h2⟩
theorem TblAt.quiet {T:TypeId} {w w':World} {b bw n:Nat} {S:Nat->Int × Int × Int} (h:TblAt T w b bw n S) (g:Out 0 0 w w'):TblAt T w' b bw n S:=h.kept g z0 z0
theorem TblAt.cell {T:TypeId} {w:World} {b bw n:Nat} {S:Nat->Int × Int × Int} (h:TblAt T w b bw n S):∃ cap,w.cell? ⟨b,0,none⟩=some (.slice (some ⟨bw,0,none⟩) n cap)/\n<=cap:=by
 obtain⟨cap,hb,k1,_⟩:=h;exact⟨cap,by simp[World.cell?,hb],k1⟩
theorem TblAt.row {T:TypeId} {w:World} {b bw n:Nat} {S:Nat->Int × Int × Int} (h:TblAt T w b bw n S):PRow w bw n S:=by obtain⟨cap,hb,k1,k2,k3,k4,k5,k6,k7,hr⟩:=h;exact hr
theorem TblAt.good {T:TypeId} {w:World} {b bw n:Nat} {S:Nat->Int × Int × Int} (h:TblAt T w b bw n S):Good n S:=by obtain⟨cap,hb,k1,k2,k3,k4,k5,k6,k7,hr⟩:=h;exact k7
theorem TblAt.nums {T:TypeId} {w:World} {b bw n:Nat} {S:Nat->Int × Int × Int} (h:TblAt T w b bw n S):1<=n/\n<=4096/\4<=b/\4<=bw/\bw ≠ b/\b<w.heap.size/\bw<w.heap.size:=by
 obtain⟨cap,hb,k1,k2,k3,k4,k5,k6,k7,hr⟩:=h;exact⟨k5,k6,k3,k4,k2,Q7 hb,Row.lt hr⟩
theorem TblAt.turn {T:TypeId} {w w':World} {b bw n:Nat} {S S':Nat->Int × Int × Int} (h:TblAt T w b bw n S) (g:Out bw (bw+1) w w') (hr:PRow w' bw n S') (hg:Good n S'):TblAt T w' b bw n S':=by
 obtain⟨cap,hb,k1,k2,k3,k4,k5,k6,k7,_⟩:=h;exact⟨cap,g.heap hb (by omega),k1,k2,k3,k4,k5,k6,hg,hr⟩
theorem z9a {w:World} {b n cap:Nat} {a:Option Addr} (c0:cq w b 0=some (.slice a n cap)) :
  Kz 147 #[Pq b] w fun e w'=>e=.returned (.slice a n cap)/\w'=w:=by
 go_enter Tryz.func147,Tryz.ntmps147
 go_wp2;go_ret;exact⟨rfl,rfl⟩
theorem j9r {w:World} {b n cap:Nat} {a:Option Addr} (c0:cq w b 0=some (.slice a n cap)) :
  Kz 215 #[Pq b] w fun e w'=>e=.returned (Iz n)/\w'=w:=by
 have H:=Q3 (z9a c0);clear c0;go_enter Tryz.func215,Tryz.ntmps215
 go_wp2_with (go_at_call 147;refine Q4 H.out ?_);go_ret;exact⟨rfl,rfl⟩
theorem PRow.page {w:World} {b n i:Nat} {S:Nat->Int × Int × Int} {x y z:Int} (h:PRow w b n S) (hi:i<n) (e:S i=(x,y,z)) :
  w.cell? ⟨b,i*3,none⟩=some (.int .i64 x)/\w.cell? ⟨b,i*3+1,none⟩=some (.int .i64 y)/\w.cell? ⟨b,i*3+2,none⟩=some (.int .i64 z):=by
 have:=h.cells hi;rw[e] at this;exact this
theorem z1z (p:Int × Int × Int):∃ x y z,p=(x,y,z):=⟨p.1,p.2.1,p.2.2,rfl⟩
theorem q8e {w:World} {b bw n cap:Nat} {S:Nat->Int × Int × Int} (c0:cq w b 0=some (Sz bw n cap)) (hT:Tab w) (hn:1<=n/\n<=4096) (hr:PRow w bw n S) (hg:Good n S) (k:Nat) (hk:1<=k) (jC:k<=16) :
  Kz 212 #[Pq b,Iz k] w fun e w'=>e=.returned (.tuple #[Iz ((z0a S n k).getD 0:Nat),.bool (z0a S n k).isSome])/\Out 0 0 w w':=by
 have H:=Q3 (z9a c0);have HT:=Q3 hT;have HR:=Q3 hr;have HG:=Q3 hg;have HN:=Q3 hn;have HK:Hid (1<=k/\k<=16):=⟨hk,jC⟩
 obtain⟨a,ha⟩:∃ a,z0a S n k=a:=⟨_,rfl⟩
 have HA:=Q3 ha;rw[ha];clear c0 hT hr hg hn hk jC ha;go_enter Tryz.func212,Tryz.ntmps212
 go_wp2_with (go_at_call 147;refine Q4 H.out ?_);go_loopw [6,12] (fun x y wr=>∃ i f:Nat,i<=n/\x=Iz f/\y=Iz i/\RowInv S k i f/\Out 0 0 w wr) (fun _ y _=>n-(intOf y).toNat)
 case atStart=>exact⟨0,0,Nat.zero_le _,rfl,rfl,RowInv.start S HK.out.1,Out.refl _ _ _⟩
 case round=>
  obtain⟨i,f,i1,rfl,rfl,hv,ho⟩:=hrel;have HV:=Q3 hv;have HO:=Q3 ho;obtain⟨f0,f1,f2⟩:=(HT.out.quiet ho).f;have b0:(0:Int)<=(i:Int):=by omega
  have b5:(i:Int)<=4096:=by have:=HN.out;omega
  have b6:(0:Int)<=(f:Int)/\(f:Int)<16:=by have:=hv.2.1;have:=HK.out;omega
  obtain⟨b7,b8⟩:=b6;by_cases hi:i<n
  ·have b1:(i:Int)<(n:Int):=by omega
   have aH:Hid (∀ c,Out 0 0 w (wr.alloc c)):=fun c=>ho.alloc c
   obtain⟨x,y,z,hp⟩:=z1z (S i);obtain⟨q0,q1,q2⟩:=(HR.out.kept ho z0).page hi hp;obtain⟨g0,g1,g2⟩:=(HT.out.quiet (ho.alloc (.cells #[Iz x,Iz y,Iz z] 189))).f;by_cases hf:z3b (S i)=true
   ·have e:=HG.out.free hi hf;rw[hp] at e;cases e;by_cases hk:f+1=k
    ·have eV:=hv.found hf hk hi;rw[HA.out] at eV;subst eV;have HE:Hid (f<=i):=hv.1;subst hk;clear hv ho hp hf HV HO;go_wp2;go_ret2;refine⟨z9j ?_ rfl,aH.out _⟩
     show ((i:Int)+1-((f:Int)+1))=((i-f:Nat):Int)
     have:=HE.out;omega
    ·have HV2:=Q3 (hv.more hf hk);have ek:((f:Int)+1 == (k:Int))=false:=by simp;omega
     clear hv ho hp hf HV HO hk;go_wp2;go_roundw
     case rel=>exact⟨i+1,f+1,by omega,by go_num,by go_num,HV2.out,aH.out _⟩
     case measure=>simp[intOf];omega
   ·have hf':z3b (S i)=false:=by simpa using hf
    have HV2:=Q3 (hv.taken hf');have hx:(x == 0)=false:=by have:=hf';rw[hp] at this;exact this
    clear hv ho hp hf HV HO hf';go_wp2;go_roundw
    case rel=>exact⟨i+1,0,by omega,by go_num,by go_num,HV2.out,aH.out _⟩
    case measure=>simp[intOf];omega
  ·have:i=n:=by omega
   subst this;have eV:=hv.none;rw[HA.out] at eV;subst eV;clear hv ho hi HV;go_wp2;go_ret2;exact⟨rfl,HO.out⟩
def z9s (S:Nat->Int × Int × Int) (p k:Nat) (x:Int × Int × Int):Nat->Int × Int × Int:=fun j=>if p<=j/\j<p+k then x else S j
theorem z4h (S:Nat->Int × Int × Int) (p:Nat) (x:Int × Int × Int):z9s S p 0 x=S:=by funext j;unfold z9s;rw[if_neg (by omega)]
theorem z5t (S:Nat->Int × Int × Int) (p i:Nat) (x:Int × Int × Int):setP (z9s S p i x) (p+i) x=z9s S p (i+1) x:=by
 funext j
 unfold setP z9s;by_cases e:j=p+i
 ·rw[if_pos e,if_pos (by omega)]
 ·rw[if_neg e];by_cases h:p<=j/\j<p+i
  ·rw[if_pos h,if_pos (by omega)]
  ·rw[if_neg h,if_neg (by omega)]
theorem box3 {w:World} {X:Nat} {x y z:Int} {T:TypeId} (h:w.heap[X]? = some (.cells #[.int .i64 x,.int .i64 y,.int .i64 z] T (0,0))) :
  w.cell? ⟨X,0,none⟩=some (.int .i64 x)/\w.cell? ⟨X,1,none⟩=some (.int .i64 y)/\w.cell? ⟨X,2,none⟩=some (.int .i64 z):=by
 simp[World.cell?,h]
theorem j8z {w:World} {bw n p k cap:Nat} {S:Nat->Int × Int × Int} (hr:PRow w bw n S) (hpk:p+k<=n) (hn:n<=4096) (x y z:Int) :
  Kz 207 #[.slice (some ⟨bw,p*3,none⟩) k cap,.agg #[Iz x,Iz y,Iz z]] w fun e w'=>e=.returned (.tuple #[])/\PRow w' bw n (z9s S p k (x,y,z))/\Out bw (bw+1) w w':=by
 have HP:Hid (p+k<=n/\n<=4096):=⟨hpk,hn⟩
 have HL:Hid (bw<w.heap.size):=Row.lt hr;have cD:Hid (PRow (w.alloc (.cells #[Iz x,Iz y,Iz z] 189)) bw n (z9s S p 0 (x,y,z))):=by
  rw[z4h];exact hr.kept ((Out.refl 0 0 _).alloc _) z0
 have bM:Hid (Out bw (bw+1) w (w.alloc (.cells #[Iz x,Iz y,Iz z] 189))):=(Out.refl _ _ _).alloc _;have HX:Hid ((w.alloc (.cells #[Iz x,Iz y,Iz z] 189)).heap[w.heap.size]? = some (.cells #[Iz x,Iz y,Iz z] 189 (0,0))):=heap_alloc_new _ _;obtain⟨X,hX⟩:∃ X,w.heap.size=X:=⟨_,rfl⟩
 obtain⟨W,hW⟩:∃ W,w.alloc (.cells #[Iz x,Iz y,Iz z] 189)=W:=⟨_,rfl⟩
 rw[hX] at HX HL;rw[hW] at HX cD bM;clear hr hpk hn;go_enter Tryz.func207,Tryz.ntmps207
 go_wp2_with fail;clear hX hW;go_loopw [7] (fun u wr=>∃ i:Nat,i<=k/\u=Iz i/\PRow wr bw n (z9s S p i (x,y,z))/\Out bw (bw+1) w wr/\wr.heap[X]? = some (.cells #[Iz x,Iz y,Iz z] 189 (0,0))) (fun u _=>k-(intOf u).toNat)
 case atStart=>exact⟨0,Nat.zero_le _,rfl,cD.out,bM.out,HX.out⟩
 case round=>
  clear cD bM HX;obtain⟨i,i1,rfl,hr,ho,hx⟩:=hrel;have HR:=Q3 hr;have HO:=Q3 ho;have HX:=Q3 hx;have b0:(0:Int)<=(i:Int):=by omega
  by_cases hi:i<k
  ·have b1:(i:Int)<(k:Int):=by omega
   have b2:(k:Int)<=4096:=by have:=HP.out;omega
   obtain⟨u0,v0,t0,hp⟩:=z1z (z9s S p i (x,y,z) (p+i));obtain⟨q0,q1,q2⟩:=hr.page (by have:=HP.out;omega) hp;have fz0:=Row.frozen hr ((p+i)*3);have fz1:=Row.frozen hr ((p+i)*3+1);have fz2:=Row.frozen hr ((p+i)*3+2);obtain⟨x0,x1,x2⟩:=box3 hx;have lA:=hr.set (p+i) x y z;rw[z5t] at lA;have eH:=ho.set3 (b:=bw) (o:=(p+i)*3) z1 (Iz x) (Iz y) (Iz z);have hx2:(((wr.setCell ⟨bw,(p+i)*3,none⟩ (Iz x)).setCell ⟨bw,(p+i)*3+1,none⟩ (Iz y)).setCell ⟨bw,(p+i)*3+2,none⟩ (Iz z)).heap[X]? = some (.cells #[Iz x,Iz y,Iz z] 189 (0,0)):=by
    have fG:X ≠ bw:=by have:=HL.out;omega
    rw[Below.heap_setCell _ _ _ _ fG,Below.heap_setCell _ _ _ _ fG,Below.heap_setCell _ _ _ _ fG];exact hx
   rw[Nat.add_mul] at q0 q1 q2 fz0 fz1 fz2 lA eH hx2;have cV:=Q3 lA;have aH:=Q3 eH;have HX2:=Q3 hx2;clear hr ho hx lA eH hx2 hp HR HO HX;go_wp2;go_roundw
   case rel=>exact⟨i+1,by omega,by go_num,cV.out,aH.out,HX2.out⟩
   case measure=>simp[intOf];omega
  ·have:i=k:=by omega
   subst this;clear hr ho hx hi HX;go_wp2;exact bodyPost_end (results_none Tryz.results207 _ _ _) rfl ⟨rfl,HR.out,HO.out⟩
def row8:Array Value:=#[.int .i64 2,.int .i64 4,.int .i64 6,.int .i64 8,.int .i64 12,.int .i64 16,.int .i64 20,.int .i64 32]
theorem info8:(Tryz.prog.info? 72).map (·.size)=some row8.size:=by kernel_rfl
theorem ret8 {fn:Func} {p:Tmp} (hr:fn.results = #[.cell p 72]) {a:Act} {w:World} {g:Nat} {post:Ending->World->Prop} (hp:a.tmps.getD p undef=.pointer (some ⟨g,0,none⟩))
  (hd:a.defers=[]) (b:w.heap[g]? = some (.cells row8 72 (0,0))) (h:post (.returned (.agg row8)) w):bodyPost Tryz.prog fn post Exit.ret a w:=
 bodyPost_ret (v:=.agg row8) (results_cell_row hr a.tmps w g 72 row8 (0,0) _ hp b Tryz.underlying72 rfl info8) hd h
theorem j7c (w:World):Kz 201 #[] w fun e w'=>e=.returned (.agg #[Iz 2,Iz 4,Iz 6,Iz 8,Iz 12,Iz 16,Iz 20,Iz 32])/\Out 0 0 w w':=by
 go_enter Tryz.func201,Tryz.ntmps201
 go_wp2;exact ret8 (g:=w.heap.size) rfl rfl rfl (heap_alloc_new _ _) ⟨rfl,(Out.refl _ _ _).alloc _⟩
def W8 (c:Int):Int:=if c=0 then 2 else if c=1 then 4 else if c=2 then 6 else if c=3 then 8 else if c=4 then 12 else if c=5 then 16 else if c=6 then 20 else if c=7 then 32 else 0
theorem x6i (cs:Array Value) (i:Int) (k:Nat) (v:Value) (hi:i=k) (h:k<8) (hv:cs[k]? = some v) (w:World):(Instr.index 72 (.agg cs) (.int .i64 i)).run Tryz.prog w=.ok v w:=by
 subst hi;simp[Instr.index,run_underlying Tryz.underlying72,asIntOf,h,hv,go_sem]
theorem q6z (i:Nat) (h:i<8) (w:World):(Instr.index 72 (.agg #[.int .i64 2,.int .i64 4,.int .i64 6,.int .i64 8,.int .i64 12,.int .i64 16,.int .i64 20,.int .i64 32]) (.int .i64 i)).run Tryz.prog w=.ok (.int .i64 (W8 i)) w:=by
 refine x6i _ _ i _ rfl h ?_ w;have hi:i=0\/i=1\/i=2\/i=3\/i=4\/i=5\/i=6\/i=7:=by omega
 rcases hi with rfl | rfl | rfl | rfl | rfl | rfl | rfl | rfl <;> rfl
theorem j7p {k:Nat} (h:k<8):(W8 (k:Int) == 0)=false:=by
 have hi:k=0\/k=1\/k=2\/k=3\/k=4\/k=5\/k=6\/k=7:=by omega
 rcases hi with rfl | rfl | rfl | rfl | rfl | rfl | rfl | rfl <;> rfl
theorem j7q (c:Int) (w:World):Kz 202 #[Iz c] w fun e w'=>∃ v:Int,e=.returned (Iz v)/\(v == 0) = !H9 c/\Out 0 0 w w':=by
 by_cases hc:0<=c/\c<8
 ·obtain⟨h1,h2⟩:=hc;obtain⟨k,rfl⟩:∃ k:Nat,c=k:=⟨c.toNat,by omega⟩
  have hi:=q6z k (by omega);have HC:Hid ((W8 (k:Int) == 0) = !H9 (k:Int)):=by
   show _=_
   rw[j7p (by omega),show H9 (k:Int)=true from by unfold H9;simp;omega];rfl
  have HS:=Q3 (j7c w);generalize H9 (k:Int)=q at *
  generalize W8 (k:Int)=u at *
  go_enter Tryz.func202,Tryz.ntmps202
  go_wp2_with (go_at_call 201;refine HS.out.mono ?_;rintro e w1 ⟨rfl,hg⟩);go_ret;exact⟨u,rfl,HC.out,hg⟩
 ·have hc:c<0\/8<=c:=by omega
  have e:H9 c=false:=by unfold H9;simp;omega
  rw[e];rcases hc with h | h
  all_goals
   go_enter Tryz.func202,Tryz.ntmps202
   go_wp2;go_ret;exact⟨0,rfl,rfl,Out.refl _ _ _⟩
def pgV (p:Int × Int × Int):Value:=.agg #[.int .i64 p.1,.int .i64 p.2.1,.int .i64 p.2.2]
theorem info3 (x y z:Int):(Tryz.prog.info? 189).map (·.size)=some (#[Value.int .i64 x,.int .i64 y,.int .i64 z]).size:=by
 rw[show (#[Value.int .i64 x,.int .i64 y,.int .i64 z]).size=3 from rfl];kernel_rfl
theorem q2q {fn:Func} {p u:Tmp} {a:Act} {w:World} {g:Nat} {x y z:Int} {v:Value} {post:Ending->World->Prop} (hr:fn.results = #[.cell p 189,.tmp u]) (hp:a.tmps.getD p undef=.pointer (some ⟨g,0,none⟩)) (hu:a.tmps.getD u undef=v)
  (hd:a.defers=[]) (hg:w.heap[g]? = some (.cells #[.int .i64 x,.int .i64 y,.int .i64 z] 189 (0,0))) (h:post (.returned (.tuple #[.agg #[.int .i64 x,.int .i64 y,.int .i64 z],v])) w):bodyPost Tryz.prog fn post Exit.ret a w:=by
 refine bodyPost_ret (v:=.tuple #[.agg #[.int .i64 x,.int .i64 y,.int .i64 z],v]) ?_ hd h;rw[results_cell_tmp hr,hp];simp[asAddr,run_loadVar_row w g 189 189 _ (0,0) _ hg Tryz.underlying189 rfl (info3 x y z),Result.andThen];simpa using hu
theorem q5h {w:World} {b bw n:Nat} {S:Nat->Int × Int × Int} (h:TblAt 197 w b bw n S) (i:Int) :
  Kz 206 #[Pq b,Iz i] w fun e w'=>e=.returned (.tuple #[pgV (stP S n i),.bool (inB n i)])/\Out 0 0 w w':=by
 obtain⟨cap,c0,kU⟩:=h.cell;have hn:=h.nums;have c1:=((Out.refl 0 0 w).alloc (.cells #[Iz 0,Iz 0,Iz 0] 189)).cell c0 z0;have HL:=Q3 (j9r c1);by_cases hi:inB n i=true
 ·unfold inB at hi;simp at hi;obtain⟨k,rfl⟩:∃ k:Nat,i=k:=⟨i.toNat,by omega⟩
  have e1:inB n (k:Int)=true:=by unfold inB;simp;omega
  have e2:stP S n (k:Int)=S k:=by unfold stP;rw[e1];rfl
  rw[e1,e2];obtain⟨x,y,z,hp⟩:=z1z (S k);have hr:=h.row.kept ((Out.refl 0 0 w).alloc (.cells #[Iz 0,Iz 0,Iz 0] 189)) z0;obtain⟨q0,q1,q2⟩:=hr.page (by omega) hp;have b0:(0:Int)<=(k:Int):=by omega
  have b1:(k:Int)<(n:Int):=by omega
  have b2:(n:Int)<=4096:=by omega
  rw[hp];clear h hn e1 e2 hi hr hp c0;go_enter Tryz.func206,Tryz.ntmps206
  go_wp2_with (go_at_call 215;refine Q4 HL.out ?_);refine q2q (g:=w.heap.size) Tryz.results206 rfl rfl rfl (heap_alloc_new _ _) ⟨rfl,(Out.refl _ _ _).alloc _⟩
 ·have e1:inB n i=false:=by simpa using hi
  have e2:stP S n i=(0,0,0):=by unfold stP;rw[e1];rfl
  rw[e1,e2];unfold inB at hi;simp at hi;have b2:(n:Int)<=4096:=by omega
  by_cases h0:0<=i
  ·have b1:(n:Int)<=i:=by omega
   clear h hn e1 e2 hi c0;go_enter Tryz.func206,Tryz.ntmps206
   go_wp2_with (go_at_call 215;refine Q4 HL.out ?_);refine q2q (g:=w.heap.size) Tryz.results206 rfl rfl rfl (heap_alloc_new _ _) ⟨rfl,(Out.refl _ _ _).alloc _⟩
  ·have b1:i<0:=by omega
   clear h hn e1 e2 hi c0 h0;go_enter Tryz.func206,Tryz.ntmps206
   go_wp2_with (go_at_call 215;refine Q4 HL.out ?_);refine q2q (g:=w.heap.size) Tryz.results206 rfl rfl rfl (heap_alloc_new _ _) ⟨rfl,(Out.refl _ _ _).alloc _⟩
end Go.Proofs.YtjgnogflgoihfaaGreatDoor
