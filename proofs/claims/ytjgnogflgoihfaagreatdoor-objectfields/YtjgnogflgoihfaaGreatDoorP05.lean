import Derived.Test.YtjgnogflgoihfaaGreatDoorP04
set_option linter.unusedSimpArgs false
set_option linter.unusedVariables false
set_option maxHeartbeats 16000000
set_option maxRecDepth 100000
namespace Go.Proofs.YtjgnogflgoihfaaGreatDoor
open Go.RowKit
theorem q8n (k:Int) (w:World):Kz 161 #[Iz k] w fun e w'=>e=.returned (.bool (decide (1<=k) && decide (k<=10)))/\w'=w:=by
 go_enter Tryz.func161,Tryz.ntmps161
 go_wp2
 all_goals go_ret
 all_goals refine⟨U9 ?_,rfl⟩
 all_goals (rw[Bool.eq_iff_iff];simp;try omega)
theorem j4q (i:Int) (w:World):Kz 156 #[Iz i] w fun e w'=>e=.returned (Iz (q0m i))/\w'=w:=by
 go_enter Tryz.func156,Tryz.ntmps156
 go_wp2
 all_goals go_ret
 all_goals refine⟨G4 ?_,rfl⟩
 all_goals (unfold q0m;simp[*])
theorem q2r (k i:Int) (w:World):Kz 102 #[Iz k,Iz i] w fun e w'=>e=.returned (Iz (z3t k i))/\w'=w:=by
 have HF:=Q3 (j4q i);go_enter Tryz.func102,Tryz.ntmps102
 go_wp2_with (go_at_call 156;refine Q4 (HF.out _) ?_)
 all_goals go_ret
 all_goals refine⟨G4 ?_,rfl⟩
 all_goals (unfold z3t;simp[*];try (intro hh;omega))
theorem z4n (k s i:Int) {w:World} (hT:Tab w) (s1:-9223372036854775808<=s) (s2:s<=9223372036854775807) :
  Kz 46 #[Iz k,Iz s,Iz i] w fun e w'=>e=.returned (Iz (J6 k s i))/\w'=w:=by
 have HF:=Q3 (q1u k s hT s1 s2);have HR:=Q3 (q2r k i);clear s1 s2;by_cases hi:1<=i
 ·by_cases hs:i<s
  ·cases hf:B7 k s
   ·have e:J6 k s i=0:=by unfold J6;rw[if_neg (by rw[hf];simp)]
    rw[hf] at HF;rw[e];clear e hf;go_enter Tryz.func46,Tryz.ntmps46
    go_wp2_with (first | (go_at_call 101;refine Q4 HF.out ?_) | (go_at_call 102;refine Q4 (HR.out _) ?_));go_ret;exact⟨rfl,rfl⟩
   ·have e:J6 k s i=z3t k i:=by unfold J6;rw[if_pos ⟨hf,hi,hs⟩]
    rw[hf] at HF;rw[e];clear e hf;generalize z3t k i=r at *
    go_enter Tryz.func46,Tryz.ntmps46
    go_wp2_with (first | (go_at_call 101;refine Q4 HF.out ?_) | (go_at_call 102;refine Q4 (HR.out _) ?_));go_ret;exact⟨rfl,rfl⟩
  ·have e:J6 k s i=0:=by unfold J6;rw[if_neg (by omega)]
   rw[e];clear e;go_enter Tryz.func46,Tryz.ntmps46
   go_wp2;go_ret;exact⟨rfl,rfl⟩
 ·have e:J6 k s i=0:=by unfold J6;rw[if_neg (by omega)]
  rw[e];clear e;go_enter Tryz.func46,Tryz.ntmps46
  go_wp2;go_ret;exact⟨rfl,rfl⟩
def q0l (k:Int) (p:Nat):List Nat:=(List.range p).filter fun j=>decide (1<=j) && (z3t k j != 1)
theorem j9b (k:Int):q0l k 1=[]:=by simp[q0l,List.range_succ]
theorem x3k {k:Int} {p:Nat} (h:1<=p) (hr:z3t k p ≠ 1):q0l k (p+1)=q0l k p ++ [p]:=by
 unfold q0l;rw[List.range_succ,List.filter_append];simp[h,hr]
theorem j9c {k:Int} {p:Nat} (hr:z3t k p=1):q0l k (p+1)=q0l k p:=by
 unfold q0l;rw[List.range_succ,List.filter_append];simp[hr]
theorem q1v (k:Int) (p:Nat):(q0l k p).length<=p:=by
 unfold q0l;exact Nat.le_trans (List.length_filter_le _ _) (by simp)
def z0i (k s:Int):List Nat:=if B7 k s then q0l k s.toNat else []
def q0o (l:List Nat):List Value:=l.map (fun(x:Nat)=>Value.int .i64 (x:Int))
theorem z4b {k s:Int} (h:B7 k s=true):1<=s/\s<=1024:=by
 obtain⟨hk,a,b,c⟩:=fitsB_iff.1 h;obtain⟨j,rfl,j1,j2⟩:=z2s hk;obtain⟨w1,w2,w3,w4,w5,w6,w7⟩:=x1h j1 j2;rcases q1y j1 j2 with rfl | rfl | rfl | rfl | rfl | rfl | rfl | rfl | rfl | rfl | rfl | rfl | rfl <;> (simp[wd,mo,z3f] at a b;omega)
theorem j1p:(Tryz.prog.info? 3).map (fun i=>(i.zero,i.size,i.bytes))=some (some (.int .i64 0),1,8):=by kernel_rfl
theorem j1w {w w':World} {v:Value} {base k lo hi:Nat} {xs:List Value} {T:TypeId} (h:w.ownsRow base T 1 v k xs) (o:Out lo hi w w') (hd:hi<=base):w'.ownsRow base T 1 v k xs:=by
 obtain⟨bZ,jD⟩:=h;refine⟨bZ,?_⟩;rcases jD with ⟨hv,h0⟩ | ⟨g,cT,dI,rfl,hg1,nL,hg3⟩
 ·exact .inl ⟨hv,h0⟩
 ·exact .inr ⟨g,cT,dI,rfl,hg1,o.heap nL (.inr (by omega)),hg3⟩
theorem j5w {w w':World} {v:Value} {base k:Nat} {xs:List Value} {T:TypeId} (h:w.ownsRow base T 1 v k xs) (hg:w.grownBy w' v.ownBlock):Out base w.heap.size w w':=
 ⟨hg.os,hg.tape,hg.output,hg.size,fun j h1 h2=>hg.block j h1 (fun e=>by have:=(h.lt j e.symm).1;omega)⟩
theorem q3y {T:TypeId} {z:Value} {a b:Nat} (h:(Tryz.prog.info? T).map (fun i=>(i.zero,i.size,i.bytes))=some (some z,a,b)):∃ i,Tryz.prog.info? T=some i/\i.zero=some z/\i.size=a/\i.bytes=b:=by
 cases hi:Tryz.prog.info? T with
 | none=>rw[hi] at h;cases h
 | some i=>rw[hi] at h;simp at h;exact⟨i,rfl,h.1,h.2.1,h.2.2⟩
def ListIs_o (w:World) (base:Nat) (v:Value) (l:List Nat):Prop:=w.ownsRow base 3 1 v l.length (q0o l)
theorem ListIs_o.nil (w:World) (base:Nat):ListIs_o w base (.slice none 0 0) []:=World.ownsRow_nil _ _ _ _
theorem ListIs_o.kept {w w':World} {base lo hi:Nat} {v:Value} {l:List Nat} (h:ListIs_o w base v l) (o:Out lo hi w w') (hd:hi<=base):ListIs_o w' base v l:=j1w h o hd
theorem q3n (k s:Int) {w:World} (hT:Tab w) (s1:-9223372036854775808<=s) (s2:s<=9223372036854775807) :
  Kz 43 #[Iz k,Iz s] w fun e w'=>∃ v,e=.returned v/\ListIs_o w' w.heap.size v (z0i k s)/\Out 0 0 w w':=by
 have HF:=Q3 (q1u k s hT s1 s2);clear s1 s2;cases hf:B7 k s
 ·rw[hf] at HF;have e:z0i k s=[]:=by unfold z0i;rw[hf];rfl
  rw[e];clear e hf;go_enter Tryz.func43,Tryz.ntmps43
  go_wp2_with (go_at_call 101;refine Q4 HF.out ?_);go_ret;exact⟨_,rfl,ListIs_o.nil _ _,Out.refl _ _ _⟩
 ·rw[hf] at HF;obtain⟨b1,b2⟩:=z4b hf;have e:z0i k s=q0l k s.toNat:=by unfold z0i;rw[hf];rfl
  rw[e];obtain⟨q,rfl⟩:∃ q:Nat,s=q:=⟨s.toNat,by omega⟩
  rw[show ((q:Nat):Int).toNat=q from by omega];have HR:=Q3 (q2r k);obtain⟨i0,mW,iI,hz1,iH⟩:=q3y j1p;have HQ:Hid (1<=q/\q<=1024):=by show _/\_;omega
  clear e hf b1 b2;go_enter Tryz.func43,Tryz.ntmps43
  go_wp2_with (go_at_call 101;refine Q4 HF.out ?_);go_loopw [5,6] (fun o x wr=>∃ p:Nat,1<=p/\p<=q/\x=Iz p/\ListIs_o wr w.heap.size o (q0l k p)/\Out 0 0 w wr) (fun _ x _=>q-(intOf x).toNat)
  case atStart=>exact⟨1,Nat.le_refl _,HQ.out.1,rfl,by rw[j9b];exact ListIs_o.nil _ _,Out.refl _ _ _⟩
  case round=>
   obtain⟨p,p1,p2,rfl,hl,ho⟩:=hrel;have HL:=Q3 hl;have HO:=Q3 ho;have p0:(0:Int)<=(p:Int):=by omega
   have HP:=Q3 p1;clear hl ho p1;by_cases mS:p<q
   ·have g1:(p:Int)<(q:Int):=by omega
    have g2:(q:Int)<=1024:=by have:=HQ.out;omega
    obtain⟨r,hr⟩:∃ r,z3t k p=r:=⟨_,rfl⟩
    have HRp:=Q3 (fun w=>q2r k p w);rw[hr] at HRp;by_cases h1:r=1
    ·have hn:(r != 1)=false:=by simp[h1]
     have HE:=Q3 (j9c (h1 ▸ hr));clear hr h1;go_wp2_with (go_at_call 102;refine Q4 (HRp.out _) ?_);go_roundw
     case rel=>exact⟨p+1,by omega,by omega,by go_num,by rw[HE.out];exact HL.out,HO.out⟩
     case measure=>simp[intOf];omega
    ·have hn:(r != 1)=true:=by simp[h1]
     have HE:=Q3 (x3k HP.out (by rw[hr];exact h1));clear hr h1;have HW:Hid (w.heap.size<=wr.heap.size):=HO.out.size;go_wp2_with (first | (go_at_call 102;refine Q4 (HRp.out _) ?_) | (at_builtin;refine wpList_append_lies _ rfl _ _ 70 rfl w.heap.size 3 i0 (Iz 0) 1 8 Tryz.underlying70 mW iI hz1 iH rfl (by decide) _ _ _ rfl (HL.out.kept ((Out.refl 0 0 _).alloc _) (Nat.zero_le _)) ⟨wr.heap.size,0,none⟩ 1 1 [Iz p] rfl rfl (cell_one_new _ _ _) ?c2 (by decide) ?c3 ?c4 ?c5 _ rfl ?_))
     case c2=>intro u hu;simp at hu;subst hu;rfl
     case c3=>unfold maxLen;have:=q1v k p;omega
     case c4=>have:=q1v k p;omega
     case c5=>have:=HW.out;simp;omega
     intro g cap w1 jR aV hat dD;have hO1:=j5w (HL.out.kept ((Out.refl 0 0 _).alloc _) (Nat.zero_le _)) aV;have bM:Hid (Out 0 0 w w1):=(HO.out.trans ((Out.refl 0 0 _).alloc _)).past hO1 (Nat.le_refl _);have HL1:Hid (ListIs_o w1 w.heap.size (Sz g ((q0l k p).length+1) cap) (q0l k (p+1))):=by
      show World.ownsRow _ _ _ _ _ _ _
      rw[HE.out,List.length_append];have:q0o (q0l k p ++ [p])=q0o (q0l k p) ++ [Iz p]:=by simp[q0o]
      rw[this];exact jR
     generalize (q0l k p).length+1=ln at *
     clear jR aV hat dD hO1;go_wp2;go_roundw
     case rel=>exact⟨p+1,by omega,by omega,by go_num,HL1.out,bM.out⟩
     case measure=>simp[intOf];omega
   ·have g1:(q:Int)<=(p:Int):=by omega
    have:p=q:=by omega
    subst this;clear mS;go_wp2;go_ret;exact⟨_,rfl,HL.out,HO.out⟩
theorem x4k {w w1 w2:World} (h:Out 0 0 w w1) (g:Below w1.heap.size w1 w2):Out 0 0 w w2:=h.trans (Out.of_below g _ _)
theorem z0q {f:FuncId} {args:Array Value} {v:Value} {w:World} {w0:World} (h:Calls Tryz.prog f args w (fun e w'=>e=.returned v/\Below w.heap.size w w')) (h0:Out 0 0 w0 w):Calls Tryz.prog f args w (fun e w'=>e=.returned v/\Out 0 0 w0 w'):=
 h.mono fun _ _ ⟨he,hb⟩=>⟨he,x4k h0 hb⟩
theorem j6s {s:Int} (h:32<s) (h2:s<=1024):((Y8 s:Nat):Int)=B5 s*64/\0<B5 s/\B5 s<=16:=by
 unfold Y8 B5;rw[if_pos h,if_pos ⟨h,h2⟩];omega
theorem z9k {s:Int} (h1:1<=s) (h:s<=32):((Y8 s:Nat):Int)=W8 (ofV s)/\B5 s=0:=by
 have:=H7 h1 h;unfold Y8 wN B5;rw[if_neg (by omega),if_neg (by omega)];omega
theorem j0d (s:Int) (h1:1<=s) (h2:s<=1024) (w:World):Kz 179 #[Iz s] w fun e w'=>e=.returned (Iz (Y8 s:Nat))/\Out 0 0 w w':=by
 have HP:=Q3 (z0q (z9c s w) (Out.refl 0 0 w));by_cases h:32<s
 ·obtain⟨e1,e2,e3⟩:=j6s h h2;rw[e1];generalize B5 s=k at *
  clear h h1 h2 e1;go_enter Tryz.func179,Tryz.ntmps179
  go_wp2_with (go_at_call 175;refine HP.out.mono ?_;rintro e w1 ⟨rfl,ho⟩);go_ret;exact⟨rfl,ho⟩
 ·obtain⟨e1,e2⟩:=z9k h1 (by omega);rw[e1];rw[e2] at HP;have HO:=Q3 (fun w' (h:Out 0 0 w w')=>z0q (q9s s w') h);have HW:=Q3 (fun w' (h:Out 0 0 w w')=>z0q (q0h (ofV s) w') h);generalize ofV s=c at *
  generalize W8 c=k at *
  clear h h1 h2 e1 e2;go_enter Tryz.func179,Tryz.ntmps179
  go_wp2_with (first
   | (go_at_call 175;refine HP.out.mono ?_;rintro e w1 ⟨rfl,ho⟩)
   | (go_at_call 178;refine(HO.out _ ho).mono ?_;rintro e w2 ⟨rfl,eH⟩)
   | (go_at_call 202;refine(HW.out _ eH).mono ?_;rintro e w3 ⟨rfl,dU⟩))
  go_ret;exact⟨rfl,dU⟩
section
variable {w:World} {lo hi n cap:Nat} {s:Nat->Nat} {r:Raw}
def z6e (r:Raw) (a:Int):Int:=match r.M a with | none=>22 | some b=>if r.W a.toNat=B6 a b.1 b.2.1 then 0 else 21
def z4z (r:Raw) (a:Int):Int:=match r.M a with | none=>0 | some b=>if r.W a.toNat=B6 a b.1 b.2.1 then 0 else a
def U7 (n:Nat) (r:Raw):Prop:=∀ a b,r.M a=some b->0<=a/\a+b.2.1<=64*n/\1<=b.2.1/\b.2.1<=1024
theorem flt_facts {w:World} {g:Nat} {x y:Int} {T:TypeId} (h:w.heap[g]? = some (.cells #[.int .i64 x,.int .i64 y] T (0,0))) :
  w.cell? ⟨g,0,none⟩=some (.int .i64 x)/\w.cell? ⟨g,1,none⟩=some (.int .i64 y)/\w.frozen? ⟨g,0,none⟩=false/\w.frozen? ⟨g,1,none⟩=false:=by
 refine⟨?_,?_,?_,?_⟩ <;> simp[World.cell?,World.frozen?,h]
theorem J3 {w:World} {g:Nat} {x y x' y':Int} {T:TypeId} (h:w.heap[g]? = some (.cells #[.int .i64 x,.int .i64 y] T (0,0))) :
  ((w.setCell ⟨g,0,none⟩ (.int .i64 x')).setCell ⟨g,1,none⟩ (.int .i64 y')).heap[g]? = some (.cells #[.int .i64 x',.int .i64 y'] T (0,0)):=by
 simp[World.setCell,Array.getElem?_modify,h]
theorem Out.set2 {lo hi:Nat} {a w:World} (h:Out lo hi a w) {b o o':Nat} (hp:(lo<=b/\b<hi)\/a.heap.size<=b) (x y:Value):Out lo hi a ((w.setCell ⟨b,o,none⟩ x).setCell ⟨b,o',none⟩ y):=
 (h.setCell (p:=⟨b,o,none⟩) hp x).setCell (p:=⟨b,o',none⟩) hp y
def bz:Obj:=.cells #[.int .i64 0,.int .i64 0,.int .i64 0,.int .i64 0,.int .i64 0] 81
def bo (a k z x t:Int):Obj:=.cells #[.int .i64 a,.int .i64 k,.int .i64 z,.int .i64 x,.int .i64 t] 81
theorem F0 {w:World} {g:Nat} {a k z x t:Int} (h:w.heap[g]? = some (bo a k z x t)) :
  w.cell? ⟨g,0,none⟩=some (.int .i64 a)/\w.cell? ⟨g,1,none⟩=some (.int .i64 k)/\w.cell? ⟨g,2,none⟩=some (.int .i64 z)/\w.cell? ⟨g,3,none⟩=some (.int .i64 x)/\w.cell? ⟨g,4,none⟩=some (.int .i64 t):=by
 unfold bo at h;refine⟨?_,?_,?_,?_,?_⟩ <;> simp[World.cell?,h]
theorem z8n (h:RawAt w lo hi s n cap r) (hM:U7 n r) (a:Int):Kz 107 #[Pq (s 14),Iz a] w fun e w'=>e=.returned (z7d (z6e r a) (z4z r a))/\Out 0 0 w w':=by
 have h0:Out 0 0 w (w.alloc (Dz 0 0 46)):=(Out.refl 0 0 w).alloc _;have hz:(w.alloc (Dz 0 0 46)).heap[w.heap.size]? = some (Dz 0 0 46):=heap_alloc_new _ _;have HZ:=Q3 hz;have H0:=Q3 h0;cases hm:r.M a with
 | none=>
  have HB:=Q3 (z6g (h.quiet h0) hm);have e1:z6e r a=22:=by unfold z6e;rw[hm]
  have e2:z4z r a=0:=by unfold z4z;rw[hm]
  rw[e1,e2];clear h hM hm e1 e2 h0 hz;go_enter Tryz.func107,Tryz.ntmps107
  go_wp2_with (go_at_call 100;refine HB.out.mono ?_;rintro e w1 ⟨rfl,ho⟩;obtain⟨q0,q1,q2,q3⟩:=flt_facts ((ho.alloc (Ez 0 0 0 0 0 81)).heap HZ.out z0);have HO:=Q3 ho;clear ho);refine z4m Tryz.results107 rfl rfl (J3 ((HO.out.alloc _).heap HZ.out z0)) ⟨rfl,((H0.out.trans HO.out).alloc _).set2 (.inr (Nat.le_refl _)) _ _⟩
 | some b=>
  obtain⟨k,z,x,t⟩:=b;obtain⟨a0,a1',a2',a3'⟩:=hM a _ hm;have a1:a<64*n:=by simp only at a1' a2';omega
  clear a1' a2' a3';obtain⟨c,rfl⟩:∃ c:Nat,a=c:=⟨a.toNat,by omega⟩
  have HB:=Q3 (z0z (h.quiet h0) hm);have HH:=Q3 (fun w' (o:Out 0 0 w w')=>j1n (h.quiet o) (a:=c) (by omega) k z x t);have e1:z6e r (c:Int)=if r.W c=B6 c k z then 0 else 21:=by unfold z6e;rw[hm];rfl
  have e2:z4z r (c:Int)=if r.W c=B6 c k z then 0 else (c:Int):=by unfold z4z;rw[hm];rfl
  rw[e1,e2];have b0:(0:Int)<=(c:Int):=by omega
  generalize hcc:(c:Int)=a at *
  by_cases hv:r.W c=B6 a k z
  ·rw[if_pos hv,if_pos hv];have hb:(r.W c == B6 a k z)=true:=by simp[hv]
   rw[hb] at HH;clear h hM hm e1 e2 h0 hz hv hb a1;go_enter Tryz.func107,Tryz.ntmps107
   go_wp2_with (first
    | (go_at_call 100;refine HB.out.mono ?_;rintro e w1 ⟨rfl,ho⟩;obtain⟨q0,q1,q2,q3⟩:=flt_facts ((ho.alloc (Ez a k z x t 81)).heap HZ.out z0);have HO:=Q3 (ho.alloc (Ez a k z x t 81));clear ho)
    | (go_at_call 157;refine(HH.out _ (H0.out.trans HO.out)).mono ?_;rintro e w2 ⟨rfl,ho⟩;obtain⟨q4,q5,q6,q7⟩:=flt_facts ((HO.out.trans ho).heap HZ.out z0);have aH:=Q3 (HO.out.trans ho);clear ho q0 q1 q2 q3))
   refine z4m Tryz.results107 rfl rfl (J3 (aH.out.heap HZ.out z0)) ⟨rfl,(H0.out.trans aH.out).set2 (.inr (Nat.le_refl _)) _ _⟩
  ·rw[if_neg hv,if_neg hv];have hb:(r.W c == B6 a k z)=false:=by simp[hv]
   rw[hb] at HH;clear h hM hm e1 e2 h0 hz hv hb a1;go_enter Tryz.func107,Tryz.ntmps107
   go_wp2_with (first
    | (go_at_call 100;refine HB.out.mono ?_;rintro e w1 ⟨rfl,ho⟩;obtain⟨q0,q1,q2,q3⟩:=flt_facts ((ho.alloc (Ez a k z x t 81)).heap HZ.out z0);have HO:=Q3 (ho.alloc (Ez a k z x t 81));clear ho)
    | (go_at_call 157;refine(HH.out _ (H0.out.trans HO.out)).mono ?_;rintro e w2 ⟨rfl,ho⟩;obtain⟨q4,q5,q6,q7⟩:=flt_facts ((HO.out.trans ho).heap HZ.out z0);have aH:=Q3 (HO.out.trans ho);clear ho q0 q1 q2 q3))
   refine z4m Tryz.results107 rfl rfl (J3 (aH.out.heap HZ.out z0)) ⟨rfl,(H0.out.trans aH.out).set2 (.inr (Nat.le_refl _)) _ _⟩
def q3a (r:Raw) (a i:Int):Int:=match r.M a with | none=>22 | some b=>if r.W a.toNat=B6 a b.1 b.2.1 then (if i<1\/b.2.1<=i then 23 else 0) else 21
theorem wrdA (r:Raw) (a i:Int) (h:z6e r a ≠ 0):q3a r a i=z6e r a:=by
 unfold q3a;unfold z6e at h ⊢;cases hm:r.M a with
 | none=>rfl
 | some b=>
  rw[hm] at h;by_cases hv:r.W a.toNat=B6 a b.1 b.2.1
  ·exact absurd (by simp[hv]) h
  ·simp[hv]
theorem chk0 {r:Raw} {a:Int} (h:z6e r a=0):z4z r a=0/\∃ b,r.M a=some b/\r.W a.toNat=B6 a b.1 b.2.1:=by
 unfold z6e at h;unfold z4z;cases hm:r.M a with
 | none=>rw[hm] at h;simp at h
 | some b=>
  rw[hm] at h;by_cases hv:r.W a.toNat=B6 a b.1 b.2.1
  ·exact⟨by simp[hv],b,rfl,hv⟩
  ·simp[hv] at h
theorem q1p (h:RawAt w lo hi s n cap r) (hM:U7 n r) (a i:Int):Kz 144 #[Pq (s 14),Iz a,Iz i] w fun e w'=>e=.returned (z7d (q3a r a i) (z4z r a))/\Out 0 0 w w':=by
 have h0:Out 0 0 w (w.alloc (Dz 0 0 46)):=(Out.refl 0 0 w).alloc _;have hz:(w.alloc (Dz 0 0 46)).heap[w.heap.size]? = some (Dz 0 0 46):=heap_alloc_new _ _;have HZ:=Q3 hz;have H0:=Q3 h0;have HC:=Q3 (z8n (h.quiet h0) hM a);unfold z7d at HC;by_cases hc:z6e r a=0
 ·obtain⟨e2,⟨k,z,x,t⟩,hm,hv⟩:=chk0 hc;rw[hc,e2] at HC;rw[e2];have HB:=Q3 (fun w' (o:Out 0 0 w w')=>z0z (h.quiet o) hm);have e3:q3a r a i=if i<1\/z<=i then 23 else 0:=by unfold q3a;rw[hm];simp only;rw[if_pos hv]
  rw[e3];have e4:((0:Int) != 0)=false:=rfl;by_cases h1:i<1
  ·rw[if_pos (.inl h1)];clear h hM hm e2 e3 h0 hz hv hc;go_enter Tryz.func144,Tryz.ntmps144
   go_wp2_with (first
    | (go_at_call 107;refine HC.out.mono ?_;rintro e w1 ⟨rfl,ho⟩;have HO:=Q3 (ho.alloc (Dz 0 0 46));clear ho)
    | (go_at_call 100;refine(HB.out _ (H0.out.trans HO.out)).mono ?_;rintro e w2 ⟨rfl,ho⟩;obtain⟨q4,q5,q6,q7⟩:=flt_facts (((HO.out.trans ho).alloc (Ez a k z x t 81)).heap HZ.out z0);have aH:=Q3 ((HO.out.trans ho).alloc (Ez a k z x t 81));clear ho))
   refine z4m Tryz.results144 rfl rfl (J3 (aH.out.heap HZ.out z0)) ⟨rfl,(H0.out.trans aH.out).set2 (.inr (Nat.le_refl _)) _ _⟩
  ·have h1':1<=i:=by omega
   by_cases h2:z<=i
   ·rw[if_pos (.inr h2)];clear h hM hm e2 e3 h0 hz hv hc h1;go_enter Tryz.func144,Tryz.ntmps144
    go_wp2_with (first
     | (go_at_call 107;refine HC.out.mono ?_;rintro e w1 ⟨rfl,ho⟩;have HO:=Q3 (ho.alloc (Dz 0 0 46));clear ho)
     | (go_at_call 100;refine(HB.out _ (H0.out.trans HO.out)).mono ?_;rintro e w2 ⟨rfl,ho⟩;obtain⟨q4,q5,q6,q7⟩:=flt_facts (((HO.out.trans ho).alloc (Ez a k z x t 81)).heap HZ.out z0);have aH:=Q3 ((HO.out.trans ho).alloc (Ez a k z x t 81));clear ho))
    refine z4m Tryz.results144 rfl rfl (J3 (aH.out.heap HZ.out z0)) ⟨rfl,(H0.out.trans aH.out).set2 (.inr (Nat.le_refl _)) _ _⟩
   ·rw[if_neg (by omega)];have iD:i<z:=by omega
    clear h hM hm e2 e3 h0 hz hv hc h1 h2;go_enter Tryz.func144,Tryz.ntmps144
    go_wp2_with (first
     | (go_at_call 107;refine HC.out.mono ?_;rintro e w1 ⟨rfl,ho⟩;have HO:=Q3 (ho.alloc (Dz 0 0 46));clear ho)
     | (go_at_call 100;refine(HB.out _ (H0.out.trans HO.out)).mono ?_;rintro e w2 ⟨rfl,ho⟩;obtain⟨q4,q5,q6,q7⟩:=flt_facts (((HO.out.trans ho).alloc (Ez a k z x t 81)).heap HZ.out z0);have aH:=Q3 ((HO.out.trans ho).alloc (Ez a k z x t 81));clear ho))
    refine z4m Tryz.results144 rfl rfl (J3 (aH.out.heap HZ.out z0)) ⟨rfl,(H0.out.trans aH.out).set2 (.inr (Nat.le_refl _)) _ _⟩
 ·rw[wrdA r a i hc];have e4:(z6e r a != 0)=true:=by simpa using hc
  generalize z6e r a=u at *
  generalize z4z r a=v at *
  clear h hM h0 hz hc;go_enter Tryz.func144,Tryz.ntmps144
  go_wp2_with (first
   | (go_at_call 107;refine HC.out.mono ?_;rintro e w1 ⟨rfl,ho⟩;obtain⟨q4,q5,q6,q7⟩:=flt_facts ((ho.alloc (Dz u v 46)).heap HZ.out z0);have HO:=Q3 (ho.alloc (Dz u v 46));clear ho))
  refine z4m Tryz.results144 rfl rfl (J3 (HO.out.heap HZ.out z0)) ⟨rfl,(H0.out.trans HO.out).set2 (.inr (Nat.le_refl _)) _ _⟩
end
theorem K8 {w w':World} (h:Below w.heap.size w w'):Out 0 0 w w':=⟨h.os,h.tape,h.output,h.size,fun k hk _=>h.block k hk⟩
theorem z1p (w:World) (g:Nat) (y0 y1:Value):Out g (g+1) w ((w.setCell ⟨g,0,none⟩ y0).setCell ⟨g,1,none⟩ y1):=
 (Out.refl _ _ _).zo2 z1 _ _
theorem z9t {g:Nat} {x y:Int} {w:World} (hg:w.heap[g]? = some (.cells #[.int .i64 x,.int .i64 y] 46 (0,0))) :
  CallsD Tryz.prog 38 #[.pointer (some ⟨g,0,none⟩)] .returning w fun e u' w'=>e=.returned (.tuple #[])/\u'=.returning/\w'.heap[g]? = some (.cells #[.int .i64 0,.int .i64 0] 46 (0,0))/\Out g (g+1) w w':=by
 refine callsD_of_wpS Tryz.func38 rfl fun c₀ cs hu=>?_
 apply wpS_region;simp[wpOpsS,go_sem,recoverD,hu,Tryz.ntmps38,Exit.thenS];refine(z1u w).mono ?_;rintro e w1 ⟨rfl,o1⟩;have h1:=o1.heap hg z0;obtain⟨a1,a2,a3,a4⟩:=flt_facts h1;have h2:=J3 (x':=0) (y':=0) h1;have h3:=(o1.any g (g+1)).trans (z1p w1 g (.int .i64 0) (.int .i64 0));have c2:(w1.setCell ⟨g,0,none⟩ (.int .i64 0)).cell? ⟨g,1,none⟩=some (.int .i64 y):=by simp[World.cell?,World.setCell,Array.getElem?_modify,h1]
 have c3:(w1.setCell ⟨g,0,none⟩ (.int .i64 0)).frozen? ⟨g,1,none⟩=false:=by simp[World.frozen?,World.setCell,Array.getElem?_modify,h1]
 simp[go_sem,storeCells,a1,a2,a3,a4,c2,c3,bodyPostS,results,Tryz.results38];cases c₀;simp_all
theorem z2k {g:Nat} {x y e a:Int} {older:List PanicEntry} {w:World} (hg:w.heap[g]? = some (.cells #[.int .i64 x,.int .i64 y] 46 (0,0))) :
  CallsD Tryz.prog 38 #[.pointer (some ⟨g,0,none⟩)] (.panicking (z0o e a :: older)) w fun e' u' w'=>e'=.returned (.tuple #[])/\u'=.panicking ({ v:=.iface 162 (.agg #[.int .i64 e,.int .i64 a]),recovered:=true } :: older)/\w'.heap[g]? = some (.cells #[.int .i64 e,.int .i64 a] 46 (0,0))/\Out g (g+1) w w':=by
 refine callsD_of_wpS Tryz.func38 rfl fun c₀ cs hu=>?_
 apply wpS_region;unfold z0o at hu;simp[wpOpsS,go_sem,recoverD,hu,Tryz.ntmps38,Exit.thenS];refine(z1a e a w).mono ?_;rintro e' w1 ⟨rfl,o1⟩;have h1:=o1.heap hg z0;obtain⟨a1,a2,a3,a4⟩:=flt_facts h1;have h2:=J3 (x':=e) (y':=a) h1;have h3:=(o1.any g (g+1)).trans (z1p w1 g (.int .i64 e) (.int .i64 a));have c2:(w1.setCell ⟨g,0,none⟩ (.int .i64 e)).cell? ⟨g,1,none⟩=some (.int .i64 y):=by simp[World.cell?,World.setCell,Array.getElem?_modify,h1]
 have c3:(w1.setCell ⟨g,0,none⟩ (.int .i64 e)).frozen? ⟨g,1,none⟩=false:=by simp[World.frozen?,World.setCell,Array.getElem?_modify,h1]
 simp[go_sem,storeCells,a1,a2,a3,a4,c2,c3,bodyPostS,results,Tryz.results38];exact⟨h2,h3⟩
theorem z9u {g:Nat} {x y:Int} {w:World} (hg:w.heap[g]? = some (.cells #[.int .i64 x,.int .i64 y] 46 (0,0))) :
  CallsD Tryz.prog 126 #[.pointer (some ⟨g,0,none⟩)] .returning w fun e u' w'=>e=.returned (.tuple #[])/\u'=.returning/\w'.heap[g]? = some (.cells #[.int .i64 0,.int .i64 0] 46 (0,0))/\Out g (g+1) w w':=by
 refine callsD_of_wpS Tryz.func126 rfl fun c₀ cs hu=>?_
 apply wpS_region;simp[wpOpsS,go_sem,recoverD,hu,Tryz.ntmps126,Exit.thenS];refine(z1u w).mono ?_;rintro e w1 ⟨rfl,o1⟩;have h1:=o1.heap hg z0;obtain⟨a1,a2,a3,a4⟩:=flt_facts h1;have h2:=J3 (x':=0) (y':=0) h1;have h3:=(o1.any g (g+1)).trans (z1p w1 g (.int .i64 0) (.int .i64 0));have c2:(w1.setCell ⟨g,0,none⟩ (.int .i64 0)).cell? ⟨g,1,none⟩=some (.int .i64 y):=by simp[World.cell?,World.setCell,Array.getElem?_modify,h1]
 have c3:(w1.setCell ⟨g,0,none⟩ (.int .i64 0)).frozen? ⟨g,1,none⟩=false:=by simp[World.frozen?,World.setCell,Array.getElem?_modify,h1]
 simp[go_sem,storeCells,a1,a2,a3,a4,c2,c3,bodyPostS,results,Tryz.results126];cases c₀;simp_all
theorem z9v {g:Nat} {x y e a:Int} {older:List PanicEntry} {w:World} (hg:w.heap[g]? = some (.cells #[.int .i64 x,.int .i64 y] 46 (0,0))) :
  CallsD Tryz.prog 126 #[.pointer (some ⟨g,0,none⟩)] (.panicking (z0o e a :: older)) w fun e' u' w'=>e'=.returned (.tuple #[])/\u'=.panicking ({ v:=.iface 162 (.agg #[.int .i64 e,.int .i64 a]),recovered:=true } :: older)/\w'.heap[g]? = some (.cells #[.int .i64 e,.int .i64 a] 46 (0,0))/\Out g (g+1) w w':=by
 refine callsD_of_wpS Tryz.func126 rfl fun c₀ cs hu=>?_
 apply wpS_region;unfold z0o at hu;simp[wpOpsS,go_sem,recoverD,hu,Tryz.ntmps126,Exit.thenS];refine(z1a e a w).mono ?_;rintro e' w1 ⟨rfl,o1⟩;have h1:=o1.heap hg z0;obtain⟨a1,a2,a3,a4⟩:=flt_facts h1;have h2:=J3 (x':=e) (y':=a) h1;have h3:=(o1.any g (g+1)).trans (z1p w1 g (.int .i64 e) (.int .i64 a));have c2:(w1.setCell ⟨g,0,none⟩ (.int .i64 e)).cell? ⟨g,1,none⟩=some (.int .i64 y):=by simp[World.cell?,World.setCell,Array.getElem?_modify,h1]
 have c3:(w1.setCell ⟨g,0,none⟩ (.int .i64 e)).frozen? ⟨g,1,none⟩=false:=by simp[World.frozen?,World.setCell,Array.getElem?_modify,h1]
 simp[go_sem,storeCells,a1,a2,a3,a4,c2,c3,bodyPostS,results,Tryz.results126];exact⟨h2,h3⟩
theorem q1n {g:Nat} {x y:Int} {w:World} (hg:w.heap[g]? = some (.cells #[.int .i64 x,.int .i64 y] 46 (0,0))) :
  CallsD Tryz.prog 53 #[.pointer (some ⟨g,0,none⟩)] .returning w fun e u' w'=>e=.returned (.tuple #[])/\u'=.returning/\w'.heap[g]? = some (.cells #[.int .i64 0,.int .i64 0] 46 (0,0))/\Out g (g+1) w w':=by
 refine callsD_of_wpS Tryz.func53 rfl fun c₀ cs hu=>?_
 apply wpS_region;simp[wpOpsS,go_sem,recoverD,hu,Tryz.ntmps53,Exit.thenS];refine(z1u w).mono ?_;rintro e w1 ⟨rfl,o1⟩;have h1:=o1.heap hg z0;obtain⟨a1,a2,a3,a4⟩:=flt_facts h1;have h2:=J3 (x':=0) (y':=0) h1;have h3:=(o1.any g (g+1)).trans (z1p w1 g (.int .i64 0) (.int .i64 0));have c2:(w1.setCell ⟨g,0,none⟩ (.int .i64 0)).cell? ⟨g,1,none⟩=some (.int .i64 y):=by simp[World.cell?,World.setCell,Array.getElem?_modify,h1]
 have c3:(w1.setCell ⟨g,0,none⟩ (.int .i64 0)).frozen? ⟨g,1,none⟩=false:=by simp[World.frozen?,World.setCell,Array.getElem?_modify,h1]
 simp[go_sem,storeCells,a1,a2,a3,a4,c2,c3,bodyPostS,results,Tryz.results53];cases c₀;simp_all
theorem z2z {g:Nat} {x y e a:Int} {older:List PanicEntry} {w:World} (hg:w.heap[g]? = some (.cells #[.int .i64 x,.int .i64 y] 46 (0,0))) :
  CallsD Tryz.prog 53 #[.pointer (some ⟨g,0,none⟩)] (.panicking (z0o e a :: older)) w fun e' u' w'=>e'=.returned (.tuple #[])/\u'=.panicking ({ v:=.iface 162 (.agg #[.int .i64 e,.int .i64 a]),recovered:=true } :: older)/\w'.heap[g]? = some (.cells #[.int .i64 e,.int .i64 a] 46 (0,0))/\Out g (g+1) w w':=by
 refine callsD_of_wpS Tryz.func53 rfl fun c₀ cs hu=>?_
 apply wpS_region;unfold z0o at hu;simp[wpOpsS,go_sem,recoverD,hu,Tryz.ntmps53,Exit.thenS];refine(z1a e a w).mono ?_;rintro e' w1 ⟨rfl,o1⟩;have h1:=o1.heap hg z0;obtain⟨a1,a2,a3,a4⟩:=flt_facts h1;have h2:=J3 (x':=e) (y':=a) h1;have h3:=(o1.any g (g+1)).trans (z1p w1 g (.int .i64 e) (.int .i64 a));have c2:(w1.setCell ⟨g,0,none⟩ (.int .i64 e)).cell? ⟨g,1,none⟩=some (.int .i64 y):=by simp[World.cell?,World.setCell,Array.getElem?_modify,h1]
 have c3:(w1.setCell ⟨g,0,none⟩ (.int .i64 e)).frozen? ⟨g,1,none⟩=false:=by simp[World.frozen?,World.setCell,Array.getElem?_modify,h1]
 simp[go_sem,storeCells,a1,a2,a3,a4,c2,c3,bodyPostS,results,Tryz.results53];exact⟨h2,h3⟩
theorem q1o {g:Nat} {x y:Int} {w:World} (hg:w.heap[g]? = some (.cells #[.int .i64 x,.int .i64 y] 46 (0,0))) :
  CallsD Tryz.prog 48 #[.pointer (some ⟨g,0,none⟩)] .returning w fun e u' w'=>e=.returned (.tuple #[])/\u'=.returning/\w'.heap[g]? = some (.cells #[.int .i64 0,.int .i64 0] 46 (0,0))/\Out g (g+1) w w':=by
 refine callsD_of_wpS Tryz.func48 rfl fun c₀ cs hu=>?_
 apply wpS_region;simp[wpOpsS,go_sem,recoverD,hu,Tryz.ntmps48,Exit.thenS];refine(z1u w).mono ?_;rintro e w1 ⟨rfl,o1⟩;have h1:=o1.heap hg z0;obtain⟨a1,a2,a3,a4⟩:=flt_facts h1;have h2:=J3 (x':=0) (y':=0) h1;have h3:=(o1.any g (g+1)).trans (z1p w1 g (.int .i64 0) (.int .i64 0));have c2:(w1.setCell ⟨g,0,none⟩ (.int .i64 0)).cell? ⟨g,1,none⟩=some (.int .i64 y):=by simp[World.cell?,World.setCell,Array.getElem?_modify,h1]
 have c3:(w1.setCell ⟨g,0,none⟩ (.int .i64 0)).frozen? ⟨g,1,none⟩=false:=by simp[World.frozen?,World.setCell,Array.getElem?_modify,h1]
 simp[go_sem,storeCells,a1,a2,a3,a4,c2,c3,bodyPostS,results,Tryz.results48];cases c₀;simp_all
theorem z1t {g:Nat} {x y e a:Int} {older:List PanicEntry} {w:World} (hg:w.heap[g]? = some (.cells #[.int .i64 x,.int .i64 y] 46 (0,0))) :
  CallsD Tryz.prog 48 #[.pointer (some ⟨g,0,none⟩)] (.panicking (z0o e a :: older)) w fun e' u' w'=>e'=.returned (.tuple #[])/\u'=.panicking ({ v:=.iface 162 (.agg #[.int .i64 e,.int .i64 a]),recovered:=true } :: older)/\w'.heap[g]? = some (.cells #[.int .i64 e,.int .i64 a] 46 (0,0))/\Out g (g+1) w w':=by
 refine callsD_of_wpS Tryz.func48 rfl fun c₀ cs hu=>?_
 apply wpS_region;unfold z0o at hu;simp[wpOpsS,go_sem,recoverD,hu,Tryz.ntmps48,Exit.thenS];refine(z1a e a w).mono ?_;rintro e' w1 ⟨rfl,o1⟩;have h1:=o1.heap hg z0;obtain⟨a1,a2,a3,a4⟩:=flt_facts h1;have h2:=J3 (x':=e) (y':=a) h1;have h3:=(o1.any g (g+1)).trans (z1p w1 g (.int .i64 e) (.int .i64 a));have c2:(w1.setCell ⟨g,0,none⟩ (.int .i64 e)).cell? ⟨g,1,none⟩=some (.int .i64 y):=by simp[World.cell?,World.setCell,Array.getElem?_modify,h1]
 have c3:(w1.setCell ⟨g,0,none⟩ (.int .i64 e)).frozen? ⟨g,1,none⟩=false:=by simp[World.frozen?,World.setCell,Array.getElem?_modify,h1]
 simp[go_sem,storeCells,a1,a2,a3,a4,c2,c3,bodyPostS,results,Tryz.results48];exact⟨h2,h3⟩
theorem z5h {g:Nat} {x y:Int} {w:World} (hg:w.heap[g]? = some (.cells #[.int .i64 x,.int .i64 y] 46 (0,0))) :
  CallsD Tryz.prog 120 #[.pointer (some ⟨g,0,none⟩)] .returning w fun e u' w'=>e=.returned (.tuple #[])/\u'=.returning/\w'.heap[g]? = some (.cells #[.int .i64 0,.int .i64 0] 46 (0,0))/\Out g (g+1) w w':=by
 refine callsD_of_wpS Tryz.func120 rfl fun c₀ cs hu=>?_
 apply wpS_region;simp[wpOpsS,go_sem,recoverD,hu,Tryz.ntmps120,Exit.thenS];refine(z1u w).mono ?_;rintro e w1 ⟨rfl,o1⟩;have h1:=o1.heap hg z0;obtain⟨a1,a2,a3,a4⟩:=flt_facts h1;have h2:=J3 (x':=0) (y':=0) h1;have h3:=(o1.any g (g+1)).trans (z1p w1 g (.int .i64 0) (.int .i64 0));have c2:(w1.setCell ⟨g,0,none⟩ (.int .i64 0)).cell? ⟨g,1,none⟩=some (.int .i64 y):=by simp[World.cell?,World.setCell,Array.getElem?_modify,h1]
 have c3:(w1.setCell ⟨g,0,none⟩ (.int .i64 0)).frozen? ⟨g,1,none⟩=false:=by simp[World.frozen?,World.setCell,Array.getElem?_modify,h1]
 simp[go_sem,storeCells,a1,a2,a3,a4,c2,c3,bodyPostS,results,Tryz.results120];cases c₀;simp_all
theorem z2f {g:Nat} {x y e a:Int} {older:List PanicEntry} {w:World} (hg:w.heap[g]? = some (.cells #[.int .i64 x,.int .i64 y] 46 (0,0))) :
  CallsD Tryz.prog 120 #[.pointer (some ⟨g,0,none⟩)] (.panicking (z0o e a :: older)) w fun e' u' w'=>e'=.returned (.tuple #[])/\u'=.panicking ({ v:=.iface 162 (.agg #[.int .i64 e,.int .i64 a]),recovered:=true } :: older)/\w'.heap[g]? = some (.cells #[.int .i64 e,.int .i64 a] 46 (0,0))/\Out g (g+1) w w':=by
 refine callsD_of_wpS Tryz.func120 rfl fun c₀ cs hu=>?_
 apply wpS_region;unfold z0o at hu;simp[wpOpsS,go_sem,recoverD,hu,Tryz.ntmps120,Exit.thenS];refine(z1a e a w).mono ?_;rintro e' w1 ⟨rfl,o1⟩;have h1:=o1.heap hg z0;obtain⟨a1,a2,a3,a4⟩:=flt_facts h1;have h2:=J3 (x':=e) (y':=a) h1;have h3:=(o1.any g (g+1)).trans (z1p w1 g (.int .i64 e) (.int .i64 a));have c2:(w1.setCell ⟨g,0,none⟩ (.int .i64 e)).cell? ⟨g,1,none⟩=some (.int .i64 y):=by simp[World.cell?,World.setCell,Array.getElem?_modify,h1]
 have c3:(w1.setCell ⟨g,0,none⟩ (.int .i64 e)).frozen? ⟨g,1,none⟩=false:=by simp[World.frozen?,World.setCell,Array.getElem?_modify,h1]
 simp[go_sem,storeCells,a1,a2,a3,a4,c2,c3,bodyPostS,results,Tryz.results120];exact⟨h2,h3⟩
theorem K7 {w:World} {g:Nat} {x0 x1 x2 x3 x4:Value} {T:TypeId} (h:w.heap[g]? = some (.cells #[x0,x1,x2,x3,x4] T (0,0))):w.cell? ⟨g,0,none⟩=some x0/\w.cell? ⟨g,1,none⟩=some x1/\w.cell? ⟨g,2,none⟩=some x2/\w.cell? ⟨g,3,none⟩=some x3/\w.cell? ⟨g,4,none⟩=some x4/\∀ i,w.frozen? ⟨g,i,none⟩=false:=by
 simp[World.cell?,World.frozen?,h]
def z2v (r:Int):Bool:=r == 2 || r == 3 || r == 4 || r == 5
def x7u (k:Int):Bool:=decide (1<=k) && decide (k<=10)
def z5e (ba bk ta:Int):Bool:=bk != 13 || decide (ba<ta)
def z8y (ba:Int) (b:Blk) (r ta:Int) (t:Blk):Bool:=
 if r=6 then t.1 == 11 else if r=7 then t.1 == 6 && t.2.2.2 == b.2.2.2 else if r=8 then t.1 == 12 && t.2.2.2 == b.2.2.1 else if r=9 then t.1 == 13 && t.2.2.2 == b.2.2.2 && z5e ba b.1 ta else x7u t.1
theorem U2 (b:Nat) (w:World):Kz 40 #[Pq b] w fun e w'=>e=.returned (Pq b)/\w'=w:=by
 go_enter Tryz.func40,Tryz.ntmps40
 go_wp2;go_ret;exact⟨rfl,rfl⟩
theorem z9e (r:Int) (w:World):Kz 104 #[Iz r] w fun e w'=>e=.returned (.bool (z2v r))/\w'=w:=by
 have h:r=2\/r=3\/r=4\/r=5\/((r == 2)=false/\(r == 3)=false/\(r == 4)=false/\(r == 5)=false):=by simp;omega
 rcases h with rfl | rfl | rfl | rfl | ⟨h1,h2,h3,h4⟩
 ·go_enter Tryz.func104,Tryz.ntmps104
  go_wp2;go_ret;exact⟨rfl,rfl⟩
 ·go_enter Tryz.func104,Tryz.ntmps104
  go_wp2;go_ret;exact⟨rfl,rfl⟩
 ·go_enter Tryz.func104,Tryz.ntmps104
  go_wp2;go_ret;exact⟨rfl,rfl⟩
 ·go_enter Tryz.func104,Tryz.ntmps104
  go_wp2;go_ret;exact⟨rfl,rfl⟩
 ·go_enter Tryz.func104,Tryz.ntmps104
  go_wp2;go_ret;exact⟨by unfold z2v;rw[h1,h2,h3,h4];rfl,rfl⟩
theorem j3a (ba bk bz bx bt ta tk tz tx tt:Int) (w:World):Kz 160 #[Wz ba bk bz bx bt,Wz ta tk tz tx tt] w fun e w'=>e=.returned (.bool (z5e ba bk ta))/\Out 0 0 w w':=by
 by_cases h:bk=13
 ·subst h;go_enter Tryz.func160,Tryz.ntmps160
  go_wp2;go_ret;exact⟨by unfold z5e;simp,((Out.refl 0 0 w).alloc _).alloc _⟩
 ·have h1:(bk != 13)=true:=by simpa using h
  go_enter Tryz.func160,Tryz.ntmps160
  go_wp2;go_ret;exact⟨by unfold z5e;rw[h1];rfl,((Out.refl 0 0 w).alloc _).alloc _⟩
theorem q4a (ba bk bz bx bt r ta tk tz tx tt:Int) (w:World):Kz 110 #[Wz ba bk bz bx bt,Iz r,Wz ta tk tz tx tt] w fun e w'=>e=.returned (.bool (z8y ba (bk,bz,bx,bt) r ta (tk,tz,tx,tt)))/\Out 0 0 w w':=by
 have hO:Out 0 0 w ((w.alloc (Ez ba bk bz bx bt 81)).alloc (Ez ta tk tz tx tt 81)):=((Out.refl 0 0 w).alloc _).alloc _;have HO:=Q3 hO;clear hO;have h:r=6\/r=7\/r=8\/r=9\/((r == 6)=false/\(r == 7)=false/\(r == 8)=false/\(r == 9)=false):=by simp;omega
 rcases h with rfl | rfl | rfl | rfl | ⟨h1,h2,h3,h4⟩
 ·go_enter Tryz.func110,Tryz.ntmps110
  go_wp2;go_ret;exact⟨rfl,HO.out⟩
 ·by_cases k:tk=6
  ·subst k;go_enter Tryz.func110,Tryz.ntmps110
   go_wp2;go_ret;exact⟨rfl,HO.out⟩
  ·have k1:(tk == 6)=false:=by simpa using k
   go_enter Tryz.func110,Tryz.ntmps110
   go_wp2;go_ret;exact⟨by show _=Ending.returned (.bool (tk == 6 && tt == bt));rw[k1];rfl,HO.out⟩
 ·by_cases k:tk=12
  ·subst k;go_enter Tryz.func110,Tryz.ntmps110
   go_wp2;go_ret;exact⟨rfl,HO.out⟩
  ·have k1:(tk == 12)=false:=by simpa using k
   go_enter Tryz.func110,Tryz.ntmps110
   go_wp2;go_ret;exact⟨by show _=Ending.returned (.bool (tk == 12 && tt == bx));rw[k1];rfl,HO.out⟩
 ·by_cases k:tk=13
  ·subst k;by_cases k2:tt=bt
   ·subst k2;have k3:(tt == tt)=true:=by simp
    go_enter Tryz.func110,Tryz.ntmps110
    go_wp2_with fail;refine(j3a _ _ _ _ _ _ _ _ _ _ _).mono ?_;rintro e w1 ⟨rfl,o1⟩;have aH:=Q3 (HO.out.trans o1);clear o1;go_wp2;go_ret;exact⟨by show _=Ending.returned (.bool ((13:Int) == 13 && tt == tt && z5e ba bk ta));simp,aH.out⟩
   ·have k3:(tt == bt)=false:=by simpa using k2
    go_enter Tryz.func110,Tryz.ntmps110
    go_wp2;go_ret;exact⟨by show _=Ending.returned (.bool ((13:Int) == 13 && tt == bt && z5e ba bk ta));rw[k3];simp,HO.out⟩
  ·have k1:(tk == 13)=false:=by simpa using k
   go_enter Tryz.func110,Tryz.ntmps110
   go_wp2;go_ret;exact⟨by show _=Ending.returned (.bool (tk == 13 && tt == bt && z5e ba bk ta));rw[k1];rfl,HO.out⟩
 ·go_enter Tryz.func110,Tryz.ntmps110
  go_wp2_with fail;refine(q8n _ _).mono ?_;rintro e w1 ⟨rfl,rfl⟩;go_wp2;go_ret;refine⟨?_,HO.out⟩;unfold z8y;rw[if_neg (by simpa using h1),if_neg (by simpa using h2),if_neg (by simpa using h3),if_neg (by simpa using h4)];rfl
def F8 (r:Int):Bool:=r != 0 && r != 1
theorem z3x (a k s x t i:Int) {w:World} (hT:Tab w) (s1:-9223372036854775808<=s) (s2:s<=9223372036854775807) (hf:F8 (J6 k s i)=true) :
  Kz 50 #[Wz a k s x t,Iz i] w fun e w'=>e=.returned (Iz (J6 k s i))/\Out 0 0 w w':=by
 have HR:=Q3 (fun(w:World) (hT:Tab w)=>z4n k s i hT s1 s2);have HT:=Q3 hT;generalize J6 k s i=r at *
 have h1:(r != 0)=true:=by unfold F8 at hf;simp at hf ⊢;omega
 have h2:(r != 1)=true:=by unfold F8 at hf;simp at hf ⊢;omega
 clear hT s1 s2 hf;go_enter Tryz.func50,Tryz.ntmps50
 go_wp2_with fail;refine(HR.out _ (HT.out.quiet ((Out.refl 0 0 w).alloc _))).mono ?_;rintro e w1 ⟨rfl,rfl⟩;go_wp2_with fail;refine(z0k _ _).mono ?_;rintro e w1 ⟨rfl,rfl⟩;go_wp2;go_ret;exact⟨rfl,(Out.refl 0 0 w).alloc _⟩
theorem q9e (a k s x t i:Int) {w:World} (hT:Tab w) (s1:-9223372036854775808<=s) (s2:s<=9223372036854775807) (hf:F8 (J6 k s i)=false) :
  Kz 50 #[Wz a k s x t,Iz i] w fun e w'=>e=.panicked [z0o 32 0]/\Out 0 0 w w':=by
 have HR:=Q3 (fun(w:World) (hT:Tab w)=>z4n k s i hT s1 s2);have HT:=Q3 hT;generalize J6 k s i=r at *
 have h:r=0\/r=1:=by unfold F8 at hf;simp at hf;omega
 clear hT s1 s2 hf;rcases h with rfl | rfl <;>
 ·go_enter Tryz.func50,Tryz.ntmps50
  go_wp2_with fail;refine(HR.out _ (HT.out.quiet ((Out.refl 0 0 w).alloc _))).mono ?_;rintro e w1 ⟨rfl,rfl⟩;go_wp2_with fail;refine(z2o _ _).mono ?_;rintro e w1 ⟨rfl,rfl⟩;exact⟨rfl,rfl,(Out.refl 0 0 w).alloc _⟩
end Go.Proofs.YtjgnogflgoihfaaGreatDoor
namespace Go.Proofs.YtjgnogflgoihfaaGreatDoor
open Go.RowKit
theorem eqv (a b c d:Int) (W:World):(binOp .eql 32 (.agg #[.int .i64 a,.int .i64 b]) (.agg #[.int .i64 c,.int .i64 d])).run Tryz.prog W=.ok (.bool (a == c && b == d)) W:=by
 cases h1:(a == c) <;> cases h2:(b == d) <;> go_simp
theorem eqf (a b c d:Int) (W:World):(binOp .eql 46 (.agg #[.int .i64 a,.int .i64 b]) (.agg #[.int .i64 c,.int .i64 d])).run Tryz.prog W=.ok (.bool (a == c && b == d)) W:=by
 cases h1:(a == c) <;> cases h2:(b == d) <;> go_simp
end Go.Proofs.YtjgnogflgoihfaaGreatDoor
