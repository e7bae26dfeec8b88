import Derived.Test.YtjbbkeoolodeaabGreatDoorB06
import Derived.Lib.SliceRun
import Derived.Deep.AppendLies
import Derived.OwnWalk
import Derived.Test.YtjbbkeoolodeaabGreatDoorB03
import Derived.Test.YtjbbkeoolodeaabGreatDoorB05
import Derived.Deep.RegionHeld3
import Derived.Test.YtjbbkeoolodeaabGreatDoorB01
import Derived.Test.YtjbbkeoolodeaabGreatDoorB00
import Derived.Maps.OwnSet
namespace Go.Proofs.YtjbbkeoolodeaabGreatDoor
open Go.RowKit
set_option linter.unusedVariables false
set_option maxRecDepth 100000
set_option maxHeartbeats 16000000
set_option linter.unusedSimpArgs false
def Box (w:World) (g:Nat) (T:TypeId) (v:Value):Prop:=w.heap[g]? = some (.cells #[v] T (0,0))
theorem Box.cell {w:World} {g:Nat} {T:TypeId} {v:Value} (h:Box w g T v):w.cell? ⟨g,0,none⟩=some v:=by
 unfold Box at h;simp[World.cell?,h]
theorem Box.frozen {w:World} {g:Nat} {T:TypeId} {v:Value} (h:Box w g T v):w.frozen? ⟨g,0,none⟩=false:=by
 unfold Box at h;simp[World.frozen?,h]
theorem Box.lt {w:World} {g:Nat} {T:TypeId} {v:Value} (h:Box w g T v):g<w.heap.size:=Q4 h
theorem Box.kept {w w':World} {g lo hi:Nat} {T:TypeId} {v:Value} (h:Box w g T v) (o:Out lo hi w w') (h2:g<lo\/hi<=g):Box w' g T v:=o.heap h h2
theorem Box.new (w:World) (T:TypeId) (v:Value):Box (w.alloc (.cells #[v] T)) w.heap.size T v:=heap_alloc_new _ _
theorem Box.alloc {w:World} {g:Nat} {T:TypeId} {v:Value} (h:Box w g T v) (o:Obj):Box (w.alloc o) g T v:=by
 unfold Box;rw[heap_alloc_old _ _ h.lt];exact h
theorem Box.set {w:World} {g:Nat} {T:TypeId} {v:Value} (h:Box w g T v) (u:Value):Box (w.setCell ⟨g,0,none⟩ u) g T u:=by
 unfold Box at *;simp only[World.setCell,Array.getElem?_modify,if_true,h];rfl
theorem q7u {w:World} {lo hi b n g c:Nat} {S:Nat->Bool} {v:Int} (h:MapAt w lo hi b n S) (hb':Box w g 87 (.pointer (some ⟨b,0,none⟩))) (hc:Box w c 3 (.int .i64 v)) (v1:0<=v) (v2:v<1000000) (hn:0<n) (s:Nat) (hs:s<nw n) (x:Nat) (hx:x<18446744073709551616) :
  Calls Tryz.prog 166 #[.int .i64 s,.int .u64 x,.pointer (some ⟨c,0,none⟩),.pointer (some ⟨g,0,none⟩)] w fun e w'=>e=.returned (.tuple #[])/\Box w' c 3 (.int .i64 (v+pop (pk S s &&& x)))/\Out c (c+1) w w':=by
 obtain⟨bw,cap,hb,hcap,l1,l2,l3,hr⟩:=h.words;have c0:=hb'.cell;have c1:w.cell? ⟨b,1,none⟩=some (.slice (some ⟨bw,0,none⟩) (nw n) cap):=by simp[World.cell?,hb]
 have c2:=hr.cell hs;have c3:=hc.cell;have c4:=hc.frozen;have HA:=Z0 (bits_and_u64_nat (pk S s) x (z9s _ _) hx);have hl:pk S s &&& x<18446744073709551616:=Nat.lt_of_le_of_lt Nat.and_le_left (z9s _ _);have HC:=Z0 (fun w=>j6c (pk S s &&& x) hl w);have hp:((pop (pk S s &&& x):Nat):Int)<=64:=by have:=x1c (pk S s &&& x);omega
 have HB:=Z0 hc;have hw:IntKind.i64.wrap (v + ↑(pop (pk S s &&& x)))=v + ↑(pop (pk S s &&& x)):=by simp[IntKind.wrap,IntKind.signed,IntKind.bits];omega
 have i1:(0:Int)<=(s:Int):=by omega
 have i2:(s:Int)<(nw n:Int):=by omega
 clear h hb' hb hr l3 hcap l1 l2 hc hl;go_enter Tryz.func166,Tryz.ntmps166
 go_wp2_with fail;go_region_with (go_at_call 167;rw[HA.out];refine Z5 (HC.out _) ?_)
 all_goals (try go_wp2)
 all_goals exact bodyPost_end (results_none Tryz.results166 _ _ _) rfl ⟨rfl,HB.out.set _,((Out.refl _ _ _).setCell z1 _).drew⟩
theorem z7m (L:Nat) (h:L<=64):IntKind.u64.wrap (18446744073709551615*2 ^ min L 64)=((up L:Nat):Int):=by
 rw[show min L 64=L from by omega,IntKind.wrap_u64];unfold up;have hp:=Nat.two_pow_pos L;have e:((2 ^ L:Nat):Int)=(2:Int) ^ L:=by simp
 by_cases h6:L<64
 ·rw[if_pos h6,<-e];have hl:2 ^ L<2 ^ 64:=Nat.pow_lt_pow_right (a:=2) (by omega) h6;rw[show (2:Nat) ^ 64=18446744073709551616 from rfl] at hl;generalize 2 ^ L=p at *
  omega
 ·rw[if_neg h6];obtain rfl:L=64:=by omega
  rfl
theorem q9f:IntKind.u64.wrap 340282366920938463444927863358058659840=((up 64:Nat):Int):=by rw[IntKind.wrap_u64];rfl
theorem j7v:IntKind.u64.wrap 18446744073709551615=((up 0:Nat):Int):=by rw[IntKind.wrap_u64];rfl
theorem G1 (L H:Nat):bits .andNot .u64 ((up L:Nat):Int) ((up H:Nat):Int)=((msk L H:Nat):Int):=by
 rw[F9 _ _ (j8y _) (j8y _),x0i]
theorem z4w (L:Nat) (h:L<=64):IntKind.u64.wrap (18446744073709551615*2 ^ L)=((up L:Nat):Int):=by
 have:=z7m L h;rwa [show min L 64=L from by omega] at this
theorem Row.fillAll {b k:Nat} {T:TypeId} (v:Value) (m:Nat):∀ (o:Nat) (w:World) (f:Nat->Value),Row w b T k f->Row (w.setCells b o (List.replicate m v)) b T k (fun i=>if o<=i/\i<o+m then v else f i):=by
 induction m with
 | zero=>intro o w f h;exact h.congr fun i hi=>by rw[if_neg (by omega)]
 | succ m ih=>
  intro o w f h
  show Row ((w.setCell ⟨b,o,none⟩ v).setCells b (o+1) (List.replicate m v)) b T k _
  refine(ih (o+1) _ _ (h.set o v)).congr fun i hi=>?_
  by_cases h1:i=o
  ·subst h1;simp
  ·by_cases h2:o+1<=i/\i<o+1+m
   ·rw[if_pos h2,if_pos (by omega)]
   ·have h3:¬ (o<=i/\i<o+(m+1)):=by omega
    simp only[if_neg h2,if_neg h3,if_neg h1]
theorem Out.setAll {b lo hi:Nat} (hb:lo<=b/\b<hi) (v:Value) (m:Nat):∀ (o:Nat) (a w:World),Out lo hi a w->Out lo hi a (w.setCells b o (List.replicate m v)):=by
 induction m with
 | zero=>intro o a w h;exact h
 | succ m ih=>intro o a w h;exact ih (o+1) a _ (h.setCell (.inl hb) v)
theorem q3w {b c:Nat} (h:c ≠ b) (v:Value) (m:Nat):∀ (o:Nat) (w:World),(w.setCells b o (List.replicate m v)).heap[c]? = w.heap[c]? :=by
 induction m with
 | zero=>intro o w;rfl
 | succ m ih=>intro o w;exact(ih (o+1) _).trans (Below.heap_setCell _ _ _ _ h)
theorem j3s (w:World):(zeroValue 162).run Tryz.prog w=.ok (.int .u64 0) w:=by kernel_rfl
theorem j2d {w:World} {lo hi b n:Nat} {S:Nat->Bool} (h:MapAt w lo hi b n S) :
  Calls Tryz.prog 147 #[.pointer (some ⟨b,0,none⟩)] w fun e w'=>e=.returned (.tuple #[])/\MapAt w' lo hi b n (fun _=>false)/\Out lo hi w w':=by
 obtain⟨bw,cap,hb,h1,h2,h3,h4,h5,h6,h7,h8,l1,l2,l3,hr⟩:=h;have c1:w.cell? ⟨b,1,none⟩=some (.slice (some ⟨bw,0,none⟩) (nw n) cap):=by simp[World.cell?,hb]
 have hO:Out lo hi w (w.setCells bw 0 (List.replicate (nw n) (.int .u64 0))):=Out.setAll ⟨l1,l2⟩ _ _ _ _ _ (Out.refl _ _ _);have HF:Hid (MapAt (w.setCells bw 0 (List.replicate (nw n) (.int .u64 0))) lo hi b n (fun _=>false)):=by
  refine⟨bw,cap,by rw[q3w (Ne.symm l3)];exact hb,h1,h2,Nat.le_trans h3 hO.size,h4,h5,h6,fun _ _=>rfl,h8.kept hO (.inl h4),l1,l2,l3,(Row.fillAll _ _ _ _ _ hr).congr fun i hi=>?_⟩;rw[if_pos (by omega),z7o];rfl
 have HO:=Z0 hO;by_cases hn:0<nw n
 ·have hcl:∀ ty,(Builtin.clear_ #[163] ty #[.slice (some ⟨bw,0,none⟩) (nw n) cap]).run Tryz.prog w=.ok (.tuple #[]) (w.setCells bw 0 (List.replicate (nw n) (.int .u64 0))):=
   fun ty=>Lib.run_clear_slice w 163 162 ty (.int .u64 0) Tryz.underlying163 j3s rfl rfl bw 0 (nw n) cap hn (fun j hj=>by rw[Nat.zero_add,hr.cell hj];rfl) (fun j hj=>hr.frozen _)
  clear hb hr h7 h8 hO;go_enter Tryz.func147,Tryz.ntmps147
  go_wp2_with (simp only[hcl]);exact bodyPost_end (results_none Tryz.results147 _ _ _) rfl ⟨rfl,HF.out,HO.out⟩
 ·have h0:nw n=0:=by omega
  rw[h0] at HF HO c1;have hcl:∀ ty,(Builtin.clear_ #[163] ty #[.slice (some ⟨bw,0,none⟩) 0 cap]).run Tryz.prog w=.ok (.tuple #[]) w:=fun ty=>by
   simp[Builtin.clear_,run_underlying Tryz.underlying163]
  clear hb hr h7 h8 hO;go_enter Tryz.func147,Tryz.ntmps147
  go_wp2_with (simp only[hcl]);exact bodyPost_end (results_none Tryz.results147 _ _ _) rfl ⟨rfl,HF.out,HO.out⟩
theorem q0h (b:Nat) (w:World) :
  Calls Tryz.prog 127 #[.pointer (some ⟨b,0,none⟩)] w fun e w'=>e=.returned (.func (.func 156) #[] #[.pointer (some ⟨w.heap.size,0,none⟩)])/\w'=w.alloc (.cells #[.pointer (some ⟨b,0,none⟩)] 87):=by
 go_enter Tryz.func127,Tryz.ntmps127
 go_wp2;go_ret;exact⟨rfl,rfl⟩
end Go.Proofs.YtjbbkeoolodeaabGreatDoor
namespace Go.Proofs.YtjbbkeoolodeaabGreatDoor
open Go.RowKit
attribute [local go_sem] Oper.semAt_some
set_option linter.unusedVariables false
set_option maxRecDepth 100000
set_option maxHeartbeats 16000000
set_option linter.unusedSimpArgs false
theorem z0h {m:Nat} {P:Program} {l:Nat} {f:FuncId} {tmps:Array Value} {assign body:Code} {w:World} {R:Ending->World->Prop} (h:RoundIn Fence.wide 0 P l f tmps assign body w R):RoundIn Fence.wide m P l f tmps assign body w R:=
 ⟨h.1,fun c cs _=>h.2 c cs (room_wide _)⟩
theorem z5l {lo hi b n g l:Nat} (I:Nat->World->Prop) (J Jx:World->Prop)
  (hm:∀ p w,I p w->p<=n/\∃ S,MapAt w lo hi b n S/\Box w g 87 (.pointer (some ⟨b,0,none⟩)))
  (hq:∀ p w w',I p w->Out 0 0 w w'->I p w')
  (hy:∀ p w S (k:Nat),I p w->MapAt w lo hi b n S->nxr S n p=k->YieldAt Fence.wide 0 Tryz.prog l #[.int .i64 (k:Int)] w fun e w'=>(e=.returned (.bool true)/\I (k+1) w')\/(e=.returned (.bool false)/\Jx w'))
  (he:∀ p w S,I p w->MapAt w lo hi b n S->nxr S n p = -1->J w) {w:World} (h0:I 0 w) :
  Calls Tryz.prog 156 #[.func (.yield l) #[] #[],.pointer (some ⟨g,0,none⟩)] w fun e w'=>(∃ v,e=.returned v)/\(J w'\/Jx w'):=by
 obtain⟨hp0,S0,hS0,hb0⟩:=hm 0 w h0;have c0:=hb0.cell;have HX:=Z0 (z2a hS0 0);rw[show (0:Int).toNat=0 from rfl] at HX;have HM:=Z0 hm;have HQ:=Z0 hq;have HY:=Z0 hy;have HE:=Z0 he;have HI:=Z0 h0;have HN:=Z0 hS0.bounds;have HS:=Z0 hS0;clear hm hq hy he h0 hS0 hb0 hp0;refine(callsIn_wide (n:=0)).1 ?_;refine callsIn_of_wp Tryz.func156 rfl trivial ?_ rfl;simp only[Tryz.ntmps156,List.size_toArray,List.length_cons,List.length_nil,Nat.reduceAdd,Nat.reduceSub,Array.replicate_succ,Array.replicate_zero,List.push_toArray,List.append_toArray,List.nil_append,List.cons_append];gi_wp2_with (refine⟨trivial,rfl,?_⟩;gi_at_call 90;refine(callsIn_wide.2 HX.out).mono ?_;rintro e w1 ⟨rfl,ho⟩);have HI1:=Z0 (HQ.out 0 w w1 HI.out ho);obtain⟨z,hz⟩:∃ z,nxr S0 n 0=z:=⟨_,rfl⟩
 have HZ:Hid (∃ S,MapAt w1 lo hi b n S/\nxr S n 0=z):=⟨S0,HS.out.quiet ho,hz⟩
 rw[hz];clear ho c0 hz HX;gi_loopw [3] (fun v wr=>∃ (p:Nat) (S:Nat->Bool),v=.int .i64 (nxr S n p)/\MapAt wr lo hi b n S/\I p wr) (fun v _=>if intOf v<0 then 0 else ((n:Int)-intOf v).toNat)
 case atStart=>
  obtain⟨S,h1,rfl⟩:=HZ.out;exact⟨0,S,rfl,h1,HI1.out⟩
 case round=>
  obtain⟨p,S,rfl,hS,hI⟩:=hrel;rcases Q1 S n p with ⟨e1,e2⟩ | ⟨k,e1,k1,k2,k3,k4⟩
  ·have HJ:=Z0 (HE.out p wr S hI hS e1);rw[e1];clear hS hI e1 e2;gi_wp2;exact bodyPost_end (results_none Tryz.results156 _ _ _) rfl ⟨⟨_,rfl⟩,.inl HJ.out⟩
  ·obtain⟨fn,tmps,assign,body,hy,hR⟩:=HY.out p wr S k hI hS e1;have HR:=Z0 (z0h (m:=0) hR);have b0:(0:Int)<=(k:Int):=by omega
   have b1:(k:Int)<=262144:=by have:=HN.out;omega
   rw[e1];clear hS hI e1 hR;gi_wp2;refine⟨rfl,HR.out.mono ?_⟩;clear HR hy;rintro e w2 (⟨rfl,hI2⟩ | ⟨rfl,hx⟩)
   ·obtain⟨p2,S2,hS2,hb2⟩:=HM.out _ _ hI2;have c2:=hb2.cell;have HX2:=Z0 (z2a hS2 ((k:Int)+1));rw[show ((k:Int)+1).toNat=k+1 from by omega] at HX2;have HI2:=Z0 hI2;have HS2:=Z0 hS2;clear hI2 hS2 hb2 p2;gi_wp2_with (refine⟨trivial,rfl,?_⟩;gi_at_call 90;refine(callsIn_wide.2 HX2.out).mono ?_;rintro e w3 ⟨rfl,ho⟩);go_roundw
    case rel=>exact⟨k+1,S2,rfl,HS2.out.quiet ho,HQ.out _ _ _ HI2.out ho⟩
    case measure=>
     have e:∀ v:Int,intOf (.int .i64 v)=v:=fun _=>rfl
     simp only[e];rw[if_neg (show ¬ ((k:Int)<0) from by omega)];rcases Q1 S2 n (k+1) with ⟨e1,_⟩ | ⟨k',e1,q1,q2,_,_⟩
     ·rw[e1,if_pos (by omega)];omega
     ·rw[e1,if_neg (by omega)];have:=q2 k1;omega
   ·have HX:=Z0 hx;clear hx;gi_wp2;exact bodyPost_ret (results_none Tryz.results156 _ _ _) rfl ⟨⟨_,rfl⟩,.inr HX.out⟩
end Go.Proofs.YtjbbkeoolodeaabGreatDoor
namespace Go.Proofs.YtjbbkeoolodeaabGreatDoor
open Go.RowKit
set_option linter.unusedVariables false
set_option maxRecDepth 100000
set_option maxHeartbeats 16000000
set_option linter.unusedSimpArgs false
theorem Z9 {lo hi x y:Nat} {a b c:World} (h:Out lo hi a b) (g:Out x y b c) (hx:a.heap.size<=x\/y=0):Out lo hi a c:=by
 rcases hx with hx | hx
 ·exact h.past g hx
 ·subst hx;exact h.trans ⟨g.1,g.2.1,g.2.2.1,g.size,fun k h1 _=>g.block h1 (by omega)⟩
def q2k (Q:Exit->Act->World->Prop):Exit->Act->World->Prop
 | .outgrown,_,_=>False
 | e,a,w=>Q e a w
def z5f (ops:Array Oper):Bool:=ops.toList.all fun o=>match o.op with | .defer _=>false | _=>true
theorem q8h {ops:Array Oper} (h:z5f ops=true) {i:Nat} {o:Oper} (ho:ops[i]? = some o):∀ c,o.op ≠ .defer c:=by
 intro c e;unfold z5f at h;rw[List.all_eq_true] at h;have:=h o (List.mem_of_getElem? (by simpa using ho));rw[e] at this;cases this
theorem j1e {n:Nat} {P:Program} {row:String} {args:Array Value} {w:World} {R:Value->World->Prop} (h:Rows P row args w R):RowsIn Fence.wide n P row args w R:=
 fun c cs _=>by
  obtain⟨v,w',hr,hs⟩:=h c cs;exact⟨v,w',hr,stepsIn_wide.2 hs⟩
section
variable {P:Program} {ops:Array Oper} {Q:Exit->Act->World->Prop} {md:Region.Mode} {l:Nat}
theorem q3k {i:Nat} {K K':Act->World->Prop} {a:Act} {w:World} (hd:z5f ops=true) (hk:∀ a w,K a w->K' a w) (h:wpOp P ops (q2k Q) i K a w):wpOpIn (Fence.wide.inRound l) 0 P ops Q i K' a w:=by
 unfold wpOp at h;unfold wpOpIn;cases ho:ops[i]? with
 | none=>rw[ho] at h;exact hk _ _ h
 | some o=>
  rw[ho] at h;simp only at h ⊢;by_cases hw:Region.wanted o (yielded ops a.tmps)=true
  ·rw[if_pos hw] at h ⊢;rcases h with h | ⟨_,hl⟩
   case inr=>
    obtain⟨_,_,hf⟩:=hl;exact hf.elim
   refine⟨fun _ _=>trivial,?_⟩;rw[Oper.semAt_eq _ _ _ (q8h hd ho)];unfold Oper.wp at h;generalize (execOp a.eval o).run P w=r at *
   cases r with
   | ok x w'=>
    cases x <;> simp only[Oper.upon,Oper.uponIn] at h ⊢
    case value u=>exact hk _ _ h
    case skip=>exact hk _ _ h
    case defer d=>exact hk _ _ h
    case enter f args=>
     refine⟨fun hh=>by simp[Fence.wide] at hh,callsIn_wide.2 (h.mono ?_)⟩;intro e w'' he;cases e with
     | returned u=>exact hk _ _ he
     | panicked c=>exact he
     | outgrown=>
      obtain⟨_,_,hf⟩:=he;exact hf.elim
    case row row args=>
     refine⟨fun hh=>by simp[Fence.wide] at hh,j1e (h.mono ?_)⟩;intro u w'' he;exact hk _ _ he
   | halt x w'=>
    cases x <;> simp only[Oper.upon,Oper.uponIn] at h ⊢
    case panic u=>exact h
  ·rw[if_neg hw] at h ⊢;exact⟨fun _ _=>trivial,hk _ _ h⟩
theorem z4a (hd:z5f ops=true):∀ (fuel:Nat) (listed:Array Bool) (a:Act) (w:World),wpAny P md ops (q2k Q) fuel listed a w->wpAnyIn (Fence.wide.inRound l) 0 P md ops Q fuel listed a w
 | 0,_,_,_,h=>h
 | fuel+1,_,_,_,h=>⟨h.1,fun i hi=>q3k hd (fun a' w' h'=>z4a hd fuel _ a' w' h') (h.2 i hi)⟩
theorem q3c {id:Nat} {S:World->Prop} {a:Act} {w:World} (hm:P.follows .mixedOrders=true) (hd:z5f ops=true) (hS:S w.drew)
  (h:S w.drew->wpAnyH P .any ops (q2k Q) S ops.size (Array.replicate ops.size false) a w.drew):(Code.region id ops true).wpIn (Fence.wide.inRound l) 0 P Q a w:=
 wpIn_region_any hm (z4a hd _ _ _ _ (wpAny_of_held _ _ _ _ (h hS)))
end
def z8r (K:Act->World->Prop):Exit->Act->World->Prop
 | .normal,a,w=>K a w
 | _,_,_=>False
theorem q0w {Q:Exit->Act->World->Prop}:∀ (e:Exit) (a:Act) (w:World),z8r (Q .normal) e a w->Q e a w
 | .normal,_,_,h=>h
 | .ret,_,_,h=>h.elim
 | .exit _,_,_,h=>h.elim
 | .goto _,_,_,h=>h.elim
 | .panic _,_,_,h=>h.elim
 | .outgrown,_,_,h=>h.elim
theorem q1l {P:Program} {c:Code} {Q:Exit->Act->World->Prop} {a:Act} {w:World} (h:c.wp P (z8r (Q .normal)) a w):c.wpIn Fence.wide 0 P Q a w:=
 wpIn_mono (wpIn_wide.2 h) q0w
theorem z0p {P:Program} {ops:Array Oper} {Q:Exit->Act->World->Prop} {l id:Nat} {S:World->Prop} {a:Act} {w:World} (hm:P.follows .mixedOrders=true) (hd:z5f ops=true) (hS:S w.drew)
  (h:S w.drew->wpAnyH P .any ops (q2k (z8r (Q .normal))) S ops.size (Array.replicate ops.size false) a w.drew):(Code.region id ops true).wpIn (Fence.wide.inRound l) 0 P Q a w:=
 wpIn_mono (q3c hm hd hS h) q0w
theorem z9t {n:Nat} {st:Sp} {a:Nat} {kd s t:Int} {W':Nat->Int} {S':Nat->Int × Int × Int} (hi:Inv n st) (ha:Q7 (st.O a)=false) (hf:W8 kd s=true) (hg:Good n S')
  (hnew:ObOk n S' a (kd,s,Q9 st kd,t)) (hold:∀ b,b ≠ a->Q7 (st.O b)=true->ObOk n S' b (st.O b)) (hh:∀ q,q<n->(S' q).1=2->64*q=a\/Q7 (st.O (64*q))=true) :
  Inv n ⟨W',S',U4 st.O a (kd,s,Q9 st kd,t),U8 st kd⟩:=by
 have hk:=J8 hf;have hb:Q7 (kd,s,Q9 st kd,t)=true:=by unfold Q7;simp;omega
 have hl:st.last<=U8 st kd:=by unfold U8;split <;> omega
 have hput:∀ i,i ≠ a->U4 st.O a (kd,s,Q9 st kd,t) i=st.O i:=fun i e=>by unfold U4;rw[if_neg e]
 have hput':U4 st.O a (kd,s,Q9 st kd,t) a=(kd,s,Q9 st kd,t):=by unfold U4;rw[if_pos rfl]
 refine⟨hi.n1,hi.n2,hg,?_,?_,?_,?_,?_,?_⟩
 ·intro i h
  show ObOk n S' i (U4 st.O a (kd,s,Q9 st kd,t) i)
  by_cases e:i=a
  ·subst e;rw[hput'];exact hnew
  ·have h':Q7 (U4 st.O a (kd,s,Q9 st kd,t) i)=true:=h;rw[hput i e] at h' ⊢;exact hold i e h'
 ·intro i h;have h':Q7 (U4 st.O a (kd,s,Q9 st kd,t) i)=false:=h
  show U4 st.O a (kd,s,Q9 st kd,t) i=noB
  by_cases e:i=a
  ·subst e;rw[hput',hb] at h';cases h'
  ·rw[hput i e] at h' ⊢;exact hi.none i h'
 ·intro q hq h2
  show Q7 (U4 st.O a (kd,s,Q9 st kd,t) (64*q))=true
  rcases hh q hq h2 with e | e
  ·rw[e,hput'];exact hb
  ·by_cases e':64*q=a
   ·rw[e',hput'];exact hb
   ·rw[hput _ e'];exact e
 ·show 0<=U8 st kd
  have:=hi.last0;omega
 ·intro i h;have h':Q7 (U4 st.O a (kd,s,Q9 st kd,t) i)=true:=h
  show (z9w (U4 st.O a (kd,s,Q9 st kd,t) i).1=true->1<=(U4 st.O a (kd,s,Q9 st kd,t) i).2.2.1/\(U4 st.O a (kd,s,Q9 st kd,t) i).2.2.1<=U8 st kd)/\(z9w (U4 st.O a (kd,s,Q9 st kd,t) i).1=false->(U4 st.O a (kd,s,Q9 st kd,t) i).2.2.1=0)
  by_cases e:i=a
  ·subst e;rw[hput'];refine⟨fun hn=>?_,fun hn=>?_⟩
   ·have hn':z9w kd=true:=hn
    show 1<=Q9 st kd/\Q9 st kd<=U8 st kd
    unfold Q9 U8;rw[if_pos hn',if_pos hn'];have:=hi.last0;omega
   ·have hn':z9w kd=false:=hn
    show Q9 st kd=0
    unfold Q9;rw[if_neg (by simp[hn'])]
  ·rw[hput i e] at h' ⊢;have:=hi.ser i h';exact⟨fun hn=>⟨(this.1 hn).1,by have:=(this.1 hn).2;omega⟩,this.2⟩
 ·intro i j h1 h2 h3 h4;have h1':Q7 (U4 st.O a (kd,s,Q9 st kd,t) i)=true:=h1;have h2':Q7 (U4 st.O a (kd,s,Q9 st kd,t) j)=true:=h2;have h3':1<=(U4 st.O a (kd,s,Q9 st kd,t) i).2.2.1:=h3;have h4':(U4 st.O a (kd,s,Q9 st kd,t) i).2.2.1=(U4 st.O a (kd,s,Q9 st kd,t) j).2.2.1:=h4;have old:∀ x,Q7 (st.O x)=true->(st.O x).2.2.1=Q9 st kd->1<=Q9 st kd->False:=by
   intro x hx e1 e2;have hs:=hi.ser x hx;unfold Q9 at e1 e2;by_cases hn:z9w kd=true
   ·rw[if_pos hn] at e1;cases hx1:z9w (st.O x).1 with
    | true=>have:=(hs.1 hx1).2;omega
    | false=>have:=hs.2 hx1;have:=hi.last0;omega
   ·rw[if_neg hn] at e2;omega
  by_cases e:i=a
  ·by_cases e':j=a
   ·rw[e,e']
   ·exfalso
    subst e;rw[hput',hput j e'] at h4';rw[hput'] at h3';rw[hput j e'] at h2';exact old j h2' h4'.symm h3'
  ·by_cases e':j=a
   ·exfalso
    subst e';rw[hput',hput i e] at h4';rw[hput i e] at h1' h3';exact old i h1' h4' (show 1<=Q9 st kd from (show (st.O i).2.2.1=Q9 st kd from h4') ▸ h3')
   ·rw[hput i e] at h1' h3' h4';rw[hput j e'] at h2' h4';exact hi.one i j h1' h2' h3' h4'
theorem z6f {s:Int} (h1:32<s) (h2:s<=1024):1<=((s+63) / 64).toNat/\((s+63) / 64).toNat<=16/\(((s+63) / 64).toNat:Int)=(s+63) / 64:=by omega
theorem ObOk.page {n a:Nat} {S:Nat->Int × Int × Int} {b:Blk} (h:ObOk n S a b):a / 64<n/\((S (a / 64)).1=1\/(S (a / 64)).1=2):=by
 obtain⟨h1,_,h3⟩:=h;refine⟨by omega,?_⟩;rcases h3 with ⟨_,e,_⟩ | ⟨_,_,e⟩
 ·rw[e];exact .inl rfl
 ·rw[e];exact .inr rfl
theorem ObOk.same {n a:Nat} {S S':Nat->Int × Int × Int} {b:Blk} (h:ObOk n S a b) (e:S' (a / 64)=S (a / 64)):ObOk n S' a b:=by
 obtain⟨h1,h2,h3⟩:=h;exact⟨h1,h2,by rw[e];exact h3⟩
theorem z3j {n p:Nat} {st:Sp} {kd s t:Int} (hi:Inv n st) (hf:W8 kd s=true) (h32:32<s) (hr:U2 st.S n ((s+63) / 64).toNat=some p) :
  Inv n (V8 n st (64*p) false kd s t)/\(∀ c,fr n (V8 n st (64*p) false kd s t) c=fr n st c)/\Q7 (st.O (64*p))=false/\p+((s+63) / 64).toNat<=n:=by
 obtain⟨k1,k2,k3⟩:=z6f h32 (J8 hf).2.2.2;obtain⟨p1,p2,p3⟩:=z0u hi.good hr;generalize hk:((s+63) / 64).toNat=k at *
 have hfree:∀ a,Q7 (st.O a)=true->a / 64<p\/p+k<=a / 64:=by
  intro a ha;have:=(hi.objs a ha).page;by_cases e:a / 64<p\/p+k<=a / 64
  ·exact e
  ·have e1:=p3 (a / 64) (by omega) (by omega);rw[e1] at this;simp at this
 have hS':Y0 st (64*p) false s=setR st.S p k:=by
  unfold Y0;rw[if_pos h32,hk,show 64*p / 64=p from by omega]
 have out:∀ j,(j<p\/p+k<=j)->setR st.S p k j=st.S j:=by
  intro j hj;unfold setR;rw[if_neg (by omega),if_neg (by omega)]
 have hd:setR st.S p k p=(2,0,(k:Int)):=by unfold setR;rw[if_pos rfl]
 have hrst:∀ j,p<j->j<p+k->setR st.S p k j=(3,0,0):=by
  intro j a b;unfold setR;rw[if_neg (by omega),if_pos ⟨a,b⟩]
 have hno:Q7 (st.O (64*p))=false:=by
  cases e:Q7 (st.O (64*p)) with
  | false=>rfl
  | true=>have:=hfree _ e;omega
 refine⟨?_,?_,hno,p2⟩
 ·have:=z9t (W':=(V8 n st (64*p) false kd s t).W) (S':=Y0 st (64*p) false s) (t:=t) hi hno hf
   (by rw[hS'];exact z7u hi.good p3 k1 k2 p2)
   (by rw[hS'];exact⟨by omega,hf,.inr ⟨h32,by omega,by rw[show 64*p / 64=p from by omega,hd,<-k3]⟩⟩)
   (fun b _ hb=>by rw[hS'];exact(hi.objs b hb).same (out _ (hfree b hb)))
   (fun q hq h2=>by
    rw[hS'] at h2;by_cases e:q=p
    ·left;omega
    ·right
     by_cases e':p<q/\q<p+k
     ·rw[hrst q e'.1 e'.2] at h2;simp at h2
     ·rw[out q (by omega)] at h2;exact hi.heads q hq h2)
  exact this
 ·intro c;funext i
  unfold fr
  show (decide (i<64*n) && (Y0 st (64*p) false s (i / 64) == (1,c,0)) && K7 c (i % 64) && !Q7 (U4 st.O (64*p) (kd,s,Q9 st kd,t) i))=_
  rw[hS'];by_cases e:i / 64<p\/p+k<=i / 64
  ·rw[out _ e];have:U4 st.O (64*p) (kd,s,Q9 st kd,t) i=st.O i:=by unfold U4;rw[if_neg (by omega)]
   rw[this]
  ·have e1:=p3 (i / 64) (by omega) (by omega);have e2:(setR st.S p k (i / 64) == (1,c,0))=false:=by
    by_cases e3:i / 64=p
    ·rw[e3,hd];simp
    ·rw[hrst _ (by omega) (by omega)];simp
   rw[e2,e1];simp
theorem z0t {n a:Nat} {st:Sp} {kd s t:Int} (hi:Inv n st) (hf:W8 kd s=true) (h32:s<=32) (ha:fr n st (ofV s) a=true) :
  Inv n (V8 n st a false kd s t)/\(∀ c,fr n (V8 n st a false kd s t) c=upd (fr n st c) a false)/\(∀ c,c ≠ ofV s->fr n st c a=false):=by
 obtain⟨h1,h2,h3,h4⟩:=fr_iff.1 ha;have hk:=J8 hf;have hS':Y0 st a false s=st.S:=by unfold Y0;rw[if_neg (by omega)];simp
 refine⟨?_,?_,?_⟩
 ·have:=z9t (W':=(V8 n st a false kd s t).W) (S':=Y0 st a false s) (t:=t) hi h4 hf (by rw[hS'];exact hi.good)
   (by rw[hS'];exact⟨h1,hf,.inl ⟨h32,h2,h3⟩⟩) (fun b _ hb=>by rw[hS'];exact hi.objs b hb) (fun q hq h2=>by rw[hS'] at h2;exact .inr (hi.heads q hq h2))
  exact this
 ·intro c;funext i
  unfold fr
  show (decide (i<64*n) && (Y0 st a false s (i / 64) == (1,c,0)) && K7 c (i % 64) && !Q7 (U4 st.O a (kd,s,Q9 st kd,t) i))=_
  rw[hS'];unfold upd U4;by_cases e:i=a
  ·rw[if_pos e,if_pos e];have:Q7 (kd,s,Q9 st kd,t)=true:=by unfold Q7;simp;omega
   rw[this];simp
  ·rw[if_neg e,if_neg e]
 ·intro c hc;cases e:fr n st c a with
  | false=>rfl
  | true=>
   have:=(fr_iff.1 e).2.1;rw[h2] at this;simp at this;exact absurd this.symm hc
theorem z0v {n p:Nat} {st:Sp} {kd s t:Int} (hi:Inv n st) (hf:W8 kd s=true) (h32:s<=32) (hr:U2 st.S n 1=some p) :
  Inv n (V8 n st (64*p) true kd s t)/\(∀ c i,fr n (V8 n st (64*p) true kd s t) c i=if i / 64=p then (decide (c=ofV s) && K7 c (i % 64) && decide (i ≠ 64*p)) else fr n st c i)/\(∀ a,a / 64=p->Q7 (st.O a)=false)/\p<n/\st.S p=(0,0,0):=by
 obtain⟨p1,p2,p3⟩:=z0u hi.good hr;have hk:=J8 hf;have hc:=W9 hk.2.2.1 h32;have hS':Y0 st (64*p) true s=setC st.S p (ofV s):=by
  unfold Y0;rw[if_neg (by omega),if_pos rfl,show 64*p / 64=p from by omega]
 have hp0:=p3 p (by omega) (by omega);have hno:∀ a,a / 64=p->Q7 (st.O a)=false:=by
  intro a hap;cases e:Q7 (st.O a) with
  | false=>rfl
  | true=>
   have:=(hi.objs a e).page;rw[hap,hp0] at this;simp at this
 have out:∀ j,j ≠ p->setC st.S p (ofV s) j=st.S j:=fun j hj=>by unfold setC;rw[if_neg hj]
 have hin:setC st.S p (ofV s) p=(1,ofV s,0):=by unfold setC;rw[if_pos rfl]
 refine⟨?_,?_,hno,p1,hp0⟩
 ·have:=z9t (W':=(V8 n st (64*p) true kd s t).W) (S':=Y0 st (64*p) true s) (t:=t) hi (hno (64*p) (by omega)) hf (by rw[hS'];exact z7v hi.good hp0 hc.1 hc.2.1)
   (by
    rw[hS'];refine⟨by omega,hf,.inl ⟨h32,by rw[show 64*p / 64=p from by omega,hin],?_⟩⟩;have hw:=z4l hc.1 hc.2.1
    show K7 (ofV s) (64*p % 64)=true
    rw[show 64*p % 64=0 from by omega];unfold K7;simp;omega)
   (fun b _ hb=>by
    rw[hS'];refine(hi.objs b hb).same (out (b / 64) (fun e=>?_));rw[hno b e] at hb;cases hb)
   (fun q hq h2=>by
    rw[hS'] at h2;by_cases e:q=p
    ·left;omega
    ·rw[out q e] at h2;exact .inr (hi.heads q hq h2))
  exact this
 ·intro c i;unfold fr
  show (decide (i<64*n) && (Y0 st (64*p) true s (i / 64) == (1,c,0)) && K7 c (i % 64) && !Q7 (U4 st.O (64*p) (kd,s,Q9 st kd,t) i))=_
  rw[hS'];by_cases e:i / 64=p
  ·rw[if_pos e,e,hin];have e1:((1,ofV s,0) == ((1:Int),c,(0:Int)))=decide (c=ofV s):=by
    rw[Bool.eq_iff_iff];simp;exact eq_comm
   rw[e1,show decide (i<64*n)=true from by simp;omega];unfold U4;by_cases e2:i=64*p
   ·rw[if_pos e2];have:Q7 (kd,s,Q9 st kd,t)=true:=by unfold Q7;simp;omega
    rw[this,show decide (i ≠ 64*p)=false from by simp[e2]];simp
   ·rw[if_neg e2,hno i e,show decide (i ≠ 64*p)=true from by simp[e2]];simp
  ·rw[if_neg e,out _ e];have:U4 st.O (64*p) (kd,s,Q9 st kd,t) i=st.O i:=by unfold U4;rw[if_neg (by omega)]
   rw[this]
end Go.Proofs.YtjbbkeoolodeaabGreatDoor
namespace Go.Proofs.YtjbbkeoolodeaabGreatDoor
open Go.RowKit Go.MapKept
open Go.ChangeMaps (setBlock)
set_option linter.unusedVariables false
set_option maxRecDepth 100000
set_option maxHeartbeats 16000000
set_option linter.unusedSimpArgs false
def MpAt (w:World) (b:Nat) (f:Int->Option Value):Prop:=
 ∃ es clock,w.heap[b]? = some (.map es clock)/\Stamped es clock/\(∀ x ∈ es.toList,∃ a,x.key=.int .i64 a)/\∀ a v,f a=some v ↔ ∃ x ∈ es.toList,x.key=.int .i64 a/\x.val=v
theorem MpAt.kept {w w':World} {b lo hi:Nat} {f:Int->Option Value} (h:MpAt w b f) (o:Out lo hi w w') (hd:b<lo\/hi<=b):MpAt w' b f:=by
 obtain⟨es,clock,hb,r⟩:=h;exact⟨es,clock,o.heap hb hd,r⟩
theorem MpAt.congr {w:World} {b:Nat} {f g:Int->Option Value} (h:MpAt w b f) (e:∀ a,f a=g a):MpAt w b g:=by
 have:f=g:=funext e;rw[<-this];exact h
theorem MpAt.isKeys {es:Array MapEntry} (h:∀ x ∈ es.toList,∃ a,x.key=.int .i64 a):∀ x ∈ es.toList,IsKey (.int .i64) x.key:=fun x hx=>by
 obtain⟨a,e⟩:=h x hx;rw[e];exact rfl
section
variable {P:Program} {w:World} {t k e:TypeId} {b:Nat} {f:Int->Option Value}
theorem j8j (c:Bool) (ht:P.underlying t=some (.map k e)) (hk:P.underlying k=some (.int .i64)) {z:Value} (hz:(zeroValue e).run P w=.ok z w) (h:MpAt w b f) (a:Int) :
  (Instr.lookup t (.map (some b)) (.int .i64 a) c).run P w=.ok (if c then .tuple #[(f a).getD z,.bool (f a).isSome] else (f a).getD z) w:=by
 obtain⟨es,clock,hb,hs,hks,hf⟩:=h;have ik:IsKey (.int .i64) (.int .i64 a):=rfl;rcases findNow_spec ik es.toList 0 (MpAt.isKeys hks) with ⟨h1,h2⟩ | ⟨j,e0,h1,h2,h3⟩
 ·have hn:f a=none:=by
   cases hfa:f a with
   | none=>rfl
   | some v=>
    obtain⟨x,hx,hxk,_⟩:=(hf a v).1 hfa;exact absurd hxk (h2 x hx)
  simp[Instr.lookup,run_underlying ht,MapKept.run_getObj_map hb,run_checkKey hk ik,run_findKey hk h1,hz,hn,Result.andThen]
 ·have hv:f a=some e0.val:=(hf a _).2 ⟨e0,List.mem_of_getElem? h2,h3,rfl⟩;simp[Instr.lookup,run_underlying ht,MapKept.run_getObj_map hb,run_checkKey hk ik,run_findKey hk h1,hv,Result.andThen]
theorem z1i {es:Array MapEntry} {clock:Nat} (hb:w.heap[b]? = some (.map es clock)) (o:Obj):Out b (b+1) w { w with heap:=w.heap.setIfInBounds b o }:=
 ⟨rfl,rfl,rfl,by simp,fun j h1 h2=>(heap_set (o':=o) hb).2 j (by omega)⟩
theorem j6s (ht:P.underlying t=some (.map k e)) (hk:P.underlying k=some (.int .i64)) (h:MpAt w b f) (a:Int) (v:Value) :
  ∃ w',(Instr.mapUpdate t (.map (some b)) (.int .i64 a) v).run P w=.ok () w'/\MpAt w' b (fun x=>if x=a then some v else f x)/\Out b (b+1) w w':=by
 obtain⟨es,clock,hb,hs,hks,hf⟩:=h;have ik:IsKey (.int .i64) (.int .i64 a):=rfl;rcases findNow_spec ik es.toList 0 (MpAt.isKeys hks) with ⟨h1,h2⟩ | ⟨j,e0,h1,h2,h3⟩
 ·refine⟨_,by simp[Instr.mapUpdate,run_underlying ht,MapKept.run_getObj_map hb,run_checkKey hk ik,run_findKey hk h1,MapKept.run_setObj_map _ hb,Result.andThen];rfl,⟨_,_,(heap_set hb).1,stamped_push hs h2,?_,?_⟩,z1i hb _⟩
  ·intro x hx;simp only[Array.toList_push,List.mem_append,List.mem_singleton] at hx;rcases hx with hx | rfl
   ·exact hks x hx
   ·exact⟨a,rfl⟩
  ·intro a' v'
   show (if a'=a then some v else f a')=some v' ↔ _
   by_cases ea:a'=a
   ·subst ea;rw[if_pos rfl];constructor
    ·intro hv;cases hv;exact⟨⟨_,_,clock⟩,by simp,rfl,rfl⟩
    ·rintro⟨x,hx,hxk,rfl⟩;simp only[Array.toList_push,List.mem_append,List.mem_singleton] at hx;rcases hx with hx | rfl
     ·exact absurd hxk (h2 x hx)
     ·rfl
   ·rw[if_neg ea,hf];constructor
    ·rintro⟨x,hx,hxk,hxv⟩;exact⟨x,by simp[hx],hxk,hxv⟩
    ·rintro⟨x,hx,hxk,hxv⟩;simp only[Array.toList_push,List.mem_append,List.mem_singleton] at hx;rcases hx with hx | rfl
     ·exact⟨x,hx,hxk,hxv⟩
     ·simp at hxk;exact absurd hxk.symm ea
 ·have hj:es[j]? = some e0:=by simpa using h2
  have hjl:j<es.toList.length:=(List.getElem?_eq_some_iff.1 h2).1;have hkey:∀ e',es[j]? = some e'->({ e' with key:=.int .i64 a,val:=v }:MapEntry).key=e'.key:=fun e' he'=>by rw[hj] at he';cases he';exact h3.symm
  have hlist:(es.modify j (fun e'=>{ e' with key:=.int .i64 a,val:=v })).toList=es.toList.set j { e0 with key:=.int .i64 a,val:=v }:=by rw[Array.toList_modify,ChangeMaps.modify_eq_set _ _ _ _ h2]
  have hapart:∀ x ∈ es.toList,x.key=.int .i64 a->x=e0:=by
   intro x hx hxk;obtain⟨i,hi,rfl⟩:=List.getElem_of_mem hx;by_cases e1:i=j
   ·subst e1;rw[List.getElem?_eq_getElem hi] at h2;exact Option.some.inj h2
   ·have hp:=((stamped_iff es clock).1 hs).2.2;rw[List.pairwise_iff_getElem] at hp;rw[List.getElem?_eq_getElem hjl] at h2;have h2':=Option.some.inj h2;rcases Nat.lt_or_gt_of_ne e1 with hlt | hlt
    ·exact absurd (by rw[hxk,h2',h3]) (hp i j hi hjl hlt)
    ·exact absurd (by rw[hxk,h2',h3]) (hp j i hjl hi hlt)
  refine⟨{ w with heap:=w.heap.setIfInBounds b (.map (es.modify j (fun e'=>{ e' with key:=.int .i64 a,val:=v })) clock) },by simp[Instr.mapUpdate,run_underlying ht,MapKept.run_getObj_map hb,run_checkKey hk ik,run_findKey hk h1,hj,h3,run_keyThatStays ik,MapKept.run_setObj_map _ hb,Result.andThen],⟨es.modify j (fun e'=>{ e' with key:=.int .i64 a,val:=v }),clock,(heap_set hb).1,stamped_modify hs _ _ (fun _ _=>rfl) (fun e' _ he'=>hkey e' he'),?_,?_⟩,z1i hb _⟩
  ·intro x hx;rw[hlist] at hx;rcases List.mem_or_eq_of_mem_set hx with hx | rfl
   ·exact hks x hx
   ·exact⟨a,rfl⟩
  ·intro a' v';rw[hlist]
   show (if a'=a then some v else f a')=some v' ↔ _
   by_cases ea:a'=a
   ·subst ea;rw[if_pos rfl];constructor
    ·intro hv;cases hv;exact⟨_,List.mem_set hjl _,rfl,rfl⟩
    ·rintro⟨x,hx,hxk,rfl⟩;obtain⟨i,hi,rfl⟩:=List.getElem_of_mem hx;rw[List.getElem_set] at hxk ⊢;by_cases e1:j=i
     ·simp[e1]
     ·rw[if_neg e1] at hxk ⊢;have hi':i<es.toList.length:=by simpa using hi
      have:=hapart _ (List.getElem_mem hi') hxk;have hp:=((stamped_iff es clock).1 hs).2.2;rw[List.pairwise_iff_getElem] at hp;rw[List.getElem?_eq_getElem hjl] at h2;have h2':=Option.some.inj h2;rcases Nat.lt_or_gt_of_ne e1 with hlt | hlt
      ·exact absurd (by rw[hxk,h2',h3]) (hp j i hjl hi' hlt)
      ·exact absurd (by rw[hxk,h2',h3]) (hp i j hi' hjl hlt)
   ·rw[if_neg ea,hf];constructor
    ·rintro⟨x,hx,hxk,hxv⟩;obtain⟨i,hi,rfl⟩:=List.getElem_of_mem hx;by_cases e1:j=i
     ·subst e1;rw[List.getElem?_eq_getElem hjl] at h2;rw[Option.some.inj h2,h3] at hxk;simp at hxk;exact absurd hxk.symm ea
     ·refine⟨es.toList[i],List.mem_iff_getElem.2 ⟨i,by simpa using hi,by rw[List.getElem_set,if_neg e1]⟩,hxk,hxv⟩
    ·rintro⟨x,hx,hxk,hxv⟩;rcases List.mem_or_eq_of_mem_set hx with hx | rfl
     ·exact⟨x,hx,hxk,hxv⟩
     ·simp at hxk;exact absurd hxk.symm ea
theorem j6v {ty:TypeId} (ht:P.underlying t=some (.map k e)) (hk:P.underlying k=some (.int .i64)) (h:MpAt w b f) (a:Int) :
  ∃ w',(Builtin.delete_ #[t,k] ty #[.map (some b),.int .i64 a]).run P w=.ok (.tuple #[]) w'/\MpAt w' b (fun x=>if x=a then none else f x)/\Out b (b+1) w w':=by
 obtain⟨es,clock,hb,hs,hks,hf⟩:=h;have ik:IsKey (.int .i64) (.int .i64 a):=rfl;rcases findNow_spec ik es.toList 0 (MpAt.isKeys hks) with ⟨h1,h2⟩ | ⟨j,e0,h1,h2,h3⟩
 ·refine⟨_,by simp[Builtin.delete_,run_underlying ht,MapKept.run_getObj_map hb,run_checkKey hk ik,run_findKey hk h1,MapKept.run_setObj_map _ hb,Result.andThen];rfl,?_⟩;have hn:f a=none:=by
   cases hfa:f a with
   | none=>rfl
   | some v=>
    obtain⟨x,hx,hxk,_⟩:=(hf a v).1 hfa;exact absurd hxk (h2 x hx)
  first
   | exact⟨MpAt.congr ⟨es,clock,hb,hs,hks,hf⟩ (fun x=>by by_cases ex:x=a <;> simp[ex,hn]),Out.refl _ _ _⟩
   | exact⟨MpAt.congr ⟨es,clock,(heap_set hb).1,hs,hks,hf⟩ (fun x=>by by_cases ex:x=a <;> simp[ex,hn]),z1i hb _⟩
 ·have hjl:j<es.toList.length:=(List.getElem?_eq_some_iff.1 h2).1;have hjs:j<es.size:=by simpa using hjl
  have hsub:(es.eraseIdxIfInBounds j).toList=es.toList.eraseIdx j:=by
   unfold Array.eraseIdxIfInBounds;rw[dif_pos hjs];simp
  refine⟨_,by simp[Builtin.delete_,run_underlying ht,MapKept.run_getObj_map hb,run_checkKey hk ik,run_findKey hk h1,MapKept.run_setObj_map _ hb,Result.andThen],⟨_,_,(heap_set hb).1,stamped_erase hs j,?_,?_⟩,z1i hb _⟩
  ·intro x hx;rw[hsub] at hx;exact hks x ((List.eraseIdx_sublist _ _).subset hx)
  ·intro a' v';rw[hsub];have hp:=((stamped_iff es clock).1 hs).2.2;rw[List.pairwise_iff_getElem] at hp;rw[List.getElem?_eq_getElem hjl] at h2;have h2':=Option.some.inj h2
   show (if a'=a then none else f a')=some v' ↔ _
   by_cases ea:a'=a
   ·subst ea;rw[if_pos rfl];constructor
    ·intro hv;cases hv
    ·rintro⟨x,hx,hxk,_⟩;obtain⟨i,hne,hi⟩:=List.mem_eraseIdx_iff_getElem?.1 hx;obtain⟨hi',hxe⟩:=List.getElem?_eq_some_iff.1 hi;rcases Nat.lt_or_gt_of_ne hne with hlt | hlt
     ·exact absurd (by rw[hxe,hxk,h2',h3]) (hp i j hi' hjl hlt)
     ·exact absurd (by rw[hxe,hxk,h2',h3]) (hp j i hjl hi' hlt)
   ·rw[if_neg ea,hf];constructor
    ·rintro⟨x,hx,hxk,hxv⟩;obtain⟨i,hi,rfl⟩:=List.getElem_of_mem hx;refine⟨_,List.mem_eraseIdx_iff_getElem?.2 ⟨i,fun e1=>?_,List.getElem?_eq_getElem hi⟩,hxk,hxv⟩;subst e1;rw[h2',h3] at hxk;simp at hxk;exact ea hxk.symm
    ·rintro⟨x,hx,hxk,hxv⟩;exact⟨x,(List.eraseIdx_sublist _ _).subset hx,hxk,hxv⟩
end
end Go.Proofs.YtjbbkeoolodeaabGreatDoor
