import Derived.Test.YtjbbkeoolodeaabGreatDoorB37
import Derived.Test.YtjbbkeoolodeaabGreatDoorB12
import Derived.Test.YtjbbkeoolodeaabGreatDoorB28
import Derived.Test.YtjbbkeoolodeaabGreatDoorB18
namespace Go.Proofs.YtjbbkeoolodeaabGreatDoor
open Go.RowKit
set_option linter.unusedVariables false
set_option maxRecDepth 100000
set_option maxHeartbeats 16000000
set_option linter.unusedSimpArgs false
theorem q0l {n:Nat} {st:Sp} {k z t:Int} {a:Nat} {fresh:Bool} (hf:W8 k z=true) (hp:K5 n st z=some (a,fresh)):alF n st k z t=if z<=32/\fresh=false/\st.W a ≠ Y7 (nf n st (ofV z) (a+1)) then (0,21,(a:Int),st) else ((a:Int),0,0,V8 n st a fresh k z t):=by
 unfold alF;rw[if_pos hf,hp]
section
variable {w:World} {lo hi n cw co:Nat} {s:Nat->Nat} {st:Sp}
theorem q3e (h:RfAt w lo hi s n cw co st) (hI:Inv n st) (k z t:Int) (z1:-9223372036854775808<=z) (z2:z<=9223372036854775807) (hl:st.last<9223372036854775807) :
  Calls Tryz.prog 17 #[.pointer (some ⟨s 0,0,none⟩),.int .i64 k,.int .i64 z,.int .i64 t] w fun e w'=>
   e=.returned (.tuple #[.int .i64 (alF n st k z t).1,z3l (alF n st k z t).2.1 (alF n st k z t).2.2.1])/\RfAt w' lo hi s n cw co (alF n st k z t).2.2.2/\Out lo hi w w':=by
 have h2:=h.n2;have o0:Out 0 0 w (w.alloc (.cells #[.int .i64 0,.int .i64 0] 56)):=(Out.refl 0 0 w).alloc _;have f0:(w.alloc (.cells #[.int .i64 0,.int .i64 0] 56)).heap[w.heap.size]? = some (.cells #[.int .i64 0,.int .i64 0] 56 (0,0)):=heap_alloc_new _ _;have HFi:=Z0 (fun w=>q5l k z w z1 z2);obtain⟨F,hF⟩:∃ F,w.heap.size=F:=⟨_,rfl⟩
 have HSz:Hid (hi<=F/\w.heap.size=F):=⟨by rw[<-hF];exact h.top,hF⟩
 rw[hF] at f0;have H0:=Z0 (And.intro h (And.intro hI (And.intro o0 f0)));obtain⟨M,hM⟩:∃ M,64*n=M:=⟨_,rfl⟩
 have M2:(M:Int)<=262144:=by omega
 have HM:=Z0 hM;have HLs:=Z0 hl
 -- a fault is laid into its cell,and told
 have HEnd:Hid (∀ (V:World),Out lo hi w V->V.heap[F]? = some (.cells #[.int .i64 0,.int .i64 0] 56 (0,0))->∀ (x y:Int),((V.setCell ⟨F,0,none⟩ (.int .i64 x)).setCell ⟨F,1,none⟩ (.int .i64 y)).heap[F]? = some (.cells #[.int .i64 x,.int .i64 y] 56 (0,0))/\Out F (F+1) V ((V.setCell ⟨F,0,none⟩ (.int .i64 x)).setCell ⟨F,1,none⟩ (.int .i64 y))/\Out lo hi w ((V.setCell ⟨F,0,none⟩ (.int .i64 x)).setCell ⟨F,1,none⟩ (.int .i64 y))):=fun V hO hV x y=>by
  have o:Out F (F+1) V ((V.setCell ⟨F,0,none⟩ (.int .i64 x)).setCell ⟨F,1,none⟩ (.int .i64 y)):=((Out.refl _ _ _).setCell (p:=⟨F,0,none⟩) (.inl ⟨Nat.le_refl _,Nat.lt_succ_self _⟩) _).setCell (p:=⟨F,1,none⟩) (.inl ⟨Nat.le_refl _,Nat.lt_succ_self _⟩) _;exact⟨z2i hV _ _,o,hO.past o (by have:=HSz.out;omega)⟩
 clear h hI o0 f0 h2 hM hl;go_enter Tryz.func17,Tryz.ntmps17
 go_wp2_with fail;refine(HFi.out _).mono ?_;rintro e w1 ⟨rfl,o1⟩;have HO1:=Z0 (H0.out.2.2.1.trans o1);have hF1:=o1.heap H0.out.2.2.2 z0;have HF1:=Z0 hF1;clear o1;cases hfit:W8 k z with
 | false=>
  have hal:alF n st k z t=(0,24,0,st):=by unfold alF;rw[hfit];rfl
  have HAl:=Z0 hal;obtain⟨x0,x1,x2,x3⟩:=Z7 hF1;clear hF1 hfit hal;go_wp2;have hE:=HEnd.out _ (HO1.out.any lo hi) HF1.out 24 0;refine z9g (g:=F) Tryz.results17 rfl rfl rfl hE.1 ⟨by rw[HAl.out];rfl,?_,hE.2.2⟩;rw[HAl.out];exact(H0.out.1.quiet HO1.out).kept hE.2.1 (.inl HSz.out.1)
 | true=>
  have hz:=J8 hfit;have HPl:=Z0 (z5t (H0.out.1.quiet HO1.out) hz.2.2.1 hz.2.2.2);cases hpl:K5 n st z with
  | none=>
   have hal:alF n st k z t=(0,20,0,st):=by unfold alF;rw[hfit,hpl];rfl
   have HAl:=Z0 hal;rw[show q6n n st z = -1 from by unfold q6n;rw[hpl],show q6o n st z=false from by unfold q6o;rw[hpl]] at HPl;clear hF1 hal hpl hfit hz;go_wp2_with (go_at_call 56;refine HPl.out.mono ?_;rintro e w2 ⟨rfl,o2⟩;have HO2:=Z0 (HO1.out.trans o2);have hF2:=o2.heap HF1.out z0;have HF2:=Z0 hF2;obtain⟨x0,x1,x2,x3⟩:=Z7 hF2;clear hF2 o2);have hE:=HEnd.out _ (HO2.out.any lo hi) HF2.out 20 0;refine z9g (g:=F) Tryz.results17 rfl rfl rfl hE.1 ⟨by rw[HAl.out];rfl,?_,hE.2.2⟩;rw[HAl.out];exact(H0.out.1.quiet HO2.out).kept hE.2.1 (.inl HSz.out.1)
  | some pf=>
   obtain⟨a,fresh⟩:=pf;rw[show q6n n st z=(a:Int) from by unfold q6n;rw[hpl],show q6o n st z=fresh from by unfold q6o;rw[hpl]] at HPl;have hpi:=q5y H0.out.2.1 hz.2.2.1 hz.2.2.2 hpl;have HTk:=Z0 (fun W (o:Out 0 0 w W)=>z7p (H0.out.1.quiet o) H0.out.2.1 (t:=t) hfit hpl HLs.out);obtain⟨c,hc⟩:∃ c:Int,ofV z=c:=⟨_,rfl⟩
   have HOf:=Z0 (fun w=>z1u z w);rw[hc] at HOf;have a0:(0:Int)<=(a:Int):=by omega
   have a0':¬ (a:Int)<0:=by omega
   have am:(a:Int)<(M:Int):=by have:=HM.out;omega
   have HG:=Z0 (And.intro hpi (And.intro hz (And.intro hc (And.intro hfit hpl))));clear hF1 hpl hfit hz hpi hc;go_wp2_with (go_at_call 56;refine HPl.out.mono ?_;rintro e w2 ⟨rfl,o2⟩;have HO2:=Z0 (HO1.out.trans o2);have HF2:=Z0 (o2.heap HF1.out z0);clear o2);rename_i K6 hK6 K0 hK0
   have H6:=Z0 hK6;clear hK6;refine Z5 (HOf.out _) ?_;go_wp2_with fail;refine H6.out _ _ ?_;clear H6;apply wp_seq_k;intro K9 hK9;have HK9:Hid (∀ (V:World) (u13 u14 u15 u16 u17 u18 u19 u20 u21 u22 u23 u24 u25 u26 u27 u28 u29 u30 u31 u32 u33 u34 u35 u36 u37 u38 u39 u40 u41 u42 u43 u44 u45 u46 u47 u48 u49 u50:Value),Out 0 0 w V->V.heap[F]? = some (.cells #[.int .i64 0,.int .i64 0] 56 (0,0))->alF n st k z t=((a:Int),0,0,V8 n st a fresh k z t)->K9 { tmps:=#[.pointer (some ⟨s 0,0,none⟩),.int .i64 k,.int .i64 z,.int .i64 t,undef,undef,undef,undef,.int .i64 0,.pointer (some ⟨F,0,none⟩),.int .i64 (a:Int),.bool fresh,.int .i64 c,u13,u14,u15,u16,u17,u18,u19,u20,u21,u22,u23,u24,u25,u26,u27,u28,u29,u30,u31,u32,u33,u34,u35,u36,u37,u38,u39,u40,u41,u42,u43,u44,u45,u46,u47,u48,u49,u50,undef,undef,undef,undef,undef,undef,undef,undef,undef,undef,undef],defers:=[] } V):=by
    intro V u13 u14 u15 u16 u17 u18 u19 u20 u21 u22 u23 u24 u25 u26 u27 u28 u29 u30 u31 u32 u33 u34 u35 u36 u37 u38 u39 u40 u41 u42 u43 u44 u45 u46 u47 u48 u49 u50 hO hFV hal;apply hK9;have HT:=Z0 (HTk.out V hO);have HV:=Z0 (And.intro hO hFV);have HAl:=Z0 hal;clear hK9 hO hFV hal HTk HPl HFi HOf;go_wp2_with (go_at_call 60;refine HT.out.mono ?_;rintro e w3 ⟨⟨v,rfl⟩,hR3,o3⟩;have hF3:=o3.heap HV.out.2 (.inr HSz.out.1);have H3:=Z0 (And.intro hR3 (And.intro ((HV.out.1.any lo hi).trans o3) hF3));obtain⟨x0,x1,x2,x3⟩:=Z7 hF3;clear hR3 o3 hF3);have hE:=HEnd.out _ H3.out.2.1 H3.out.2.2 0 0;refine z9g (g:=F) Tryz.results17 rfl rfl rfl hE.1 ⟨by rw[HAl.out];rfl,?_,hE.2.2⟩;rw[HAl.out];exact H3.out.1.kept hE.2.1 (.inl HSz.out.1)
   have HK:=Z0 hK9;clear hK9;have hG:=HG.out;by_cases z32:32<z
   ·have hc8:c=8:=by rw[<-hG.2.2.1];unfold ofV;(repeat' split) <;> omega
    subst hc8;have hal:alF n st k z t=((a:Int),0,0,V8 n st a fresh k z t):=by
     rw[q0l hG.2.2.2.1 hG.2.2.2.2,if_neg (fun q=>by omega)]
    have HAl:=Z0 hal;clear hal hG;go_wp2_with fail;refine wp_region_held_drew (S:=fun _=>True) (by kernel_rfl) ?hS1 (fun hHeld=>?rest1)
    case hS1=>trivial
    obtain⟨Z,hZ⟩:∃ Z,w2.drew=Z:=⟨_,rfl⟩
    have OZ:Out 0 0 w2 Z:=by rw[<-hZ];exact(Out.refl 0 0 _).drew
    clear hHeld;rw[hZ];clear hZ;have hHeld:(fun(_:World)=>True) Z:=trivial;refine tk 0 ?_;refine tk 1 ?_;refine tk 2 ?_;refine sk 3 ?_;refine sk 4 ?_;refine tk 5 ?_;refine tk 6 ?_;refine sk 7 ?_;refine sk 8 ?_;refine sk 9 ?_;refine sk 10 ?_;refine sk 11 ?_;refine sk 12 ?_;refine sk 13 ?_;refine sk 14 ?_;refine sk 15 ?_;refine sk 16 ?_;refine sk 17 ?_;refine sk 18 ?_;refine sk 19 ?_;refine sk 20 ?_;refine tk 21 ?_;refine dn ?_;clear hHeld;go_wp2_with fail;exact HK9.out _ _ _ _ _ _ _ _ _ _ _ _ _ _ _ _ _ _ _ _ _ _ _ _ _ _ _ _ _ _ _ _ _ _ _ _ _ _ _ (HO2.out.trans OZ) (OZ.heap HF2.out z0) HAl.out
   ·have hs:=W9 hG.2.1.2.2.1 (by omega);rw[hG.2.2.1] at hs;obtain⟨cN,rfl⟩:∃ cN:Nat,c=(cN:Int):=⟨c.toNat,by omega⟩
    have c8:decide ((cN:Int)<8)=true:=by simp;omega
    cases hfr:fresh with
    | true=>
     have hal:alF n st k z t=((a:Int),0,0,V8 n st a true k z t):=by
      rw[q0l hG.2.2.2.1 hG.2.2.2.2,hfr,if_neg (fun q=>by cases q.2.1)]
     subst hfr;have HAl:=Z0 hal;clear hal hG hs;go_wp2_with fail;refine wp_region_held_drew (S:=fun _=>True) (by kernel_rfl) ?hS24 (fun hHeld=>?rest24)
     case hS24=>trivial
     obtain⟨Z,hZ⟩:∃ Z,w2.drew=Z:=⟨_,rfl⟩
     have OZ:Out 0 0 w2 Z:=by rw[<-hZ];exact(Out.refl 0 0 _).drew
     clear hHeld;rw[hZ];clear hZ;have hHeld:(fun(_:World)=>True) Z:=trivial;refine tk 0 ?_;refine tk 1 ?_;refine tk 2 ?_;refine tk 3 ?_;refine tk 4 ?_;refine tk 5 ?_;refine tk 6 ?_;refine sk 7 ?_;refine sk 8 ?_;refine sk 9 ?_;refine sk 10 ?_;refine sk 11 ?_;refine sk 12 ?_;refine sk 13 ?_;refine sk 14 ?_;refine sk 15 ?_;refine sk 16 ?_;refine sk 17 ?_;refine sk 18 ?_;refine sk 19 ?_;refine sk 20 ?_;refine tk 21 ?_;refine dn ?_;clear hHeld;go_wp2_with fail;exact HK9.out _ _ _ _ _ _ _ _ _ _ _ _ _ _ _ _ _ _ _ _ _ _ _ _ _ _ _ _ _ _ _ _ _ _ _ _ _ _ _ (HO2.out.trans OZ) (OZ.heap HF2.out z0) HAl.out
    | false=>
     subst hfr;have hR2:=H0.out.1.quiet HO2.out;have c0:=hR2.cells.1;rw[HM.out] at c0;have d0:=hR2.rw.cell (i:=a) hG.1.2.1;have HNx:=Z0 (fun W (o:Out 0 0 w2 W)=>G0 (hR2.quiet o) (c:=cN) (by omega) (f:=a+1) (by have:=hG.1.2.1;omega));obtain⟨x,hx⟩:∃ x,nf n st (cN:Int) (a+1)=x:=⟨_,rfl⟩
     have hxr:-1<=x/\x<=262143:=by
      obtain⟨f',_,hfx,_⟩:=z8f n st (cN:Int) (f:=a+1) (by have:=hG.1.2.1;omega);rw[hx] at hfx;have:=HM.out;rcases hfx with ⟨e,_⟩ | ⟨e,e2,_⟩ <;> omega
     have HLk:=Z0 (fun w=>z0w hxr.1 hxr.2 w);obtain⟨y,hy⟩:∃ y,st.W a=y:=⟨_,rfl⟩
     obtain⟨lk,hlk⟩:∃ lk,Y7 x=lk:=⟨_,rfl⟩
     rw[hx,show ((a+1:Nat):Int)=(a:Int)+1 from by omega] at HNx;rw[hlk] at HLk;rw[hy] at d0;have hwa:IntKind.i64.wrap ((a:Int)+1)=(a:Int)+1:=by simp[IntKind.wrap,IntKind.signed,IntKind.bits];omega
     have hal:alF n st k z t=if y ≠ lk then (0,21,(a:Int),st) else ((a:Int),0,0,V8 n st a false k z t):=by
      rw[q0l hG.2.2.2.1 hG.2.2.2.2,hG.2.2.1,hx,hlk,hy];by_cases e:y=lk
      ·rw[if_neg (fun q=>q.2.2 e),if_neg (fun q=>q e)]
      ·rw[if_pos ⟨by omega,rfl,e⟩,if_pos e]
     by_cases e:y=lk
     ·rw[if_neg (fun q=>q e)] at hal;have e1:(y != lk)=false:=by simpa using e
      have HAl:=Z0 hal;clear hal hG hs hx hxr hy hlk hR2 e;go_wp2_with fail;refine wp_region_held_drew (S:=fun w'=>w'.cell? ⟨s 0,0,none⟩=some (.slice (some ⟨s 1,0,none⟩) M cw)/\w'.cell? ⟨s 1,a,none⟩=some (.int .i64 y)) (by kernel_rfl) ?hS47 (fun hHeld=>?rest47)
      case hS47=>exact⟨c0,d0⟩
      obtain⟨Z,hZ⟩:∃ Z,w2.drew=Z:=⟨_,rfl⟩
      have OZ:Out 0 0 w2 Z:=by rw[<-hZ];exact(Out.refl 0 0 _).drew
      rw[hZ] at hHeld ⊢;clear hZ;refine tk 0 ?_;refine tk 1 ?_;refine tk 2 ?_;refine tk 3 ?_;refine tk 4 ?_;refine tk 5 ?_;refine tk 6 ?_;refine tk 7 ?_;refine tk 8 ?_;refine tk 9 ?_;refine tk 10 ?_;refine tk 11 ?_;refine tk 12 ?_;refine tk 13 ?_;refine tk 14 ?_;refine tk 15 ?_;refine tk 16 ?_;refine tk 17 ?_;refine rd1 18 fun KK hK=>?_
      simp only[xa,xb,xc];go_simp;refine Z5 (HNx.out _ OZ) ?_;refine hK.out _ _ ?hS66 (fun hHeld2=>?rest66)
      case hS66=>exact hHeld
      clear hK KK;replace hHeld:=hHeld2;clear hHeld2;refine rd1 19 fun KK hK=>?_
      simp only[xa,xb,xc];go_simp;refine Z5 (HLk.out _) ?_;refine hK.out _ _ ?hS67 (fun hHeld2=>?rest67)
      case hS67=>exact hHeld
      clear hK KK;replace hHeld:=hHeld2;clear hHeld2;refine tk 20 ?_;refine tk 21 ?_;refine dn ?_;clear hHeld;go_wp2_with fail;exact HK9.out _ _ _ _ _ _ _ _ _ _ _ _ _ _ _ _ _ _ _ _ _ _ _ _ _ _ _ _ _ _ _ _ _ _ _ _ _ _ _ (HO2.out.trans OZ) (OZ.heap HF2.out z0) HAl.out
     ·rw[if_pos e] at hal;have e1:(y != lk)=true:=by simpa using e
      have HAl:=Z0 hal;obtain⟨x0,x1,x2,x3⟩:=Z7 HF2.out;clear hal hG hs hx hxr hy hlk hR2 e;go_wp2_with fail;refine wp_region_held_drew (S:=fun w'=>w'.cell? ⟨s 0,0,none⟩=some (.slice (some ⟨s 1,0,none⟩) M cw)/\w'.cell? ⟨s 1,a,none⟩=some (.int .i64 y)) (by kernel_rfl) ?hS70 (fun hHeld=>?rest70)
      case hS70=>exact⟨c0,d0⟩
      obtain⟨Z,hZ⟩:∃ Z,w2.drew=Z:=⟨_,rfl⟩
      have OZ:Out 0 0 w2 Z:=by rw[<-hZ];exact(Out.refl 0 0 _).drew
      rw[hZ] at hHeld ⊢;clear hZ;refine tk 0 ?_;refine tk 1 ?_;refine tk 2 ?_;refine tk 3 ?_;refine tk 4 ?_;refine tk 5 ?_;refine tk 6 ?_;refine tk 7 ?_;refine tk 8 ?_;refine tk 9 ?_;refine tk 10 ?_;refine tk 11 ?_;refine tk 12 ?_;refine tk 13 ?_;refine tk 14 ?_;refine tk 15 ?_;refine tk 16 ?_;refine tk 17 ?_;refine rd1 18 fun KK hK=>?_
      simp only[xa,xb,xc];go_simp;refine Z5 (HNx.out _ OZ) ?_;refine hK.out _ _ ?hS89 (fun hHeld2=>?rest89)
      case hS89=>exact hHeld
      clear hK KK;replace hHeld:=hHeld2;clear hHeld2;refine rd1 19 fun KK hK=>?_
      simp only[xa,xb,xc];go_simp;refine Z5 (HLk.out _) ?_;refine hK.out _ _ ?hS90 (fun hHeld2=>?rest90)
      case hS90=>exact hHeld
      clear hK KK;replace hHeld:=hHeld2;clear hHeld2;refine tk 20 ?_;refine tk 21 ?_;refine dn ?_;clear hHeld;have y0:=OZ.cell x0 z0;have y1:=OZ.cell x1 z0;have hF4:=OZ.heap HF2.out z0;obtain⟨y0,y1,y2,y3⟩:=Z7 hF4;have HF4:=Z0 hF4;clear hF4 x0 x1 x2 x3 HK HK9 c0 d0;go_wp2;have hE:=HEnd.out _ ((HO2.out.trans OZ).any lo hi) HF4.out 21 (a:Int);refine z9g (g:=F) Tryz.results17 rfl rfl rfl hE.1 ⟨by rw[HAl.out];rfl,?_,hE.2.2⟩;rw[HAl.out];exact(H0.out.1.quiet (HO2.out.trans OZ)).kept hE.2.1 (.inl HSz.out.1)
end
theorem q4k {w:World} {base g n sz cap:Nat} {T:TypeId} {xs:List Value} {f:Nat->Value} (h:w.ownsRow base T sz (.slice (some ⟨g,0,none⟩) n cap) n xs) (hx:∀ j,j<n*sz->xs[j]? = some (f j)):Row w g T (n*sz) f:=by
 obtain⟨hl,h2⟩:=h;rcases h2 with ⟨e,_⟩ | ⟨g',cap',cur,e,hg,hh,h3,h4,h5,h6⟩
 ·cases e
 ·simp only[Value.slice.injEq,Option.some.injEq,Addr.mk.injEq] at e;obtain⟨⟨rfl,_⟩,_⟩:=e;refine⟨cur,hh,by rw[h5];exact Nat.mul_le_mul_right _ h3,fun i hi=>?_⟩;have:=hx i hi;rw[<-h6,List.getElem?_take,if_pos hi,Array.getElem?_toList] at this;exact this
theorem j1m {ops:Array Oper} {o:Oper} {ac:Go.Act} {w:World} {K:Go.Act->World->Prop} {Q:Exit->Go.Act->World->Prop} {E:Prop} (hgd:o.guard=none) (sx xx:Operand)
  (ho:o.op=.call { callee:=.builtin .append,args:=#[sx,xx],argTypes:=#[70,70] }) (hs:ac.eval sx=.slice none 0 0)
  (bw k cap:Nat) (f:Nat->Int) (hx:ac.eval xx=.slice (some ⟨bw,0,none⟩) k cap) (hr:Row w bw 97 (k*5) (fun i=>.int .i64 (f i))) (k1:1<=k) (k2:k<=262144)
  (h:∀ g cap' w',w'.ownsRow w.heap.size 97 5 (.slice (some ⟨g,0,none⟩) k cap') k ((List.range (k*5)).map fun i=>.int .i64 (f i))->Out 0 0 w w'->K (ac.put o.dst (.slice (some ⟨g,0,none⟩) k cap')) w') :
  if Region.wanted o (yielded ops ac.tmps)=true then Oper.wp Tryz.prog o ac w K Q else E:=by
 have hw:Region.wanted o (yielded ops ac.tmps)=true:=by simp[Region.wanted,hgd]
 rw[if_pos hw];obtain⟨i0,hi0,hz0,hz1,hz2⟩:=Q3 z6s;obtain⟨v2,w',hrun,hown2,hgrow,hnil⟩:=run_append_own (P:=Tryz.prog) w w.heap.size 70 o.type 97 i0 (.agg #[.int .i64 0,.int .i64 0,.int .i64 0,.int .i64 0,.int .i64 0]) 5 40 Tryz.underlying70 hi0 hz0 hz1 hz2 rfl (by decide) (.slice none 0 0) 0 [] (World.ownsRow_nil _ _ _ 5) ⟨bw,0,none⟩ k cap ((List.range (k*5)).map fun i=>.int .i64 (f i)) (by simp) (by
   intro j u hj;have hjk:j<k*5:=by have:=(List.getElem?_eq_some_iff.1 hj).1;simpa using this
   simp[hjk] at hj;subst hj;rw[Addr.add_lit,Nat.zero_add];exact hr.cell hjk) (by intro u hu;simp at hu;obtain⟨i,_,rfl⟩:=hu;rfl) (by unfold maxLen;omega) (by omega) (Nat.le_refl _)
 rw[Nat.zero_add,List.nil_append] at hown2;obtain⟨g4,cap4,rfl,hg4,_⟩:=hown2.form (by omega);unfold Oper.wp;simp[execOp,ho,resolve,invoke,builtin,hs,hx,hrun,Result.andThen];exact h g4 cap4 w' hown2 ⟨hgrow.os,hgrow.tape,hgrow.output,hgrow.size,fun j h1 h2=>hgrow.block j h1 (by simp[Value.ownBlock])⟩
section
variable {w:World} {lo hi n cw co:Nat} {s:Nat->Nat} {st:Sp}
theorem q1b (h:RfAt w lo hi s n cw co st) :
  Calls Tryz.prog 72 #[.pointer (some ⟨s 0,0,none⟩)] w fun e w'=>∃ s' cw' co',e=.returned (.pointer (some ⟨s' 0,0,none⟩))/\RfAt w' w.heap.size w'.heap.size s' n cw' co' st/\Out 0 0 w w':=by
 obtain⟨c0,c1,c2,c3,_⟩:=h.cells;have HH:=Z0 h;have HN:Hid (1<=n/\n<=4096/\4<=w.heap.size):=by
  have:=h.glob;have:=h.top;have:=h.inn 0 (by omega);exact⟨h.n1,h.n2,by omega⟩
 clear h;go_enter Tryz.func72,Tryz.ntmps72
 go_wp2_with fail;refine wp_region_held_drew (S:=fun w'=>w'.cell? ⟨s 0,0,none⟩=some (.slice (some ⟨s 1,0,none⟩) (64*n) cw)/\w'.cell? ⟨s 0,1,none⟩=some (.pointer (some ⟨s 2,0,none⟩))/\w'.cell? ⟨s 0,2,none⟩=some (.slice (some ⟨s 4,0,none⟩) (64*n) co)/\w'.cell? ⟨s 0,3,none⟩=some (.int .i64 st.last)) (by kernel_rfl) ?hS1 (fun hHeld=>?rest1)
 case hS1=>exact⟨c0,c1,c2,c3⟩
 obtain⟨Z,hZ⟩:∃ Z,w.drew=Z:=⟨_,rfl⟩
 have OZ:Out 0 0 w Z:=by rw[<-hZ];exact(Out.refl 0 0 w).drew
 rw[hZ] at hHeld ⊢;clear hZ;refine tk 0 ?_;refine tk 1 ?_;refine tk 2 ?_;refine tk 3 ?_;refine tk 5 ?_;refine tk 6 ?_;refine tk 7 ?_;refine tk 8 ?_;refine tk 10 ?_;refine tk 11 ?_;refine tk 12 ?_;refine tk 13 ?_;refine tk 15 ?_;refine tk 16 ?_;refine tk 17 ?_;refine tk 18 ?_;refine rd1 4 fun KK hK=>?_
 refine z8i (by rfl) _ _ (by rfl) (by rfl) (s 1) (64*n) cw st.W (by rfl) (HH.out.quiet OZ).rw (by have:=HN.out;omega) (by have:=HN.out;omega) ?_;intro gw kw X1 fW o1;have OX1:=OZ.trans o1;refine hK.out _ _ ?hS18 (fun hHeld2=>?rest18)
 case hS18=>exact⟨o1.cell hHeld.1 z0,o1.cell hHeld.2.1 z0,o1.cell hHeld.2.2.1 z0,o1.cell hHeld.2.2.2 z0⟩
 clear o1;clear hK KK;replace hHeld:=hHeld2;clear hHeld2;refine rd1 9 fun KK hK=>?_
 simp only[xa,xb,xc];go_simp;refine(z6v (HH.out.quiet OX1).rt (by have:=HN.out;have:=OX1.size;omega)).mono ?_;rintro e X2 ⟨tb,tw,rfl,fT,t1,t2,o1⟩;have zW:=(Z8 fW gw rfl)
 have fW2:=z0q fW o1 (Nat.zero_le _);have OX2:=OX1.trans o1;have zs1:=o1.size;refine hK.out _ _ ?hS19 (fun hHeld2=>?rest19)
 case hS19=>exact⟨o1.cell hHeld.1 z0,o1.cell hHeld.2.1 z0,o1.cell hHeld.2.2.1 z0,o1.cell hHeld.2.2.2 z0⟩
 clear o1;clear hK KK;replace hHeld:=hHeld2;clear hHeld2;refine rd1 14 fun KK hK=>?_
 refine j1m (by rfl) _ _ (by rfl) (by rfl) (s 4) (64*n) co (obC st) (by rfl) (HH.out.quiet OX2).ro (by have:=HN.out;omega) (by have:=HN.out;omega) ?_;intro go ko X3 fO o1;have fW3:=z0q fW2 o1 (Nat.zero_le _);have fT3:=fT.quiet o1;have zT:=fT.nums;have zO:=(Z8 fO go rfl)
 have OX3:=OX2.trans o1;have zs2:=o1.size;refine hK.out _ _ ?hS20 (fun hHeld2=>?rest20)
 case hS20=>exact⟨o1.cell hHeld.1 z0,o1.cell hHeld.2.1 z0,o1.cell hHeld.2.2.1 z0,o1.cell hHeld.2.2.2 z0⟩
 clear o1;clear hK KK;replace hHeld:=hHeld2;clear hHeld2;refine tk 19 ?_;refine rd1 20 fun KK hK=>?_
 simp only[xa,xb,xc];go_simp;obtain⟨bs,hbs⟩:∃ b,X3.heap.size=b:=⟨_,rfl⟩
 obtain⟨X4,hW⟩:∃ W,X3.alloc (.cells #[.slice (some ⟨gw,0,none⟩) (64*n) kw,.pointer (some ⟨tb,0,none⟩),.slice (some ⟨go,0,none⟩) (64*n) ko,.int .i64 st.last] 74)=W:=⟨_,rfl⟩
 have o1:Out 0 0 X3 X4:=by rw[<-hW];exact(Out.refl 0 0 _).alloc _
 have fB:X4.heap[bs]? = some (.cells #[.slice (some ⟨gw,0,none⟩) (64*n) kw,.pointer (some ⟨tb,0,none⟩),.slice (some ⟨go,0,none⟩) (64*n) ko,.int .i64 st.last] 74):=by rw[<-hW,<-hbs];exact heap_alloc_new _ _
 have zB:bs<X4.heap.size:=Q4 fB;have fW4:=z0q fW3 o1 (Nat.zero_le _);have fT4:=fT3.quiet o1;have fO4:=z0q fO o1 (Nat.zero_le _);have OX4:=OX3.trans o1;(try rw[hW]);(try rw[hbs]);clear hW;refine hK.out _ _ ?hS22 (fun hHeld2=>?rest22)
 case hS22=>exact⟨o1.cell hHeld.1 z0,o1.cell hHeld.2.1 z0,o1.cell hHeld.2.2.1 z0,o1.cell hHeld.2.2.2 z0⟩
 clear o1;clear hK KK;replace hHeld:=hHeld2;clear hHeld2;refine tk 21 ?_;refine dn ?_;clear hHeld;have HE:=Z0 (And.intro fW4 (And.intro fT4 (And.intro fO4 (And.intro fB (And.intro zB (And.intro OX4 (And.intro zW (And.intro zT (And.intro zO (And.intro t1 (And.intro t2 (And.intro zs1 (And.intro zs2 (And.intro hbs (And.intro OZ.size OX1.size)))))))))))))));clear fW fW2 fW3 fW4 fT fT3 fT4 fO fO4 fB zB OX1 OX2 OX3 OX4 zW zT zO t1 t2 zs1 zs2 hbs OZ;go_wp2;go_ret;obtain⟨fW4,fT4,fO4,fB,zB,OX4,zW,zT,zO,t1,t2,zs1,zs2,hbs,hz,hz1⟩:=HE.out;have hN:=HN.out;refine⟨rfS bs gw tb tw go,kw,ko,rfl,?_,OX4⟩;refine⟨hN.1,hN.2.1,Nat.le_refl _,hN.2.2,?_,?_,fB,?_,fT4,?_⟩
 ·intro i hi5;have:i=0\/i=1\/i=2\/i=3\/i=4:=by omega
  rcases this with rfl | rfl | rfl | rfl | rfl <;> simp[rfS] <;> omega
 ·intro i j hi5 hj5;have a:i=0\/i=1\/i=2\/i=3\/i=4:=by omega
  have b:j=0\/j=1\/j=2\/j=3\/j=4:=by omega
  rcases a with rfl | rfl | rfl | rfl | rfl <;> rcases b with rfl | rfl | rfl | rfl | rfl <;> simp[rfS] <;> omega
 ·have:=q4k (f:=fun j=>.int .i64 (st.W j)) fW4 (fun j hj=>by simp at hj;simp[hj]);rw[Nat.mul_one] at this;exact this
 ·exact q4k (f:=fun j=>.int .i64 (obC st j)) fO4 (fun j hj=>by simp[hj])
end
def z1w (n:Nat):Sp->List Int->Bool
 | _,[]=>true
 | st,z :: l=>if 1<=z/\z<=1024 then (match K5 n st z with | some (a,b)=>z1w n (V8 n st a b 3 z 0) l | none=>false) else false
theorem j7i (z:Int):W8 3 z=decide (1<=z/\z<=1024):=by
 by_cases h:1<=z/\z<=1024
 ·rw[decide_eq_true h];obtain⟨k,rfl⟩:∃ k:Nat,z=(k:Int):=⟨z.toNat,by omega⟩
  have:∀ k:Fin 1025,1<=k.val->W8 3 (k.val:Int)=true:=by decide +kernel
  exact this ⟨k,by omega⟩ (by show 1<=k;omega)
 ·rw[decide_eq_false h];cases hf:W8 3 z with
  | false=>rfl
  | true=>exact absurd (J8 hf).2.2 h
section
variable {n:Nat} {st:Sp}
theorem j0z {k z t:Int} {a:Nat} {fresh:Bool} (hI:Inv n st) (hf:W8 k z=true) (hp:K5 n st z=some (a,fresh)):Inv n (V8 n st a fresh k z t):=by
 have hz:=J8 hf;unfold K5 at hp;by_cases h:32<z
 ·rw[if_pos h] at hp;obtain⟨p,hr,e⟩:=Option.map_eq_some_iff.1 hp;simp only[Prod.mk.injEq] at e;obtain⟨rfl,rfl⟩:=e;exact(z3j hI hf h hr).1
 ·rw[if_neg h] at hp;by_cases h0:0<=nf n st (ofV z) 0
  ·rw[if_pos h0] at hp;simp only[Option.some.injEq,Prod.mk.injEq] at hp;obtain⟨e,rfl⟩:=hp;unfold nf at h0 e;rcases Q1 (fr n st (ofV z)) (64*n) 0 with ⟨q,_⟩ | ⟨i,q,i1,i2,i3,i4⟩
   ·rw[q] at h0;omega
   ·rw[q] at e;obtain rfl:i=a:=by omega
    exact(z0t hI hf (by omega) i3).1
  ·rw[if_neg h0] at hp;obtain⟨p,hr,e⟩:=Option.map_eq_some_iff.1 hp;simp only[Prod.mk.injEq] at e;obtain⟨rfl,rfl⟩:=e;exact(z0v hI hf (by omega) hr).1
theorem q6m:∀ (l:List Int) {s1 s2:Sp},s1.S=s2.S->s1.O=s2.O->s1.last=s2.last->z1w n s1 l=z1w n s2 l
 | [],_,_,_,_,_=>rfl
 | z :: l,s1,s2,h1,h2,h3=>by
  have hp:K5 n s1 z=K5 n s2 z:=by
   unfold K5 nf;have hfr:∀ c,fr n s1 c=fr n s2 c:=fun c=>by unfold fr;rw[h1,h2]
   rw[h1,hfr]
  unfold z1w;rw[hp];split
  ·split
   ·rename_i a b _
    refine q6m l ?_ ?_ ?_
    ·show Y0 s1 a b z=Y0 s2 a b z
     unfold Y0;rw[h1]
    ·show U4 s1.O a (3,z,Q9 s1 3,0)=U4 s2.O a (3,z,Q9 s2 3,0)
     unfold Q9;rw[h2,h3]
    ·show U8 s1 3=U8 s2 3
     unfold U8;rw[h3]
   ·rfl
  ·rfl
theorem j6l:∀ (l:List Int) {st:Sp},Inv n st->Rt n st->q5d n st l=z1w n st l
 | [],_,_,_=>rfl
 | z :: l,st,hi,hR=>by
  unfold q5d z1w;by_cases h:1<=z/\z<=1024
  ·have hf:W8 3 z=true:=by rw[j7i,decide_eq_true h]
   rw[if_pos h];rcases z6r (t:=0) hi hR hf with ⟨e1,e2⟩ | ⟨a,fresh,e1,e2,i1,i2,_⟩
   ·rw[e1,e2];rfl
   ·rw[e1,e2]
    show (true && q5d n (V8 n st a fresh 3 z 0) l)=_
    rw[j6l l i1 i2];rfl
  ·have hf:W8 3 z=false:=by rw[j7i,decide_eq_false h]
   rw[if_neg h];have:(alF n st 3 z 0).2.1=24:=by unfold alF;rw[hf];rfl
   rw[this];rfl
def rgW (n:Nat) (st:Sp) (j:Nat):Int:=if Q7 (st.O j) then X9 j (st.O j).1 (st.O j).2.1 else Y7 (nf n st (st.S (j / 64)).2.1 (j+1))
theorem q5r:Rt n { st with W:=rgW n st }:=by
 constructor
 ·intro c a hf;obtain⟨f1,f2,f3,f4⟩:=fr_iff.1 hf;have f2':st.S (a / 64)=(1,c,0):=f2;have f4':Q7 (st.O a)=false:=f4
  show rgW n st a=_
  unfold rgW;rw[f4',if_neg (by simp),f2'];rfl
 ·intro a ha;have ha':Q7 (st.O a)=true:=ha
  show rgW n st a=_
  unfold rgW;rw[ha',if_pos rfl]
theorem j1h (W:Nat->Int):∀ (l:List Int) (T:Nat->Int × Int × Int) (f g:Nat->Int),z5d n (Z6 n { st with W:=W }) T f g l=z5d n (Z6 n st) T f g l
 | [],_,_,_=>rfl
 | z :: l,T,f,g=>by
  unfold z5d;rw[show plT n (Z6 n { st with W:=W }) T f g z=plT n (Z6 n st) T f g z from rfl,j1h W l]
theorem j4o (hI:Inv n st) (l:List Int):z5d n (Z6 n st) st.S (fun _=>0) (fun _=>0) l=z1w n st l:=by
 have hI':Inv n { st with W:=rgW n st }:=⟨hI.n1,hI.n2,hI.good,hI.objs,hI.none,hI.heads,hI.last0,hI.ser,hI.one⟩
 rw[<-j1h (rgW n st),show st.S=({ st with W:=rgW n st }:Sp).S from rfl,q9u hI' q5r,j6l l hI' q5r];exact q6m l rfl rfl rfl
end
def z2x (w:World) (p:Option Addr) (l:List Int):Prop:=l=[]\/∃ g off,p=some ⟨g,off,none⟩/\g<w.heap.size/\∀ j,j<l.length->w.cell? ⟨g,off+j,none⟩=some (.int .i64 (l[j]?.getD 0))
section
variable {w:World} {lo hi n cw co:Nat} {s:Nat->Nat} {st:Sp}
theorem q0z (z:Int) (hz:¬(1<=z/\z<=1024)) (a:Option Addr) (w:World):Calls Tryz.prog 56 #[.pointer a,.int .i64 z] w fun e w'=>e=.returned (.tuple #[.int .i64 (-1),.bool false])/\w'=w:=by
 have ho:ofV z = -1:=by unfold ofV;(repeat' split) <;> omega
 have HOf:=Z0 (fun w=>z1u z w);rw[ho] at HOf;clear ho hz;go_enter Tryz.func56,Tryz.ntmps56
 go_wp2_with (go_at_call 57;refine Z5 (HOf.out _) ?_);go_ret2;exact⟨rfl,rfl⟩
theorem x0s {l:List Int} {i:Nat} {z:Int} (hi:l[i]? = some z) (st:Sp):z1w n st (l.drop i)=if 1<=z/\z<=1024 then (match K5 n st z with | some (a,b)=>z1w n (V8 n st a b 3 z 0) (l.drop (i+1)) | none=>false) else false:=by
 obtain⟨h1,h2⟩:=List.getElem?_eq_some_iff.1 hi;rw[List.drop_eq_getElem_cons h1,h2];rfl
theorem q1q (h:RfAt w lo hi s n cw co st) (hI:Inv n st) {l:List Int} {p:Option Addr} {cp:Nat} (hl:z2x w p l) (hll:st.last+(l.length:Int)<9223372036854775807) :
  Calls Tryz.prog 31 #[.pointer (some ⟨s 0,0,none⟩),.slice p l.length cp] w fun e w'=>e=.returned (.bool (z1w n st l))/\Out 0 0 w w':=by
 have HCp:=Z0 (q1b h);have HLi:=Z0 hl;have HI:=Z0 hI;have l0:=hI.last0;have HLL:=Z0 (And.intro l0 hll);obtain⟨N,hN⟩:∃ N,l.length=N:=⟨_,rfl⟩
 have HN:=Z0 hN;have N1:(N:Int)<=9223372036854775807:=by omega
 rw[hN];obtain⟨b,hb⟩:∃ b,z1w n st l=b:=⟨_,rfl⟩
 rw[hb];have HB:=Z0 hb;clear h hI hl hll l0 hN hb;go_enter Tryz.func31,Tryz.ntmps31
 go_wp2_with fail;refine HCp.out.mono ?_;rintro e w1 ⟨s',cw',co',rfl,hR,hO⟩;obtain⟨X,hX⟩:∃ X,s' 0=X:=⟨_,rfl⟩
 rw[hX];have HR1:=Z0 (And.intro hR (And.intro hO hX));clear hR hO hX;go_wp2_with fail;go_loopw [6] (fun u wr=>∃ (i:Nat) (sI:Sp),u=.int .i64 (i:Int)/\i<=N/\RfAt wr w.heap.size w1.heap.size s' n cw' co' sI/\Inv n sI/\z1w n sI (l.drop i)=b/\sI.last<=st.last+(i:Int)/\Out 0 0 w wr) (fun u _=>N-(intOf u).toNat)
 case atStart=>exact⟨0,st,rfl,Nat.zero_le _,HR1.out.1,HI.out,by rw[List.drop_zero];exact HB.out,by simp,HR1.out.2.1⟩
 case round=>
  obtain⟨i,sI,rfl,i1,hR,hI,hpl,hls,hO⟩:=hrel;have i0:(0:Int)<=(i:Int):=by omega
  by_cases hlt:i<N
  ·have il:(i:Int)<(N:Int):=by omega
   obtain⟨z,hz⟩:∃ z,l[i]? = some z:=by
    have:=HN.out;exact⟨l[i]'(by omega),List.getElem?_eq_getElem (by omega)⟩
   rw[x0s hz] at hpl;obtain⟨g,off,rfl,hg1,hg2⟩:∃ g off,p=some ⟨g,off,none⟩/\g<w.heap.size/\w.cell? ⟨g,off+i,none⟩=some (.int .i64 z):=by
    rcases HLi.out with e | ⟨g,off,e,h1,h2⟩
    ·have:=HN.out;rw[e] at this;simp at this;omega
    ·have:=h2 i (by have:=HN.out;omega);rw[hz] at this;exact⟨g,off,e,h1,this⟩
   have d0:=hO.cell hg2 z0;by_cases hzr:1<=z/\z<=1024
   ·rw[if_pos hzr] at hpl;have hPl:=z5t hR hzr.1 hzr.2;rw[HR1.out.2.2] at hPl;have hf:W8 3 z=true:=x1v hzr.1 hzr.2;cases hpf:K5 n sI z with
    | none=>
     rw[hpf] at hpl;rw[show q6n n sI z = -1 from by unfold q6n;rw[hpf],show q6o n sI z=false from by unfold q6o;rw[hpf]] at hPl;have HPl:=Z0 hPl;have HE:=Z0 (And.intro hpl hO);clear hPl hpl hO hR hI hls hpf hf hzr hg2 hz;go_wp2_with (go_at_call 56;refine HPl.out.mono ?_;rintro e w2 ⟨rfl,o2⟩);go_ret;exact⟨by rw[<-HE.out.1];rfl,HE.out.2.trans o2⟩
    | some pf=>
     obtain⟨a,fresh⟩:=pf;rw[hpf] at hpl;dsimp only at hpl;rw[show q6n n sI z=(a:Int) from by unfold q6n;rw[hpf],show q6o n sI z=fresh from by unfold q6o;rw[hpf]] at hPl;have a0:¬ (a:Int)<0:=by omega
     have hTk:=fun W (o:Out 0 0 wr W)=>z7p (hR.quiet o) hI (t:=0) hf hpf (by have:=HLL.out;have:=HN.out;omega)
     simp only[HR1.out.2.2] at hTk;have HTk:=Z0 hTk;have HPl:=Z0 hPl;have HE:=Z0 (And.intro hpl (And.intro hO (And.intro (j0z (t:=0) hI hf hpf) (And.intro hls hg2))));clear hPl hpl hO hR hI hls hpf hf hzr hTk hg2 hz;go_wp2_with (first | (go_at_call 56;refine HPl.out.mono ?_;rintro e w2 ⟨rfl,o2⟩;have HT:=Z0 (HTk.out _ o2);have d2:=o2.cell d0 z0;have HO2:=Z0 o2;clear o2 d0) | (go_at_call 60;refine HT.out.mono ?_;rintro e w3 ⟨⟨v,rfl⟩,hR3,o3⟩;have H3:=Z0 (And.intro hR3 o3);clear hR3 o3));refine⟨⟨i+1,_,by congr 1,by omega,H3.out.1,HE.out.2.2.1,HE.out.1,?_,?_⟩,by simp[intOf] <;> omega⟩
     ·show U8 sI 3<=_
      have:=HE.out.2.2.2.1;unfold U8;split <;> push_cast <;> omega
     ·exact(HE.out.2.1.trans HO2.out).past H3.out.2 (Nat.le_refl _)
   ·rw[if_neg hzr] at hpl;have HPo:=Z0 (q0z z hzr (some ⟨X,0,none⟩));have HE:=Z0 (And.intro hpl hO);clear hpl hO hR hI hls hzr hg2 hz;go_wp2_with (go_at_call 56;refine Z5 (HPo.out _) ?_);go_ret;exact⟨by rw[<-HE.out.1];rfl,HE.out.2⟩
  ·have e:i=N:=by omega
   subst e;have hd:l.drop i=[]:=List.drop_eq_nil_of_le (by have:=HN.out;omega);rw[hd] at hpl;have HE:=Z0 (And.intro hpl hO);clear hd hpl hO hR hI hls;go_wp2;go_ret;exact⟨by rw[<-HE.out.1];rfl,HE.out.2⟩
end
end Go.Proofs.YtjbbkeoolodeaabGreatDoor
