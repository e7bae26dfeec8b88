import Derived.Test.YtjbbkeoolodeaabGreatDoorB32
import Derived.Test.YtjbbkeoolodeaabGreatDoorB12
import Derived.Test.YtjbbkeoolodeaabGreatDoorB23
import Derived.Test.YtjbbkeoolodeaabGreatDoorB29
import Derived.Test.YtjbbkeoolodeaabGreatDoorB16
import Derived.Test.YtjbbkeoolodeaabGreatDoorB21
namespace Go.Proofs.YtjbbkeoolodeaabGreatDoor
open Go.RowKit
set_option linter.unusedVariables false
set_option maxRecDepth 100000
set_option maxHeartbeats 16000000
set_option linter.unusedSimpArgs false
def rdV (r:Raw) (a i:Int):Int:=if z4v r a i=0 then r.W (a+i).toNat else 0
section
variable {w:World} {lo hi n cap:Nat} {s:Nat->Nat} {r:Raw}
theorem j5v (h:RawAt w lo hi s n cap r) (hM:z5a n r) (a i:Int):Calls Tryz.prog 67 #[.pointer (some ⟨s 14,0,none⟩),.int .i64 a,.int .i64 i] w fun e w'=>e=.returned (.tuple #[.int .i64 (rdV r a i),.agg #[.int .i64 (z4v r a i),.int .i64 (z3w r a)]])/\Out 0 0 w w':=by
 have h0:Out 0 0 w (w.alloc (.cells #[.int .i64 0,.int .i64 0] 39)):=(Out.refl 0 0 w).alloc _;have hz:(w.alloc (.cells #[.int .i64 0,.int .i64 0] 39)).heap[w.heap.size]? = some (.cells #[.int .i64 0,.int .i64 0] 39 (0,0)):=heap_alloc_new _ _;have HZ:=Z0 hz;have H0:=Z0 h0;have HR:=Z0 (fun w' (o:Out 0 0 w w')=>h.quiet o);have HT:Hid (hi<=w.heap.size):=h.top;have HC:=Z0 (z4u (h.quiet h0) hM a i);unfold z3l at HC;by_cases hc:z4v r a i=0
 ·obtain⟨e2,j,hj,j1,j2,j3⟩:=wrd0 hM hc;have e3:rdV r a i=r.W (a+i).toNat:=by unfold rdV;rw[if_pos hc]
  rw[hc,e2] at HC;rw[hc,e2,e3];have hn:=h.n2;have b1:(0:Int)<=a+i:=by omega
  have b2:a+i<((64*n:Nat):Int):=by omega
  have b3:((64*n:Nat):Int)<=262144:=by omega
  have J1:Hid ((a+i).toNat<64*n):=by show _<_;omega
  generalize hm:64*n=m at *
  clear h hM h0 hz hc e2 e3 hj j1 hn;go_enter Tryz.func67,Tryz.ntmps67
  go_wp2_with (first
   | (go_at_call 61;refine HC.out.mono ?_;rintro e w1 ⟨rfl,ho⟩;obtain⟨q4,q5,q6,q7⟩:=Z7 ((ho.alloc (.cells #[.int .i64 0,.int .i64 0] 39)).heap HZ.out z0);obtain⟨q0,q1,q2,q3⟩:=Z7 (heap_alloc_new w1 (.cells #[.int .i64 0,.int .i64 0] 39));have HO:=Z0 (ho.alloc (.cells #[.int .i64 0,.int .i64 0] 39));obtain⟨c0,c1,c2,c3,c4,c5⟩:=(HR.out _ (H0.out.trans HO.out)).cells;have hcell:=(HR.out _ (H0.out.trans HO.out)).words.cell (i:=(a+i).toNat) (by rw[hm];exact J1.out);clear ho))
  exact z3s Tryz.results67 rfl rfl rfl (W7 (HO.out.heap HZ.out z0)) ⟨rfl,(H0.out.trans HO.out).set2 (.inr (Nat.le_refl _)) _ _⟩
 ·have e3:rdV r a i=0:=by unfold rdV;rw[if_neg hc]
  rw[e3];have e4:(z4v r a i == 0)=false:=by simpa using hc
  generalize z4v r a i=u at *
  generalize z3w r a=y at *
  clear h hM h0 hz hc e3;go_enter Tryz.func67,Tryz.ntmps67
  go_wp2_with (first
   | (go_at_call 61;refine HC.out.mono ?_;rintro e w1 ⟨rfl,ho⟩;obtain⟨q4,q5,q6,q7⟩:=Z7 ((ho.alloc (.cells #[.int .i64 u,.int .i64 y] 39)).heap HZ.out z0);obtain⟨q0,q1,q2,q3⟩:=Z7 (heap_alloc_new w1 (.cells #[.int .i64 u,.int .i64 y] 39));have HO:=Z0 (ho.alloc (.cells #[.int .i64 u,.int .i64 y] 39));clear ho))
  go_region_with fail
  all_goals
   go_wp2;exact z3s Tryz.results67 rfl rfl rfl (W7 (((HO.out.drew)).heap HZ.out z0)) ⟨rfl,(((H0.out.trans HO.out).drew)).set2 (.inr (Nat.le_refl _)) _ _⟩
end
theorem Out.trans' {a b c:World} {F:Nat} (h:Out 0 0 a b) (o:Out F (F+1) b c) (hf:a.heap.size=F):Out 0 0 a c:=Z9 h o (.inl (by omega))
section
variable {w:World} {lo hi n cw co:Nat} {s:Nat->Nat} {st:Sp}
theorem z9g {fn:Func} {p u:Tmp} {a:Act} {w:World} {g:Nat} {x y:Int} {v:Value} {post:Ending->World->Prop} (hr:fn.results = #[.tmp u,.cell p 56]) (hp:a.tmps.getD p undef=.pointer (some ⟨g,0,none⟩)) (hu:a.tmps.getD u undef=v)
  (hd:a.defers=[]) (hg:w.heap[g]? = some (.cells #[.int .i64 x,.int .i64 y] 56 (0,0))) (h:post (.returned (.tuple #[v,z3l x y])) w):bodyPost Tryz.prog fn post Exit.ret a w:=by
 refine bodyPost_ret (v:=.tuple #[v,z3l x y]) ?_ hd h;have hp':a.tmps[p]?.getD undef=.pointer (some ⟨g,0,none⟩):=by simpa using hp
 have hu':a.tmps[u]?.getD undef=v:=by simpa using hu
 simp[results,hr,hp',hu',asAddr,run_loadVar_row w g 56 56 _ (0,0) _ hg Tryz.underlying56 rfl j6z,z3l]
theorem q0u (h:RfAt w lo hi s n cw co st) (hI:Inv n st) (a i:Int):Calls Tryz.prog 68 #[.pointer (some ⟨s 0,0,none⟩),.int .i64 a,.int .i64 i] w fun e w'=>e=.returned (.tuple #[.int .i64 (rdV (Z6 n st) a i),z3l (z4v (Z6 n st) a i) (z3w (Z6 n st) a)])/\Out 0 0 w w':=by
 have h2:=h.n2;have o1:Out 0 0 w (w.alloc (.cells #[.int .i64 0,.int .i64 0] 56)):=(Out.refl 0 0 w).alloc _;have f1:(w.alloc (.cells #[.int .i64 0,.int .i64 0] 56)).heap[w.heap.size]? = some (.cells #[.int .i64 0,.int .i64 0] 56 (0,0)):=heap_alloc_new _ _;have hC:=z8e (h.quiet o1) hI a i;obtain⟨e2,he2⟩:∃ e2,z3w (Z6 n st) a=e2:=⟨_,rfl⟩
 obtain⟨e3,he3⟩:∃ e3,z4v (Z6 n st) a i=e3:=⟨_,rfl⟩
 rw[he2,he3] at hC;unfold z3l at hC;have HC:=Z0 hC;have hV:Hid (rdV (Z6 n st) a i=if e3=0 then st.W (a+i).toNat else 0):=by
  show _=_
  unfold rdV;rw[he3];rfl
 rw[he2,he3];have H1:=Z0 (And.intro o1 f1);have HR:=Z0 (And.intro h hI);have HE:=Z0 (And.intro he2 he3);clear h hI hC o1 f1 he2 he3;go_enter Tryz.func68,Tryz.ntmps68
 go_wp2_with fail;refine HC.out.mono ?_;rintro e w1 ⟨rfl,ho⟩;have fF:=ho.heap H1.out.2 (.inr (Nat.zero_le _));have oB:Out 0 0 w1 (w1.alloc (.cells #[.int .i64 e3,.int .i64 e2] 56)):=(Out.refl 0 0 w1).alloc _;have fB:=oB.heap fF (.inr (Nat.zero_le _));have fN:(w1.alloc (.cells #[.int .i64 e3,.int .i64 e2] 56)).heap[w1.heap.size]? = some (.cells #[.int .i64 e3,.int .i64 e2] 56 (0,0)):=heap_alloc_new _ _;obtain⟨F,hF⟩:∃ F,w.heap.size=F:=⟨_,rfl⟩
 rw[hF] at fF fB ⊢;have hlt:=Q4 fF;have HO:=Z0 ((H1.out.1.trans ho).trans oB);have HSz:Hid (w.heap.size=F/\F<w1.heap.size):=⟨hF,by omega⟩
 have hh:=HR.out.1.quiet HO.out;by_cases h0:e3=0
 ·subst h0;obtain⟨hA,j,hj,hjn,ha0,hi1⟩:=wrd0 (z7e HR.out.2) HE.out.2;have he:e2=0:=by rw[<-HE.out.1];exact hA
  subst he;have c0:=hh.cells.1;obtain⟨M,hM⟩:∃ M,64*n=M:=⟨_,rfl⟩
  rw[hM] at c0;have d0:=hh.rw.cell (i:=j) hjn;obtain⟨y,hy⟩:∃ y,st.W j=y:=⟨_,rfl⟩
  (try dsimp only at d0);rw[hy] at d0;obtain⟨x0,x1,x2,x3⟩:=Z7 fB;have j0:(0:Int)<=(j:Int):=by omega
  have j1:(j:Int)<(M:Int):=by omega
  have j2:(M:Int)<=262144:=by omega
  have HFS:=Z0 fB;have HJ:Hid (rdV (Z6 n st) a i=y):=by
   show _=_
   rw[hV.out,if_pos rfl,hj,show ((j:Nat):Int).toNat=j from by omega,hy]
  clear fF fB fN oB ho hF hlt hh hA hjn hM hy ha0 hi1 h2;go_wp2;refine z9g (g:=F) Tryz.results68 rfl rfl rfl (z2i HFS.out _ _) ⟨by rw[HJ.out];rfl,?_⟩;exact Z9 HO.out (((Out.refl F (F+1) _).setCell (p:=⟨F,0,none⟩) (.inl ⟨Nat.le_refl _,Nat.lt_succ_self _⟩) _).setCell (p:=⟨F,1,none⟩) (.inl ⟨Nat.le_refl _,Nat.lt_succ_self _⟩) _) (.inl (by have:=HSz.out;omega))
 ·have h0b:(e3 != 0)=true:=by simpa using h0
  have HJ:Hid (rdV (Z6 n st) a i=0):=by show _=_;rw[hV.out,if_neg h0]
  have HFB:=Z0 (And.intro fB fN);obtain⟨z0,z1,z2,z3⟩:=Z7 fN;clear fF fB fN oB ho hF hlt hh h2;go_wp2_with fail;obtain⟨W2,hW2⟩:∃ W,w1.alloc (.cells #[.int .i64 e3,.int .i64 e2] 56)=W:=⟨_,rfl⟩
  obtain⟨B,hB⟩:∃ B,w1.heap.size=B:=⟨_,rfl⟩
  rw[hW2] at HFB HO z0 z1;rw[hB] at HFB HSz z0 z1;rw[hW2,hB];clear hW2 hB z2 z3;refine wp_region_held_drew (S:=fun w'=>w'.cell? ⟨B,0,none⟩=some (.int .i64 e3)/\w'.cell? ⟨B,1,none⟩=some (.int .i64 e2)) (by kernel_rfl) ?hS1 (fun hHeld=>?rest1)
  case hS1=>exact⟨z0,z1⟩
  obtain⟨Z3,hZ⟩:∃ Z,W2.drew=Z:=⟨_,rfl⟩
  have OZ3:Out 0 0 W2 Z3:=by rw[<-hZ];exact(Out.refl 0 0 W2).drew
  rw[hZ] at hHeld ⊢;clear hZ;refine tk 0 ?_;refine tk 1 ?_;refine rd1 2 fun KK hK=>?_
  simp only[xa,xb,xc];have fF:=OZ3.heap HFB.out.1 (.inr (Nat.zero_le _));obtain⟨x0,x1,x2,x3⟩:=Z7 fF;go_simp;clear x0 x1 x2 x3;obtain⟨XE,hXE⟩:∃ W,(Z3.setCell ⟨F,0,none⟩ (.int .i64 e3)).setCell ⟨F,1,none⟩ (.int .i64 e2)=W:=⟨_,rfl⟩
  have o1:Out F (F+1) Z3 XE:=by rw[<-hXE];exact((Out.refl F (F+1) _).setCell (p:=⟨F,0,none⟩) (.inl ⟨Nat.le_refl _,Nat.lt_succ_self _⟩) _).setCell (p:=⟨F,1,none⟩) (.inl ⟨Nat.le_refl _,Nat.lt_succ_self _⟩) _
  have fX:XE.heap[F]? = some (.cells #[.int .i64 e3,.int .i64 e2] 56 (0,0)):=by rw[<-hXE];exact z2i fF _ _
  rw[hXE];clear hXE fF;refine hK.out _ _ ?hS4 (fun hHeld2=>?rest4)
  case hS4=>exact⟨o1.cell hHeld.1 (.inr (by have:=HSz.out;show F+1<=B;omega)),o1.cell hHeld.2 (.inr (by have:=HSz.out;show F+1<=B;omega))⟩
  clear hK KK;replace hHeld:=hHeld2;clear hHeld2;refine dn ?_;clear hHeld;have HFX:=Z0 fX;have HOX:=Z0 ((HO.out.trans OZ3).trans' o1 HSz.out.1);clear fX o1 OZ3 z0 z1;go_wp2;exact z9g (g:=F) Tryz.results68 rfl rfl rfl HFX.out ⟨by rw[HJ.out];rfl,HOX.out⟩
end
theorem z6v {w:World} {b bw n:Nat} {S:Nat->Int × Int × Int} (h:TblAt 130 w b bw n S) (hw:4<=w.heap.size) :
  Calls Tryz.prog 105 #[.pointer (some ⟨b,0,none⟩)] w fun e w'=>∃ b' bw',e=.returned (.pointer (some ⟨b',0,none⟩))/\TblAt 130 w' b' bw' n S/\w.heap.size<=b'/\w.heap.size<=bw'/\Out 0 0 w w':=by
 obtain⟨cap,c0,_⟩:=h.cell;obtain⟨i0,hi0,hz0,hz1,hz2⟩:=Q3 z4h;have HN:=Z0 h.nums;have HG:=Z0 h.good;have HW:=Z0 hw;have HNE:Hid (∀ j u,(pgs (pgl S n))[j]? = some u->w.cell? ((⟨bw,0,none⟩:Addr).add j)=some u):=by
  intro j u hj;have hjk:j<n*3:=by
   have:=(List.getElem?_eq_some_iff.1 hj).1;rw[z4x,z1b] at this;exact this
  rw[z3z S n hjk] at hj;cases hj;rw[Addr.add_lit,Nat.zero_add];exact Row.cell h.row hjk
 clear h hw;go_enter Tryz.func105,Tryz.ntmps105
 go_wp2_with (at_builtin;refine wpList_append_own _ rfl _ _ 78 rfl w.heap.size 147 i0 (.agg #[.int .i64 0,.int .i64 0,.int .i64 0]) 3 24 Tryz.underlying78 hi0 hz0 hz1 hz2 rfl (by decide) (.slice none 0 0) 0 [] rfl (World.ownsRow_nil _ _ _ 3) ⟨bw,0,none⟩ n cap (pgs (pgl S n)) rfl (by rw[z4x,z1b]) HNE.out (q4v _) (by unfold maxLen;have:=HN.out;omega) (by have:=HN.out;omega) (Nat.le_refl _) ?_;intro v' w1 hown' hgrow hnil;rw[Nat.zero_add,List.nil_append] at hown';obtain⟨g,cap',rfl,hg,_⟩:=hown'.form (by have:=HN.out;omega);have HO:Hid (Out 0 0 w w1):=⟨hgrow.os,hgrow.tape,hgrow.output,hgrow.size,fun j h1 h2=>hgrow.block j h1 (by simp[Value.ownBlock])⟩;have HL:Hid (ListIs w1 w.heap.size (.slice (some ⟨g,0,none⟩) n cap') (pgl S n)):=(by show World.ownsRow _ _ _ _ _ _ _;rw[z1b];exact hown');clear hown' hgrow hnil hg);go_ret;obtain⟨t1,t2,t3⟩:=q7b (T:=130) HW.out HO.out HL.out HN.out.1 HN.out.2.1 HG.out;exact⟨_,g,rfl,t1,t3,t2,HO.out.alloc _⟩
def q6n (n:Nat) (st:Sp) (z:Int):Int:=match K5 n st z with | some (a,_)=>(a:Int) | none=>-1
def q6o (n:Nat) (st:Sp) (z:Int):Bool:=match K5 n st z with | some (_,b)=>b | none=>false
section
variable {w:World} {lo hi n cw co:Nat} {s:Nat->Nat} {st:Sp}
theorem z5t (h:RfAt w lo hi s n cw co st) {z:Int} (z1:1<=z) (z2:z<=1024):Calls Tryz.prog 56 #[.pointer (some ⟨s 0,0,none⟩),.int .i64 z] w fun e w'=>e=.returned (.tuple #[.int .i64 (q6n n st z),.bool (q6o n st z)])/\Out 0 0 w w':=by
 have h2:=h.n2;have hg:4<=w.heap.size:=by have:=h.glob;have:=h.top;have:=h.inn 0 (by omega);omega
 have HOf:=Z0 (fun w=>z1u z w);have HPg:=Z0 (fun w=>z2q z w);have HCp:=Z0 (z6v h.rt hg);have c1:=h.cells.2.1;have HH:=Z0 h;by_cases hz:z<=32
 ·have hs:=W9 z1 hz;obtain⟨c,hc⟩:∃ c:Nat,ofV z=(c:Int):=⟨(ofV z).toNat,by omega⟩
  rw[hc] at HOf;have c8:c<8:=by omega
  have ci0:(0:Int)<=(c:Int):=by omega
  have ci1:(c:Int)<=7:=by omega
  have ci8:((c:Int) == 8)=false:=by simp;omega
  have HP:Hid (K5 n st z=if 0<=nf n st (c:Int) 0 then some ((nf n st (c:Int) 0).toNat,false) else (U2 st.S n 1).map fun p=>(64*p,true)):=by
   show _=_
   unfold K5;rw[if_neg (by omega),hc]
  clear h hg z1 z2 hz hs hc;go_enter Tryz.func56,Tryz.ntmps56
  go_wp2_with (go_at_call 57;refine Z5 (HOf.out _) ?_);refine HCp.out.mono ?_;rintro e w1 ⟨b',bw',rfl,ht,hb1,hb2,ho1⟩;have HN:=Z0 (G0 (HH.out.quiet ho1) c8 (f:=0) (by omega));have HT:=Z0 (z2h ht (c:Int));have HO1:=Z0 (And.intro ho1 (And.intro hb1 hb2));obtain⟨y,hy⟩:∃ y,nf n st (c:Int) 0=y:=⟨_,rfl⟩
  have hym:y<=262144:=by rw[<-hy];unfold nf;have:=x0j (fr n st (c:Int)) (64*n) 0;omega
  rw[hy] at HN HP;clear ht hb1 hb2 ho1 hy HCp c1;go_wp2_with fail;refine HN.out.mono ?_;rintro e wx ⟨rfl,hwx⟩;rw[hwx];clear hwx wx;by_cases h0:0<=y
  ·have HQ:=Z0 HP.out;rw[if_pos h0] at HQ;go_wp2;go_ret2;refine⟨?_,HO1.out.1⟩;unfold q6n q6o;rw[HQ.out]
   show Ending.returned (Value.tuple #[.int .i64 y,.bool false])=.returned (.tuple #[.int .i64 ((y.toNat:Nat):Int),.bool false])
   rw[show ((y.toNat:Nat):Int)=y from by omega]
  ·have HQ:=Z0 HP.out;rw[if_neg h0] at HQ;have hcb:U7 (c:Int)=true:=by unfold U7;simp;omega
   have hE:tcE st.S n (c:Int)=if (U2 st.S n 1).isSome then 0 else 20:=by unfold tcE;rw[hcb];rfl
   have hP:tcP st.S n (c:Int)=(U2 st.S n 1).getD 0:=by unfold tcP;rw[hcb];rfl
   rw[hE,hP] at HT;clear hE hP hcb;go_wp2_with fail;refine HT.out.mono ?_;rintro e w2 ⟨rfl,_,ho2⟩;have HO2:=Z0 (Z9 HO1.out.1 ho2 (.inl HO1.out.2.2));clear ho2 HT;cases hr:U2 st.S n 1 with
   | none=>
    rw[hr] at HQ;go_wp2;go_ret2;refine⟨?_,HO2.out⟩;unfold q6n q6o;rw[HQ.out];rfl
   | some p=>
    rw[hr] at HQ;have hp:=(G3 hr).1;have p0:(0:Int)<=(p:Int):=by omega
    have p1:(p:Int)<=4096:=by omega
    go_wp2;go_ret2;refine⟨?_,HO2.out⟩;unfold q6n q6o;rw[HQ.out]
    show Ending.returned (Value.tuple #[.int .i64 ((p:Int)*64),.bool true])=.returned (.tuple #[.int .i64 ((64*p:Nat):Int),.bool true])
    rw[show ((64*p:Nat):Int)=(p:Int)*64 from by omega]
 ·have hk:=z6f (s:=z) (by omega) z2;obtain⟨k,hkk⟩:∃ k,((z+63) / 64).toNat=k:=⟨_,rfl⟩
  rw[hkk] at hk;have h8:ofV z=8:=by unfold ofV;omega
  have hpg:J4 z=(k:Int):=by unfold J4;rw[if_pos (by omega),hk.2.2]
  rw[h8] at HOf;rw[hpg] at HPg;have HP:Hid (K5 n st z=(U2 st.S n k).map fun p=>(64*p,false)):=by
   show _=_
   unfold K5;rw[if_pos (by omega),hkk]
  have HK:=Z0 (And.intro hk.1 hk.2.1);clear h hg z1 z2 hz hk hkk h8 hpg;go_enter Tryz.func56,Tryz.ntmps56
  go_wp2_with (go_at_call 57;refine Z5 (HOf.out _) ?_);refine HCp.out.mono ?_;rintro e w1 ⟨b',bw',rfl,ht,hb1,hb2,ho1⟩;have hT:=z8p ht (k:Int);have hcb:q4b (k:Int)=true:=by have:=HK.out;unfold q4b;simp;omega
  have hE:trE st.S n (k:Int)=if (U2 st.S n k).isSome then 0 else 20:=by unfold trE;rw[hcb];rfl
  have hP:trP st.S n (k:Int)=(U2 st.S n k).getD 0:=by unfold trP;rw[hcb];rfl
  rw[hE,hP] at hT;have HT:=Z0 hT;have HO1:=Z0 (And.intro ho1 (And.intro hb1 hb2));clear ht hb1 hb2 ho1 HCp c1 hE hP hcb hT;go_wp2_with (go_at_call 107;refine Z5 (HPg.out _) ?_);refine HT.out.mono ?_;rintro e w2 ⟨rfl,_,ho2⟩;have HO2:=Z0 (Z9 HO1.out.1 ho2 (.inl HO1.out.2.2));clear ho2 HT;cases hr:U2 st.S n k with
  | none=>
   rw[hr] at HP;go_wp2;go_ret2;refine⟨?_,HO2.out⟩;unfold q6n q6o;rw[HP.out];rfl
  | some p=>
   rw[hr] at HP;have hp:=(G3 hr).1;have p0:(0:Int)<=(p:Int):=by omega
   have p1:(p:Int)<=4096:=by omega
   go_wp2;go_ret2;refine⟨?_,HO2.out⟩;unfold q6n q6o;rw[HP.out]
   show Ending.returned (Value.tuple #[.int .i64 ((p:Int)*64),.bool false])=.returned (.tuple #[.int .i64 ((64*p:Nat):Int),.bool false])
   rw[show ((64*p:Nat):Int)=(p:Int)*64 from by omega]
end
section
variable {w:World} {lo hi n cw co:Nat} {s:Nat->Nat} {st:Sp}
theorem x3k {p:Nat} (hI:Inv n st) (hb:Q7 (st.O p)=false):x2g (Z6 n st) (p+1)=x2g (Z6 n st) p:=by
 have:(Z6 n st).P p=false:=by show ob n st p=false;rw[z9j hI];exact hb
 conv=>lhs;unfold x2g
 rw[this];rfl
theorem x3b {p:Nat} (hI:Inv n st) (hb:Q7 (st.O p)=true):x2g (Z6 n st) (p+1)=x2g (Z6 n st) p+J3 (st.O p).2.1:=by
 have hP:(Z6 n st).P p=true:=by show ob n st p=true;rw[z9j hI];exact hb
 have hM:(Z6 n st).M (p:Int)=some (st.O p):=by
  show obM st (p:Int)=_
  unfold obM;rw[show ((p:Nat):Int).toNat=p from by omega,if_pos ⟨by omega,hb⟩]
 conv=>lhs;unfold x2g
 rw[hP,hM];rfl
theorem x2v (hI:Inv n st):∀ p,x2g (Z6 n st) p<=p*1024
 | 0=>Nat.le_refl _
 | p+1=>by
  have ih:=x2v hI p;cases hb:Q7 (st.O p) with
  | false=>rw[x3k hI hb];exact Nat.le_trans ih (Nat.mul_le_mul_right _ (Nat.le_succ p))
  | true=>
   rw[x3b hI hb];have hz:=J8 (hI.objs p hb).2.1;have:J3 (st.O p).2.1<=1024:=by
    unfold J3;split
    ·omega
    ·have hs:=W9 hz.2.2.1 (by omega);have:=z4l hs.1 hs.2.1;omega
   omega
theorem x2k (h:RfAt w lo hi s n cw co st) (hI:Inv n st):Calls Tryz.prog 41 #[.pointer (some ⟨s 0,0,none⟩)] w fun e w'=>e=.returned (.int .i64 (x2g (Z6 n st) (64*n):Int))/\w'=w:=by
 have h2:=h.n2;obtain⟨M,hM⟩:∃ M,64*n=M:=⟨_,rfl⟩
 have c2:=h.cells.2.2.1;rw[hM] at c2 ⊢;have M1:(M:Int)<=262144:=by omega
 have M0:(0:Int)<=(M:Int):=by omega
 have HRo:=Z0 h.ro;have HM:=Z0 hM;have HI:=Z0 hI;clear h h2 hM hI;go_enter Tryz.func41,Tryz.ntmps41
 go_wp2_with fail;go_loopw [3,4] (fun q u wr=>∃ a:Nat,q=.int .i64 (x2g (Z6 n st) a:Int)/\u=.int .i64 (a:Int)/\a<=M/\wr=w) (fun _ u _=>M-(intOf u).toNat)
 case atStart=>exact⟨0,rfl,rfl,Nat.zero_le _,rfl⟩
 case round=>
  obtain⟨a,rfl,rfl,ab,hwr⟩:=hrel;subst hwr;have a0:(0:Int)<=(a:Int):=by omega
  by_cases ha:a<M
  ·have a1:(a:Int)<(M:Int):=by omega
   have hm:=HM.out;have d1:=HRo.out.cell (i:=a*5+1) (by omega);have d3:=HRo.out.cell (i:=a*5+2) (by omega);rw[z3g] at d1;have hmost:=x2v HI.out a;obtain⟨q,hq⟩:∃ q,x2g (Z6 n st) a=q:=⟨_,rfl⟩
   rw[hq] at hmost ⊢;have q0:(0:Int)<=(q:Int):=by omega
   have q1:(q:Int)<=268435456:=by omega
   cases hb:Q7 (st.O a) with
   | false=>
    rw[hb,if_neg (by simp)] at d1;have HN:=Z0 (x3k HI.out hb);have HQ:=Z0 hq;clear hb d3 hm hmost hq;go_wp2_with fail;exact⟨⟨a+1,by rw[HN.out,HQ.out],by congr 1,by omega,by trivial⟩,by simp[intOf] <;> omega⟩
   | true=>
    obtain⟨o0,o1,o2,o3,o4⟩:=q2o (st:=st) hb;rw[hb,if_pos rfl] at d1;rw[o2] at d3;obtain⟨k,hk⟩:∃ k,(st.O a).1=k:=⟨_,rfl⟩
    obtain⟨z,hz⟩:∃ z,(st.O a).2.1=z:=⟨_,rfl⟩
    have hfz:=J8 (HI.out.objs a hb).2.1;have hyes:=x3b HI.out hb;rw[hk] at d1;rw[hz] at d3 hfz hyes;have hk0:k ≠ 0:=by unfold Q7 at hb;rw[hk] at hb;simpa using hb
    have hkb:(k != 0)=true:=by simpa using hk0
    have HRm:=Z0 (fun w=>z6y hfz.2.2.1 hfz.2.2.2 w);obtain⟨r,hr⟩:∃ r,J3 z=r:=⟨_,rfl⟩
    have r1:(r:Int)<=1024:=by
     rw[<-hr];unfold J3;split
     ·omega
     ·have hs:=W9 hfz.2.2.1 (by omega);have:=z4l hs.1 hs.2.1;omega
    have r0:(0:Int)<=(r:Int):=by omega
    rw[hr] at HRm hyes;rw[hq] at hyes;have HN:=Z0 hyes;clear hb hk hz hm hmost hq hyes hfz hr o0 o1 o2 o3 o4;go_wp2_with (go_at_call 83;refine Z5 (HRm.out _) ?_);exact⟨⟨a+1,by rw[HN.out];push_cast;rfl,by congr 1,by omega,by trivial⟩,by simp[intOf] <;> omega⟩
  ·have e:a=M:=by omega
   subst e;go_wp2;go_ret;exact⟨rfl,rfl⟩
end
section
variable {w:World} {lo hi n cw co:Nat} {s:Nat->Nat} {st:Sp}
theorem j7s {p:Nat} (hI:Inv n st) (hb:Q7 (st.O p)=false):J5 (Z6 n st) (p+1)=J5 (Z6 n st) p:=by
 have:(Z6 n st).P p=false:=by show ob n st p=false;rw[z9j hI];exact hb
 conv=>lhs;unfold J5
 rw[this];rfl
theorem j2k {p:Nat} (hb:Q7 (st.O p)=true):(Z6 n st).M (p:Int)=some (st.O p):=by
 show obM st (p:Int)=_
 unfold obM;rw[show ((p:Nat):Int).toNat=p from by omega,if_pos ⟨by omega,hb⟩]
theorem j0g {p:Nat} (hI:Inv n st):(Z6 n st).P p=Q7 (st.O p):=by show ob n st p=_;rw[z9j hI]
theorem j3l {p:Nat} (hI:Inv n st) (hb:Q7 (st.O p)=true):J5 (Z6 n st) (p+1)=J5 (Z6 n st) p ++ [(p,st.O p)]:=
 q3h (by rw[j0g hI];exact hb) (j2k hb)
theorem z3y (h:RfAt w lo hi s n cw co st) (hI:Inv n st):Calls Tryz.prog 36 #[.pointer (some ⟨s 0,0,none⟩)] w fun e w'=>∃ v,e=.returned v/\F8 w' w.heap.size v (J5 (Z6 n st) (64*n))/\Out 0 0 w w':=by
 obtain⟨i0,hi0,hz0,hz1,hz2⟩:=Q3 z6s;have h2:=h.n2;obtain⟨M,hM⟩:∃ M,64*n=M:=⟨_,rfl⟩
 have M1:(M:Int)<=262144:=by omega
 have M0:(0:Int)<=(M:Int):=by omega
 have HH:=Z0 h;have HM:=Z0 hM;have HI:=Z0 hI;rw[hM];have HS0:Hid (hi<=w.heap.size/\4<=w.heap.size):=by
  have:=h.glob;have:=h.top;have:=h.inn 0 (by omega);exact⟨h.top,by omega⟩
 have b0:F8 w w.heap.size (.slice none 0 0) (J5 (Z6 n st) 0):=⟨rfl,.inl ⟨rfl,rfl⟩⟩
 have HB0:=Z0 b0;clear h h2 hM hI b0;go_enter Tryz.func36,Tryz.ntmps36
 go_wp2_with fail;go_loopw [3,4] (fun l u wr=>∃ (a:Nat) (v:Value),l=v/\u=.int .i64 (a:Int)/\a<=M/\F8 wr w.heap.size v (J5 (Z6 n st) a)/\Out 0 0 w wr) (fun _ u _=>M-(intOf u).toNat)
 case atStart=>exact⟨0,_,rfl,rfl,Nat.zero_le _,HB0.out,Out.refl _ _ _⟩
 case round=>
  obtain⟨a,_,rfl,rfl,ab,hL,hO⟩:=hrel;have a0:(0:Int)<=(a:Int):=by omega
  have hR:=HH.out.quiet hO;have c2:=hR.cells.2.2.1;rw[HM.out] at c2;have HL:=Z0 hL;have HO:=Z0 hO;have HR:=Z0 hR;clear hL hO hR;by_cases ha:a<M
  ·have a1:(a:Int)<(M:Int):=by omega
   have hm:=HM.out;have d0:=HR.out.ro.cell (i:=a*5) (by omega);have d1:=HR.out.ro.cell (i:=a*5+1) (by omega);have d2:=HR.out.ro.cell (i:=a*5+2) (by omega);have d3:=HR.out.ro.cell (i:=a*5+3) (by omega);have d4:=HR.out.ro.cell (i:=a*5+4) (by omega);cases hb:Q7 (st.O a) with
   | false=>
    rw[z3g,hb,if_neg (by simp)] at d1;have HN:=Z0 (j7s HI.out hb);clear hb d0 d2 d3 d4 hm;go_wp2_with fail;exact⟨⟨a+1,u3,rfl,by congr 1,by omega,by rw[HN.out];exact HL.out,HO.out⟩,by simp[intOf] <;> omega⟩
   | true=>
    obtain⟨o0,o1,o2,o3,o4⟩:=q2o (st:=st) hb;have HN:=Z0 (j3l HI.out hb);obtain⟨b1,b2,b3,b4,hO⟩:∃ b1 b2 b3 b4,st.O a=(b1,b2,b3,b4):=⟨_,_,_,_,rfl⟩
    rw[hO] at o1 o2 o3 o4 HN;dsimp only at o1 o2 o3 o4;rw[o0] at d0;rw[o1] at d1;rw[o2] at d2;rw[o3] at d3;rw[o4] at d4;have hk0:b1 ≠ 0:=by rw[hO] at hb;unfold Q7 at hb;simpa using hb
    have hkb:(b1 != 0)=true:=by simpa using hk0
    have hlen:=z4o (Z6 n st) a;obtain⟨m,hmm⟩:∃ m,(J5 (Z6 n st) a).length=m:=⟨_,rfl⟩
    obtain⟨xs,hxs⟩:∃ xs,bks (J5 (Z6 n st) a)=xs:=⟨_,rfl⟩
    have hl:=HL.out;unfold F8 at hl;rw[hmm,hxs] at hl;have HMX:=Z0 (And.intro hmm hxs);have HV:=Z0 (Z8 hl);have HMm:Hid (m<=262144):=by show _<=_;omega
    have HL3:Hid ((wr.alloc (.cells #[.int .i64 (a:Int),.int .i64 b1,.int .i64 b2,.int .i64 b3,.int .i64 b4] 97)).ownsRow w.heap.size 97 5 u3 m xs):=z0q hl ((Out.refl 0 0 wr).alloc _) (Nat.zero_le _);have HN3:=Z0 (q9y (heap_alloc_new wr (.cells #[.int .i64 (a:Int),.int .i64 b1,.int .i64 b2,.int .i64 b3,.int .i64 b4] 97)));have HG3:Hid (w.heap.size<=(wr.alloc (.cells #[.int .i64 (a:Int),.int .i64 b1,.int .i64 b2,.int .i64 b3,.int .i64 b4] 97)).heap.size):=by
     show _<=_
     have:=HO.out.size;rw[World.size_alloc];omega
    have hne:s 4 ≠ wr.heap.size:=by have:=HR.out.inn 4 (by omega);have:=HR.out.top;omega
    clear hb hO hmm hxs hl hlen o0 o1 o2 o3 o4 hm;go_wp2_with (at_builtin;refine wpList_append_own _ rfl _ _ 70 rfl w.heap.size 97 i0 (.agg #[.int .i64 0,.int .i64 0,.int .i64 0,.int .i64 0,.int .i64 0]) 5 40 Tryz.underlying70 hi0 hz0 hz1 hz2 rfl (by decide) u3 m xs rfl HL3.out ⟨wr.heap.size,0,none⟩ 1 1 [.int .i64 (a:Int),.int .i64 b1,.int .i64 b2,.int .i64 b3,.int .i64 b4] rfl rfl HN3.out (by intro u hu;simp at hu;rcases hu with rfl | rfl | rfl | rfl | rfl <;> rfl) (by unfold maxLen;have:=HMm.out;omega) (by have:=HMm.out;omega) HG3.out ?_;intro v' w1 hown' hgrow hnil;have HP4:=Z0 hown';have HO4:=Z0 (z7j (base:=w.heap.size) hgrow (fun g h=>(HV.out g h).1));clear hown' hgrow hnil);have o3:Out 0 0 wr (wr.alloc (.cells #[.int .i64 (a:Int),.int .i64 b1,.int .i64 b2,.int .i64 b3,.int .i64 b4] 97)):=(Out.refl 0 0 wr).alloc _;refine⟨⟨a+1,v',rfl,by congr 1,by omega,?_,Z9 (HO.out.trans o3) HO4.out (.inl (Nat.le_refl _))⟩,by simp[intOf] <;> omega⟩;unfold F8;rw[HN.out,z9i,List.length_append,HMX.out.1,HMX.out.2];exact HP4.out
  ·have e:a=M:=by omega
   subst e;go_wp2;go_ret;exact⟨u3,rfl,HL.out,HO.out⟩
end
end Go.Proofs.YtjbbkeoolodeaabGreatDoor
