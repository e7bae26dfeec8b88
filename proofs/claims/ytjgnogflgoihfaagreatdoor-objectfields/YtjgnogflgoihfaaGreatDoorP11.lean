import Derived.Test.YtjgnogflgoihfaaGreatDoorP10
set_option linter.unusedSimpArgs false
set_option linter.unusedVariables false
set_option maxHeartbeats 16000000
set_option maxRecDepth 100000
namespace Go.Proofs.YtjgnogflgoihfaaGreatDoor
open Go.RowKit
theorem q9r (n:Nat) (h:n<=262144) (w:World) (hT:Tab w):Kz 98 #[Iz n] w fun e w'=>e=.returned (.pointer (some ⟨w.heap.size+1,0,none⟩))/\MapAt w' w.heap.size (w.heap.size+2) (w.heap.size+1) n (fun _=>false)/\Out 0 0 w w'/\w'.heap.size=w.heap.size+2:=by
 have HB:Hid (Kz 153 #[Iz n] w fun e w'=>e=.returned (.tuple #[.pointer (some ⟨w.heap.size+1,0,none⟩),Iz 0])/\MapAt w' w.heap.size (w.heap.size+2) (w.heap.size+1) n (fun _=>false)/\Out 0 0 w w'/\w'.heap.size=w.heap.size+2):=by
  show Calls _ _ _ _ _
  have h0:(0:Int)<=(n:Int):=by omega
  have h1:(n:Int)<=262144:=by omega
  have hn:nw n<=4096:=by unfold nw;omega
  have hmk:=run_make_row' (P:=Tryz.prog) 209 195 (.int .u64 0) 8 Tryz.underlying209 j9j rfl .i64 .i64 (nw n) (by omega) (by omega);have he:((n:Int)+64-1) / 64=((nw n:Nat):Int):=by unfold nw;omega
  have HM:=Q3 (j5n n w h hT);rw[World.size_alloc,World.size_alloc] at HM;clear hT hn;go_enter Tryz.func153,Tryz.ntmps153
  go_wp2;go_ret2;exact⟨rfl,HM.out,((Out.refl _ _ _).alloc _).alloc _,by simp⟩
 clear hT h;go_enter Tryz.func98,Tryz.ntmps98
 go_wp2_with (go_at_call 153;refine HB.out.mono ?_;rintro e w1 ⟨rfl,h1,h2,h3⟩);go_ret;exact⟨rfl,h1,h2,h3⟩
def x1n (w W:World) (n tb bA bO l bS bs:Nat):Prop:=
 Out 0 0 w W/\W.heap[bA]? = some (.cells (madeCells #[.int .i64 0] (64*n)) 3)/\W.heap[bO]? = some (.map #[] 0)/\W.heap[bS]? = some (.map #[] 0)/\MapAt W l (l+2) (l+1) (64*n) (fun _=>false) ∧
  W.heap[bs]? = some (.cells #[.slice (some ⟨bA,0,none⟩) (64*n) (64*n),.pointer (some ⟨tb,0,none⟩),.map (some bO),.pointer (some ⟨l+1,0,none⟩),.pointer none,.pointer none,.pointer none,.pointer none,.pointer none,.pointer none,.pointer none,.pointer none,.map (some bS),.int .i64 0] 141) ∧
  (w.heap.size<=bA/\w.heap.size<=bO/\w.heap.size<=l/\w.heap.size<=bS/\W.heap.size=bs+1)/\(bA<bs/\bO<bs/\bS<bs/\l+2<=bs) ∧
  (bA ≠ bO/\bA ≠ bS/\bO ≠ bS/\(bA<l\/l+2<=bA)/\(bO<l\/l+2<=bO)/\(bS<l\/l+2<=bS))
def NL (A O L S:Bool) (w W:World) (n bA bO l bS:Nat):Prop:=
 Out 0 0 w W/\(A=true->W.heap[bA]? = some (.cells (madeCells #[.int .i64 0] (64*n)) 3)/\w.heap.size<=bA/\bA<W.heap.size)/\(O=true->W.heap[bO]? = some (.map #[] 0)/\w.heap.size<=bO/\bO<W.heap.size) ∧
  (L=true->MapAt W l (l+2) (l+1) (64*n) (fun _=>false)/\w.heap.size<=l/\l+2<=W.heap.size)/\(S=true->W.heap[bS]? = some (.map #[] 0)/\w.heap.size<=bS/\bS<W.heap.size) ∧
  (A=true->O=true->bA ≠ bO)/\(A=true->S=true->bA ≠ bS)/\(O=true->S=true->bO ≠ bS)/\(A=true->L=true->bA<l\/l+2<=bA)/\(O=true->L=true->bO<l\/l+2<=bO)/\(S=true->L=true->bS<l\/l+2<=bS)
theorem x0b {w W:World} {n:Nat} (o:Out 0 0 w W):NL false false false false w W n 0 0 0 0:=
 ⟨o,nofun,nofun,nofun,nofun,nofun,nofun,nofun,nofun,nofun,nofun⟩
section
variable {A O L S:Bool} {w X W:World} {n bA bO l bS:Nat}
theorem z1o {P:Prop} {ob:Obj} {b:Nat} (o:Out 0 0 X W) (h:P->X.heap[b]? = some ob/\w.heap.size<=b/\b<X.heap.size):P->W.heap[b]? = some ob/\w.heap.size<=b/\b<W.heap.size:=
 fun e=>⟨o.heap (h e).1 z0,(h e).2.1,Nat.lt_of_lt_of_le (h e).2.2 o.size⟩
theorem z8a {P:Prop} (o:Out 0 0 X W) (h:P->MapAt X l (l+2) (l+1) (64*n) (fun _=>false)/\w.heap.size<=l/\l+2<=X.heap.size):P->MapAt W l (l+2) (l+1) (64*n) (fun _=>false)/\w.heap.size<=l/\l+2<=W.heap.size:=
 fun e=>⟨(h e).1.quiet o,(h e).2.1,Nat.le_trans (h e).2.2 o.size⟩
theorem NL.addA (h:NL false O L S w X n bA bO l bS):∃ W b,X.alloc (.cells (madeCells #[.int .i64 0] (64*n)) 3)=W/\X.heap.size=b/\NL true O L S w W n b bO l bS:=by
 obtain⟨h1,_,h3,h4,h5,_,_,h8,_,h10,h11⟩:=h;have o:=(Out.refl 0 0 X).alloc (.cells (madeCells #[.int .i64 0] (64*n)) 3);refine⟨_,_,rfl,rfl,h1.trans o,fun _=>⟨heap_alloc_new _ _,h1.size,by rw[World.size_alloc];exact Nat.lt_succ_self _⟩,z1o o h3,z8a o h4,z1o o h5,fun _ e=>?_,fun _ e=>?_,h8,fun _ e=>?_,h10,h11⟩
 ·have:=(h3 e).2.2;omega
 ·have:=(h5 e).2.2;omega
 ·have:=(h4 e).2.2;omega
theorem NL.addO (h:NL A false L S w X n bA bO l bS):∃ W b,X.alloc (.map #[] 0)=W/\X.heap.size=b/\NL A true L S w W n bA b l bS:=by
 obtain⟨h1,h2,_,h4,h5,_,h7,_,h9,_,h11⟩:=h;have o:=(Out.refl 0 0 X).alloc (.map #[] 0);refine⟨_,_,rfl,rfl,h1.trans o,z1o o h2,fun _=>⟨heap_alloc_new _ _,h1.size,by rw[World.size_alloc];exact Nat.lt_succ_self _⟩,z8a o h4,z1o o h5,fun e _=>?_,h7,fun _ e=>?_,h9,fun _ e=>?_,h11⟩
 ·have:=(h2 e).2.2;omega
 ·have:=(h5 e).2.2;omega
 ·have:=(h4 e).2.2;omega
theorem NL.addS (h:NL A O L false w X n bA bO l bS):∃ W b,X.alloc (.map #[] 0)=W/\X.heap.size=b/\NL A O L true w W n bA bO l b:=by
 obtain⟨h1,h2,h3,h4,_,h6,_,_,h9,h10,_⟩:=h;have o:=(Out.refl 0 0 X).alloc (.map #[] 0);refine⟨_,_,rfl,rfl,h1.trans o,z1o o h2,z1o o h3,z8a o h4,fun _=>⟨heap_alloc_new _ _,h1.size,by rw[World.size_alloc];exact Nat.lt_succ_self _⟩,h6,fun e _=>?_,fun e _=>?_,h9,h10,fun _ e=>?_⟩
 ·have:=(h2 e).2.2;omega
 ·have:=(h3 e).2.2;omega
 ·have:=(h4 e).2.2;omega
theorem NL.addL (h:NL A O false S w X n bA bO l bS) (f:MapAt W X.heap.size (X.heap.size+2) (X.heap.size+1) (64*n) (fun _=>false)) (o:Out 0 0 X W) (s:W.heap.size=X.heap.size+2):∃ l,X.heap.size=l/\NL A O true S w W n bA bO l bS:=by
 obtain⟨h1,h2,h3,_,h5,h6,h7,h8,_,_,_⟩:=h;refine⟨_,rfl,h1.trans o,z1o o h2,z1o o h3,fun _=>⟨f,h1.size,by omega⟩,z1o o h5,h6,h7,h8,fun e _=>?_,fun e _=>?_,fun e _=>?_⟩
 ·have:=(h2 e).2.2;omega
 ·have:=(h3 e).2.2;omega
 ·have:=(h5 e).2.2;omega
theorem NL.fin (h:NL true true true true w X n bA bO l bS) (tb:Nat):∃ W bs,X.alloc (.cells #[.slice (some ⟨bA,0,none⟩) (64*n) (64*n),.pointer (some ⟨tb,0,none⟩),.map (some bO),.pointer (some ⟨l+1,0,none⟩),.pointer none,.pointer none,.pointer none,.pointer none,.pointer none,.pointer none,.pointer none,.pointer none,.map (some bS),.int .i64 0] 141)=W/\X.heap.size=bs/\x1n w W n tb bA bO l bS bs:=by
 obtain⟨h1,h2,h3,h4,h5,h6,h7,h8,h9,h10,h11⟩:=h;have o:=(Out.refl 0 0 X).alloc (.cells #[.slice (some ⟨bA,0,none⟩) (64*n) (64*n),.pointer (some ⟨tb,0,none⟩),.map (some bO),.pointer (some ⟨l+1,0,none⟩),.pointer none,.pointer none,.pointer none,.pointer none,.pointer none,.pointer none,.pointer none,.pointer none,.map (some bS),.int .i64 0] 141);have q2:=h2 rfl;have q3:=h3 rfl;have q4:=h4 rfl;have q5:=h5 rfl;refine⟨_,_,rfl,rfl,h1.trans o,(z1o o h2 rfl).1,(z1o o h3 rfl).1,(z1o o h5 rfl).1,(z8a o h4 rfl).1,heap_alloc_new _ _,⟨q2.2.1,q3.2.1,q4.2.1,q5.2.1,World.size_alloc _ _⟩,⟨q2.2.2,q3.2.2,q5.2.2,q4.2.2⟩,h6 rfl rfl,h7 rfl rfl,h8 rfl rfl,h9 rfl rfl,h10 rfl rfl,h11 rfl rfl⟩
end
theorem q8s {P:Program} {c:Code} {Q:Exit->Act->World->Prop} {Post:Act->World->Prop} {a:Act} {w:World} (h:c.wp P (q2f Post) a w) (hq:∀ a w,Post a w->Q .normal a w):c.wp P Q a w:=
 wp_mono h fun e a w he=>by
  cases e with
  | normal=>exact hq a w he
  | ret=>exact he.elim
  | exit _=>exact he.elim
  | goto _=>exact he.elim
  | panic _=>exact he.elim
  | outgrown=>exact he.elim
theorem x6o {i k:Nat} (h:i<k):(madeCells #[Value.int .i64 0] k)[i]? = some (.int .i64 0):=by
 simp[madeCells,h,Nat.mod_one]
def x5x (bA tb bO l bS n:Nat):Nat->Value:=fun j=>if j=0 then .slice (some ⟨bA,0,none⟩) (64*n) (64*n) else if j=1 then .pointer (some ⟨tb,0,none⟩) else if j=2 then .map (some bO) else if j=3 then .pointer (some ⟨l+1,0,none⟩) else if j<12 then .pointer none else if j=12 then .map (some bS) else .int .i64 0
def j3l (bA tb bO l bS n i:Nat) (f:Nat->Nat) (j:Nat):Value:=if 4<=j/\j<4+i then .pointer (some ⟨f (j-4)+1,0,none⟩) else x5x bA tb bO l bS n j
theorem x2u {bA tb bO l bS n j:Nat} (hj:j<14):(#[.slice (some ⟨bA,0,none⟩) (64*n) (64*n),.pointer (some ⟨tb,0,none⟩),.map (some bO),.pointer (some ⟨l+1,0,none⟩),.pointer none,.pointer none,.pointer none,.pointer none,.pointer none,.pointer none,.pointer none,.pointer none,.map (some bS),.int .i64 0]:Array Value)[j]? = some (x5x bA tb bO l bS n j):=by
 have:j=0\/j=1\/j=2\/j=3\/j=4\/j=5\/j=6\/j=7\/j=8\/j=9\/j=10\/j=11\/j=12\/j=13:=by omega
 rcases this with rfl | rfl | rfl | rfl | rfl | rfl | rfl | rfl | rfl | rfl | rfl | rfl | rfl | rfl <;> rfl
theorem j7e {w:World} (hT:Tab w) (n:Nat) (h1:1<=n) (h2:n<=4096) :
  Kz 37 #[Iz n] w fun e w'=>∃ s cap,e=.returned (.tuple #[Pq (s 14),Iz 0])/\RawAt w' w.heap.size w'.heap.size s n cap ⟨fun _=>0,fun _=>(0,0,0),fun _ _=>false,fun _=>false,fun _=>none,fun _=>none,0⟩/\Out 0 0 w w':=by
 have HP:=Q3 (x4g hT n h1 h2);have dQ:=Q3 (fun w' (hT':Tab w')=>q9r (64*n) (by omega) w' hT');rw[show ((64*n:Nat):Int)=64*(n:Int) from by omega] at dQ;have hmm:=@run_makeMap Tryz.prog;have hmk:=run_make_row' (P:=Tryz.prog) 70 3 (Iz 0) 8 Tryz.underlying70 (by kernel_rfl) rfl .i64 .i64 (64*n) (by omega) (by omega);rw[show ((64*n:Nat):Int)=64*(n:Int) from by omega] at hmk;have b0:(1:Int)<=(n:Int):=by omega
 have b1:(n:Int)<=4096:=by omega
 have e4:((0:Int) != 0)=false:=rfl;have HT0:=Q3 hT;have HN:=Q3 (And.intro h1 h2);have hcm:(n:Int)*64=64*(n:Int):=by omega
 clear hT h1 h2;go_enter Tryz.func37,Tryz.ntmps37
 go_wp2_with (first | (go_at_call 97;refine HP.out.mono ?_;rintro e w1 ⟨rfl,ht,ho,hs⟩;have HTb:=Q3 ht;have bM:=Q3 ho;have HS1:=Q3 hs;clear ht ho hs));obtain⟨tb,htb⟩:∃ tb,w.heap.size+1=tb:=⟨_,rfl⟩
 rw[htb] at HTb ⊢;have HTB:=Q3 htb;have gU:Hid (∀ w',Out 0 0 w1 w'->Tab w'):=fun w' o=>HT0.out.quiet (bM.out.trans o)
 clear htb;refine q8s (Post:=fun a W=>∃ bA bO l bS bs,a={ tmps:=#[Iz (n:Int),undef,.pointer none,Iz 0,Pq tb,Iz 0,Iz (64*(n:Int)),Pq bs,undef,.tuple #[Pq tb,Iz 0],Iz (n:Int),.tuple #[Pq tb,Iz 0],Pq tb,Iz 0,Iz 0,.bool false,undef,Iz (n:Int),Iz (64*(n:Int)),Iz (64*(n:Int)),Sz bA (64*n) (64*n),Pq tb,.map (some bO),Iz (64*(n:Int)),.pointer (some ⟨l+1,0,none⟩),.map (some bS),.agg #[Sz bA (64*n) (64*n),Pq tb,.map (some bO),.pointer (some ⟨l+1,0,none⟩),.pointer none,.pointer none,.pointer none,.pointer none,.pointer none,.pointer none,.pointer none,.pointer none,.map (some bS),Iz 0],Pq bs,undef,undef,undef,undef,undef,undef,undef,undef,undef,undef,undef,undef],defers:=[] }/\x1n w1 W n tb bA bO l bS bs) ?_ ?_
 ·refine wp_region_held_drew (S:=fun _=>True) (by kernel_rfl) ?hS1 (fun aB=>?rest1)
  case hS1=>trivial
  clear aB;obtain⟨Z,hZ⟩:∃ Z,w1.drew=Z:=⟨_,rfl⟩
  have OZ:Out 0 0 w1 Z:=by rw[<-hZ];exact(Out.refl 0 0 w1).drew
  have aS:=x0b (n:=n) OZ;rw[hZ];clear hZ;have aB:(fun(_:World)=>True) Z:=trivial;refine tk 0 ?_;refine tk 2 ?_;refine tk 4 ?_;refine rd4 1 3 5 6 (fun KK hK=>?_) (fun KK hK=>?_) (fun KK hK=>?_) fun KK hK=>?_
  ·go_simp;obtain⟨W,bA,hW,hb,aS⟩:=aS.addA;(try rw[hW]);(try rw[hb]);clear hW hb;refine hK.out _ _ ?hS5 (fun aC=>?rest5)
   case hS5=>trivial
   clear hK KK;replace aB:=aC;clear aC;refine rd3 3 5 6 (fun KK hK=>?_) (fun KK hK=>?_) fun KK hK=>?_
   ·go_simp;obtain⟨W,bO,hW,hb,aS⟩:=aS.addO;(try rw[hW]);(try rw[hb]);clear hW hb;refine hK.out _ _ ?hS6 (fun aC=>?rest6)
    case hS6=>trivial
    clear hK KK;replace aB:=aC;clear aC;refine rd2 5 6 (fun KK hK=>?_) fun KK hK=>?_
    ·go_simp;refine(dQ.out _ (gU.out _ aS.1)).mono ?_;rintro e W ⟨rfl,fL,o1,s1⟩;obtain⟨l,hl,aS⟩:=aS.addL fL o1 s1;(try rw[hl]);clear hl fL o1 s1;refine hK.out _ _ ?hS7 (fun aC=>?rest7)
     case hS7=>trivial
     clear hK KK;replace aB:=aC;clear aC;refine rd1 6 fun KK hK=>?_
     go_simp;obtain⟨W,bS,hW,hb,aS⟩:=aS.addS;(try rw[hW]);(try rw[hb]);clear hW hb;refine hK.out _ _ ?hS8 (fun aC=>?rest8)
     case hS8=>trivial
     clear hK KK;replace aB:=aC;clear aC;refine tk 7 ?_;refine rd1 8 fun KK hK=>?_
     go_simp;obtain⟨W,bs,hW,hb,aS⟩:=aS.fin tb;(try rw[hW]);(try rw[hb]);refine hK.out _ _ ?hS10 (fun aC=>?rest10)
     case hS10=>trivial
     clear hK KK;replace aB:=aC;clear aC;refine tk 9 ?_;refine dn ?_;exact⟨bA,bO,l,bS,bs,rfl,aS⟩
    ·go_simp;obtain⟨W,bS,hW,hb,aS⟩:=aS.addS;(try rw[hW]);(try rw[hb]);clear hW hb;refine hK.out _ _ ?hS12 (fun aC=>?rest12)
     case hS12=>trivial
     clear hK KK;replace aB:=aC;clear aC;refine rd1 5 fun KK hK=>?_
     go_simp;refine(dQ.out _ (gU.out _ aS.1)).mono ?_;rintro e W ⟨rfl,fL,o1,s1⟩;obtain⟨l,hl,aS⟩:=aS.addL fL o1 s1;(try rw[hl]);clear hl fL o1 s1;refine hK.out _ _ ?hS13 (fun aC=>?rest13)
     case hS13=>trivial
     clear hK KK;replace aB:=aC;clear aC;refine tk 7 ?_;refine rd1 8 fun KK hK=>?_
     go_simp;obtain⟨W,bs,hW,hb,aS⟩:=aS.fin tb;(try rw[hW]);(try rw[hb]);refine hK.out _ _ ?hS15 (fun aC=>?rest15)
     case hS15=>trivial
     clear hK KK;replace aB:=aC;clear aC;refine tk 9 ?_;refine dn ?_;exact⟨bA,bO,l,bS,bs,rfl,aS⟩
   ·go_simp;refine(dQ.out _ (gU.out _ aS.1)).mono ?_;rintro e W ⟨rfl,fL,o1,s1⟩;obtain⟨l,hl,aS⟩:=aS.addL fL o1 s1;(try rw[hl]);clear hl fL o1 s1;refine hK.out _ _ ?hS17 (fun aC=>?rest17)
    case hS17=>trivial
    clear hK KK;replace aB:=aC;clear aC;refine rd2 3 6 (fun KK hK=>?_) fun KK hK=>?_
    ·go_simp;obtain⟨W,bO,hW,hb,aS⟩:=aS.addO;(try rw[hW]);(try rw[hb]);clear hW hb;refine hK.out _ _ ?hS18 (fun aC=>?rest18)
     case hS18=>trivial
     clear hK KK;replace aB:=aC;clear aC;refine rd1 6 fun KK hK=>?_
     go_simp;obtain⟨W,bS,hW,hb,aS⟩:=aS.addS;(try rw[hW]);(try rw[hb]);clear hW hb;refine hK.out _ _ ?hS19 (fun aC=>?rest19)
     case hS19=>trivial
     clear hK KK;replace aB:=aC;clear aC;refine tk 7 ?_;refine rd1 8 fun KK hK=>?_
     go_simp;obtain⟨W,bs,hW,hb,aS⟩:=aS.fin tb;(try rw[hW]);(try rw[hb]);refine hK.out _ _ ?hS21 (fun aC=>?rest21)
     case hS21=>trivial
     clear hK KK;replace aB:=aC;clear aC;refine tk 9 ?_;refine dn ?_;exact⟨bA,bO,l,bS,bs,rfl,aS⟩
    ·go_simp;obtain⟨W,bS,hW,hb,aS⟩:=aS.addS;(try rw[hW]);(try rw[hb]);clear hW hb;refine hK.out _ _ ?hS23 (fun aC=>?rest23)
     case hS23=>trivial
     clear hK KK;replace aB:=aC;clear aC;refine rd1 3 fun KK hK=>?_
     go_simp;obtain⟨W,bO,hW,hb,aS⟩:=aS.addO;(try rw[hW]);(try rw[hb]);clear hW hb;refine hK.out _ _ ?hS24 (fun aC=>?rest24)
     case hS24=>trivial
     clear hK KK;replace aB:=aC;clear aC;refine tk 7 ?_;refine rd1 8 fun KK hK=>?_
     go_simp;obtain⟨W,bs,hW,hb,aS⟩:=aS.fin tb;(try rw[hW]);(try rw[hb]);refine hK.out _ _ ?hS26 (fun aC=>?rest26)
     case hS26=>trivial
     clear hK KK;replace aB:=aC;clear aC;refine tk 9 ?_;refine dn ?_;exact⟨bA,bO,l,bS,bs,rfl,aS⟩
   ·go_simp;obtain⟨W,bS,hW,hb,aS⟩:=aS.addS;(try rw[hW]);(try rw[hb]);clear hW hb;refine hK.out _ _ ?hS28 (fun aC=>?rest28)
    case hS28=>trivial
    clear hK KK;replace aB:=aC;clear aC;refine rd2 3 5 (fun KK hK=>?_) fun KK hK=>?_
    ·go_simp;obtain⟨W,bO,hW,hb,aS⟩:=aS.addO;(try rw[hW]);(try rw[hb]);clear hW hb;refine hK.out _ _ ?hS29 (fun aC=>?rest29)
     case hS29=>trivial
     clear hK KK;replace aB:=aC;clear aC;refine rd1 5 fun KK hK=>?_
     go_simp;refine(dQ.out _ (gU.out _ aS.1)).mono ?_;rintro e W ⟨rfl,fL,o1,s1⟩;obtain⟨l,hl,aS⟩:=aS.addL fL o1 s1;(try rw[hl]);clear hl fL o1 s1;refine hK.out _ _ ?hS30 (fun aC=>?rest30)
     case hS30=>trivial
     clear hK KK;replace aB:=aC;clear aC;refine tk 7 ?_;refine rd1 8 fun KK hK=>?_
     go_simp;obtain⟨W,bs,hW,hb,aS⟩:=aS.fin tb;(try rw[hW]);(try rw[hb]);refine hK.out _ _ ?hS32 (fun aC=>?rest32)
     case hS32=>trivial
     clear hK KK;replace aB:=aC;clear aC;refine tk 9 ?_;refine dn ?_;exact⟨bA,bO,l,bS,bs,rfl,aS⟩
    ·go_simp;refine(dQ.out _ (gU.out _ aS.1)).mono ?_;rintro e W ⟨rfl,fL,o1,s1⟩;obtain⟨l,hl,aS⟩:=aS.addL fL o1 s1;(try rw[hl]);clear hl fL o1 s1;refine hK.out _ _ ?hS34 (fun aC=>?rest34)
     case hS34=>trivial
     clear hK KK;replace aB:=aC;clear aC;refine rd1 3 fun KK hK=>?_
     go_simp;obtain⟨W,bO,hW,hb,aS⟩:=aS.addO;(try rw[hW]);(try rw[hb]);clear hW hb;refine hK.out _ _ ?hS35 (fun aC=>?rest35)
     case hS35=>trivial
     clear hK KK;replace aB:=aC;clear aC;refine tk 7 ?_;refine rd1 8 fun KK hK=>?_
     go_simp;obtain⟨W,bs,hW,hb,aS⟩:=aS.fin tb;(try rw[hW]);(try rw[hb]);refine hK.out _ _ ?hS37 (fun aC=>?rest37)
     case hS37=>trivial
     clear hK KK;replace aB:=aC;clear aC;refine tk 9 ?_;refine dn ?_;exact⟨bA,bO,l,bS,bs,rfl,aS⟩
  ·go_simp;obtain⟨W,bO,hW,hb,aS⟩:=aS.addO;(try rw[hW]);(try rw[hb]);clear hW hb;refine hK.out _ _ ?hS39 (fun aC=>?rest39)
   case hS39=>trivial
   clear hK KK;replace aB:=aC;clear aC;refine rd3 1 5 6 (fun KK hK=>?_) (fun KK hK=>?_) fun KK hK=>?_
   ·go_simp;obtain⟨W,bA,hW,hb,aS⟩:=aS.addA;(try rw[hW]);(try rw[hb]);clear hW hb;refine hK.out _ _ ?hS40 (fun aC=>?rest40)
    case hS40=>trivial
    clear hK KK;replace aB:=aC;clear aC;refine rd2 5 6 (fun KK hK=>?_) fun KK hK=>?_
    ·go_simp;refine(dQ.out _ (gU.out _ aS.1)).mono ?_;rintro e W ⟨rfl,fL,o1,s1⟩;obtain⟨l,hl,aS⟩:=aS.addL fL o1 s1;(try rw[hl]);clear hl fL o1 s1;refine hK.out _ _ ?hS41 (fun aC=>?rest41)
     case hS41=>trivial
     clear hK KK;replace aB:=aC;clear aC;refine rd1 6 fun KK hK=>?_
     go_simp;obtain⟨W,bS,hW,hb,aS⟩:=aS.addS;(try rw[hW]);(try rw[hb]);clear hW hb;refine hK.out _ _ ?hS42 (fun aC=>?rest42)
     case hS42=>trivial
     clear hK KK;replace aB:=aC;clear aC;refine tk 7 ?_;refine rd1 8 fun KK hK=>?_
     go_simp;obtain⟨W,bs,hW,hb,aS⟩:=aS.fin tb;(try rw[hW]);(try rw[hb]);refine hK.out _ _ ?hS44 (fun aC=>?rest44)
     case hS44=>trivial
     clear hK KK;replace aB:=aC;clear aC;refine tk 9 ?_;refine dn ?_;exact⟨bA,bO,l,bS,bs,rfl,aS⟩
    ·go_simp;obtain⟨W,bS,hW,hb,aS⟩:=aS.addS;(try rw[hW]);(try rw[hb]);clear hW hb;refine hK.out _ _ ?hS46 (fun aC=>?rest46)
     case hS46=>trivial
     clear hK KK;replace aB:=aC;clear aC;refine rd1 5 fun KK hK=>?_
     go_simp;refine(dQ.out _ (gU.out _ aS.1)).mono ?_;rintro e W ⟨rfl,fL,o1,s1⟩;obtain⟨l,hl,aS⟩:=aS.addL fL o1 s1;(try rw[hl]);clear hl fL o1 s1;refine hK.out _ _ ?hS47 (fun aC=>?rest47)
     case hS47=>trivial
     clear hK KK;replace aB:=aC;clear aC;refine tk 7 ?_;refine rd1 8 fun KK hK=>?_
     go_simp;obtain⟨W,bs,hW,hb,aS⟩:=aS.fin tb;(try rw[hW]);(try rw[hb]);refine hK.out _ _ ?hS49 (fun aC=>?rest49)
     case hS49=>trivial
     clear hK KK;replace aB:=aC;clear aC;refine tk 9 ?_;refine dn ?_;exact⟨bA,bO,l,bS,bs,rfl,aS⟩
   ·go_simp;refine(dQ.out _ (gU.out _ aS.1)).mono ?_;rintro e W ⟨rfl,fL,o1,s1⟩;obtain⟨l,hl,aS⟩:=aS.addL fL o1 s1;(try rw[hl]);clear hl fL o1 s1;refine hK.out _ _ ?hS51 (fun aC=>?rest51)
    case hS51=>trivial
    clear hK KK;replace aB:=aC;clear aC;refine rd2 1 6 (fun KK hK=>?_) fun KK hK=>?_
    ·go_simp;obtain⟨W,bA,hW,hb,aS⟩:=aS.addA;(try rw[hW]);(try rw[hb]);clear hW hb;refine hK.out _ _ ?hS52 (fun aC=>?rest52)
     case hS52=>trivial
     clear hK KK;replace aB:=aC;clear aC;refine rd1 6 fun KK hK=>?_
     go_simp;obtain⟨W,bS,hW,hb,aS⟩:=aS.addS;(try rw[hW]);(try rw[hb]);clear hW hb;refine hK.out _ _ ?hS53 (fun aC=>?rest53)
     case hS53=>trivial
     clear hK KK;replace aB:=aC;clear aC;refine tk 7 ?_;refine rd1 8 fun KK hK=>?_
     go_simp;obtain⟨W,bs,hW,hb,aS⟩:=aS.fin tb;(try rw[hW]);(try rw[hb]);refine hK.out _ _ ?hS55 (fun aC=>?rest55)
     case hS55=>trivial
     clear hK KK;replace aB:=aC;clear aC;refine tk 9 ?_;refine dn ?_;exact⟨bA,bO,l,bS,bs,rfl,aS⟩
    ·go_simp;obtain⟨W,bS,hW,hb,aS⟩:=aS.addS;(try rw[hW]);(try rw[hb]);clear hW hb;refine hK.out _ _ ?hS57 (fun aC=>?rest57)
     case hS57=>trivial
     clear hK KK;replace aB:=aC;clear aC;refine rd1 1 fun KK hK=>?_
     go_simp;obtain⟨W,bA,hW,hb,aS⟩:=aS.addA;(try rw[hW]);(try rw[hb]);clear hW hb;refine hK.out _ _ ?hS58 (fun aC=>?rest58)
     case hS58=>trivial
     clear hK KK;replace aB:=aC;clear aC;refine tk 7 ?_;refine rd1 8 fun KK hK=>?_
     go_simp;obtain⟨W,bs,hW,hb,aS⟩:=aS.fin tb;(try rw[hW]);(try rw[hb]);refine hK.out _ _ ?hS60 (fun aC=>?rest60)
     case hS60=>trivial
     clear hK KK;replace aB:=aC;clear aC;refine tk 9 ?_;refine dn ?_;exact⟨bA,bO,l,bS,bs,rfl,aS⟩
   ·go_simp;obtain⟨W,bS,hW,hb,aS⟩:=aS.addS;(try rw[hW]);(try rw[hb]);clear hW hb;refine hK.out _ _ ?hS62 (fun aC=>?rest62)
    case hS62=>trivial
    clear hK KK;replace aB:=aC;clear aC;refine rd2 1 5 (fun KK hK=>?_) fun KK hK=>?_
    ·go_simp;obtain⟨W,bA,hW,hb,aS⟩:=aS.addA;(try rw[hW]);(try rw[hb]);clear hW hb;refine hK.out _ _ ?hS63 (fun aC=>?rest63)
     case hS63=>trivial
     clear hK KK;replace aB:=aC;clear aC;refine rd1 5 fun KK hK=>?_
     go_simp;refine(dQ.out _ (gU.out _ aS.1)).mono ?_;rintro e W ⟨rfl,fL,o1,s1⟩;obtain⟨l,hl,aS⟩:=aS.addL fL o1 s1;(try rw[hl]);clear hl fL o1 s1;refine hK.out _ _ ?hS64 (fun aC=>?rest64)
     case hS64=>trivial
     clear hK KK;replace aB:=aC;clear aC;refine tk 7 ?_;refine rd1 8 fun KK hK=>?_
     go_simp;obtain⟨W,bs,hW,hb,aS⟩:=aS.fin tb;(try rw[hW]);(try rw[hb]);refine hK.out _ _ ?hS66 (fun aC=>?rest66)
     case hS66=>trivial
     clear hK KK;replace aB:=aC;clear aC;refine tk 9 ?_;refine dn ?_;exact⟨bA,bO,l,bS,bs,rfl,aS⟩
    ·go_simp;refine(dQ.out _ (gU.out _ aS.1)).mono ?_;rintro e W ⟨rfl,fL,o1,s1⟩;obtain⟨l,hl,aS⟩:=aS.addL fL o1 s1;(try rw[hl]);clear hl fL o1 s1;refine hK.out _ _ ?hS68 (fun aC=>?rest68)
     case hS68=>trivial
     clear hK KK;replace aB:=aC;clear aC;refine rd1 1 fun KK hK=>?_
     go_simp;obtain⟨W,bA,hW,hb,aS⟩:=aS.addA;(try rw[hW]);(try rw[hb]);clear hW hb;refine hK.out _ _ ?hS69 (fun aC=>?rest69)
     case hS69=>trivial
     clear hK KK;replace aB:=aC;clear aC;refine tk 7 ?_;refine rd1 8 fun KK hK=>?_
     go_simp;obtain⟨W,bs,hW,hb,aS⟩:=aS.fin tb;(try rw[hW]);(try rw[hb]);refine hK.out _ _ ?hS71 (fun aC=>?rest71)
     case hS71=>trivial
     clear hK KK;replace aB:=aC;clear aC;refine tk 9 ?_;refine dn ?_;exact⟨bA,bO,l,bS,bs,rfl,aS⟩
  ·go_simp;refine(dQ.out _ (gU.out _ aS.1)).mono ?_;rintro e W ⟨rfl,fL,o1,s1⟩;obtain⟨l,hl,aS⟩:=aS.addL fL o1 s1;(try rw[hl]);clear hl fL o1 s1;refine hK.out _ _ ?hS73 (fun aC=>?rest73)
   case hS73=>trivial
   clear hK KK;replace aB:=aC;clear aC;refine rd3 1 3 6 (fun KK hK=>?_) (fun KK hK=>?_) fun KK hK=>?_
   ·go_simp;obtain⟨W,bA,hW,hb,aS⟩:=aS.addA;(try rw[hW]);(try rw[hb]);clear hW hb;refine hK.out _ _ ?hS74 (fun aC=>?rest74)
    case hS74=>trivial
    clear hK KK;replace aB:=aC;clear aC;refine rd2 3 6 (fun KK hK=>?_) fun KK hK=>?_
    ·go_simp;obtain⟨W,bO,hW,hb,aS⟩:=aS.addO;(try rw[hW]);(try rw[hb]);clear hW hb;refine hK.out _ _ ?hS75 (fun aC=>?rest75)
     case hS75=>trivial
     clear hK KK;replace aB:=aC;clear aC;refine rd1 6 fun KK hK=>?_
     go_simp;obtain⟨W,bS,hW,hb,aS⟩:=aS.addS;(try rw[hW]);(try rw[hb]);clear hW hb;refine hK.out _ _ ?hS76 (fun aC=>?rest76)
     case hS76=>trivial
     clear hK KK;replace aB:=aC;clear aC;refine tk 7 ?_;refine rd1 8 fun KK hK=>?_
     go_simp;obtain⟨W,bs,hW,hb,aS⟩:=aS.fin tb;(try rw[hW]);(try rw[hb]);refine hK.out _ _ ?hS78 (fun aC=>?rest78)
     case hS78=>trivial
     clear hK KK;replace aB:=aC;clear aC;refine tk 9 ?_;refine dn ?_;exact⟨bA,bO,l,bS,bs,rfl,aS⟩
    ·go_simp;obtain⟨W,bS,hW,hb,aS⟩:=aS.addS;(try rw[hW]);(try rw[hb]);clear hW hb;refine hK.out _ _ ?hS80 (fun aC=>?rest80)
     case hS80=>trivial
     clear hK KK;replace aB:=aC;clear aC;refine rd1 3 fun KK hK=>?_
     go_simp;obtain⟨W,bO,hW,hb,aS⟩:=aS.addO;(try rw[hW]);(try rw[hb]);clear hW hb;refine hK.out _ _ ?hS81 (fun aC=>?rest81)
     case hS81=>trivial
     clear hK KK;replace aB:=aC;clear aC;refine tk 7 ?_;refine rd1 8 fun KK hK=>?_
     go_simp;obtain⟨W,bs,hW,hb,aS⟩:=aS.fin tb;(try rw[hW]);(try rw[hb]);refine hK.out _ _ ?hS83 (fun aC=>?rest83)
     case hS83=>trivial
     clear hK KK;replace aB:=aC;clear aC;refine tk 9 ?_;refine dn ?_;exact⟨bA,bO,l,bS,bs,rfl,aS⟩
   ·go_simp;obtain⟨W,bO,hW,hb,aS⟩:=aS.addO;(try rw[hW]);(try rw[hb]);clear hW hb;refine hK.out _ _ ?hS85 (fun aC=>?rest85)
    case hS85=>trivial
    clear hK KK;replace aB:=aC;clear aC;refine rd2 1 6 (fun KK hK=>?_) fun KK hK=>?_
    ·go_simp;obtain⟨W,bA,hW,hb,aS⟩:=aS.addA;(try rw[hW]);(try rw[hb]);clear hW hb;refine hK.out _ _ ?hS86 (fun aC=>?rest86)
     case hS86=>trivial
     clear hK KK;replace aB:=aC;clear aC;refine rd1 6 fun KK hK=>?_
     go_simp;obtain⟨W,bS,hW,hb,aS⟩:=aS.addS;(try rw[hW]);(try rw[hb]);clear hW hb;refine hK.out _ _ ?hS87 (fun aC=>?rest87)
     case hS87=>trivial
     clear hK KK;replace aB:=aC;clear aC;refine tk 7 ?_;refine rd1 8 fun KK hK=>?_
     go_simp;obtain⟨W,bs,hW,hb,aS⟩:=aS.fin tb;(try rw[hW]);(try rw[hb]);refine hK.out _ _ ?hS89 (fun aC=>?rest89)
     case hS89=>trivial
     clear hK KK;replace aB:=aC;clear aC;refine tk 9 ?_;refine dn ?_;exact⟨bA,bO,l,bS,bs,rfl,aS⟩
    ·go_simp;obtain⟨W,bS,hW,hb,aS⟩:=aS.addS;(try rw[hW]);(try rw[hb]);clear hW hb;refine hK.out _ _ ?hS91 (fun aC=>?rest91)
     case hS91=>trivial
     clear hK KK;replace aB:=aC;clear aC;refine rd1 1 fun KK hK=>?_
     go_simp;obtain⟨W,bA,hW,hb,aS⟩:=aS.addA;(try rw[hW]);(try rw[hb]);clear hW hb;refine hK.out _ _ ?hS92 (fun aC=>?rest92)
     case hS92=>trivial
     clear hK KK;replace aB:=aC;clear aC;refine tk 7 ?_;refine rd1 8 fun KK hK=>?_
     go_simp;obtain⟨W,bs,hW,hb,aS⟩:=aS.fin tb;(try rw[hW]);(try rw[hb]);refine hK.out _ _ ?hS94 (fun aC=>?rest94)
     case hS94=>trivial
     clear hK KK;replace aB:=aC;clear aC;refine tk 9 ?_;refine dn ?_;exact⟨bA,bO,l,bS,bs,rfl,aS⟩
   ·go_simp;obtain⟨W,bS,hW,hb,aS⟩:=aS.addS;(try rw[hW]);(try rw[hb]);clear hW hb;refine hK.out _ _ ?hS96 (fun aC=>?rest96)
    case hS96=>trivial
    clear hK KK;replace aB:=aC;clear aC;refine rd2 1 3 (fun KK hK=>?_) fun KK hK=>?_
    ·go_simp;obtain⟨W,bA,hW,hb,aS⟩:=aS.addA;(try rw[hW]);(try rw[hb]);clear hW hb;refine hK.out _ _ ?hS97 (fun aC=>?rest97)
     case hS97=>trivial
     clear hK KK;replace aB:=aC;clear aC;refine rd1 3 fun KK hK=>?_
     go_simp;obtain⟨W,bO,hW,hb,aS⟩:=aS.addO;(try rw[hW]);(try rw[hb]);clear hW hb;refine hK.out _ _ ?hS98 (fun aC=>?rest98)
     case hS98=>trivial
     clear hK KK;replace aB:=aC;clear aC;refine tk 7 ?_;refine rd1 8 fun KK hK=>?_
     go_simp;obtain⟨W,bs,hW,hb,aS⟩:=aS.fin tb;(try rw[hW]);(try rw[hb]);refine hK.out _ _ ?hS100 (fun aC=>?rest100)
     case hS100=>trivial
     clear hK KK;replace aB:=aC;clear aC;refine tk 9 ?_;refine dn ?_;exact⟨bA,bO,l,bS,bs,rfl,aS⟩
    ·go_simp;obtain⟨W,bO,hW,hb,aS⟩:=aS.addO;(try rw[hW]);(try rw[hb]);clear hW hb;refine hK.out _ _ ?hS102 (fun aC=>?rest102)
     case hS102=>trivial
     clear hK KK;replace aB:=aC;clear aC;refine rd1 1 fun KK hK=>?_
     go_simp;obtain⟨W,bA,hW,hb,aS⟩:=aS.addA;(try rw[hW]);(try rw[hb]);clear hW hb;refine hK.out _ _ ?hS103 (fun aC=>?rest103)
     case hS103=>trivial
     clear hK KK;replace aB:=aC;clear aC;refine tk 7 ?_;refine rd1 8 fun KK hK=>?_
     go_simp;obtain⟨W,bs,hW,hb,aS⟩:=aS.fin tb;(try rw[hW]);(try rw[hb]);refine hK.out _ _ ?hS105 (fun aC=>?rest105)
     case hS105=>trivial
     clear hK KK;replace aB:=aC;clear aC;refine tk 9 ?_;refine dn ?_;exact⟨bA,bO,l,bS,bs,rfl,aS⟩
  ·go_simp;obtain⟨W,bS,hW,hb,aS⟩:=aS.addS;(try rw[hW]);(try rw[hb]);clear hW hb;refine hK.out _ _ ?hS107 (fun aC=>?rest107)
   case hS107=>trivial
   clear hK KK;replace aB:=aC;clear aC;refine rd3 1 3 5 (fun KK hK=>?_) (fun KK hK=>?_) fun KK hK=>?_
   ·go_simp;obtain⟨W,bA,hW,hb,aS⟩:=aS.addA;(try rw[hW]);(try rw[hb]);clear hW hb;refine hK.out _ _ ?hS108 (fun aC=>?rest108)
    case hS108=>trivial
    clear hK KK;replace aB:=aC;clear aC;refine rd2 3 5 (fun KK hK=>?_) fun KK hK=>?_
    ·go_simp;obtain⟨W,bO,hW,hb,aS⟩:=aS.addO;(try rw[hW]);(try rw[hb]);clear hW hb;refine hK.out _ _ ?hS109 (fun aC=>?rest109)
     case hS109=>trivial
     clear hK KK;replace aB:=aC;clear aC;refine rd1 5 fun KK hK=>?_
     go_simp;refine(dQ.out _ (gU.out _ aS.1)).mono ?_;rintro e W ⟨rfl,fL,o1,s1⟩;obtain⟨l,hl,aS⟩:=aS.addL fL o1 s1;(try rw[hl]);clear hl fL o1 s1;refine hK.out _ _ ?hS110 (fun aC=>?rest110)
     case hS110=>trivial
     clear hK KK;replace aB:=aC;clear aC;refine tk 7 ?_;refine rd1 8 fun KK hK=>?_
     go_simp;obtain⟨W,bs,hW,hb,aS⟩:=aS.fin tb;(try rw[hW]);(try rw[hb]);refine hK.out _ _ ?hS112 (fun aC=>?rest112)
     case hS112=>trivial
     clear hK KK;replace aB:=aC;clear aC;refine tk 9 ?_;refine dn ?_;exact⟨bA,bO,l,bS,bs,rfl,aS⟩
    ·go_simp;refine(dQ.out _ (gU.out _ aS.1)).mono ?_;rintro e W ⟨rfl,fL,o1,s1⟩;obtain⟨l,hl,aS⟩:=aS.addL fL o1 s1;(try rw[hl]);clear hl fL o1 s1;refine hK.out _ _ ?hS114 (fun aC=>?rest114)
     case hS114=>trivial
     clear hK KK;replace aB:=aC;clear aC;refine rd1 3 fun KK hK=>?_
     go_simp;obtain⟨W,bO,hW,hb,aS⟩:=aS.addO;(try rw[hW]);(try rw[hb]);clear hW hb;refine hK.out _ _ ?hS115 (fun aC=>?rest115)
     case hS115=>trivial
     clear hK KK;replace aB:=aC;clear aC;refine tk 7 ?_;refine rd1 8 fun KK hK=>?_
     go_simp;obtain⟨W,bs,hW,hb,aS⟩:=aS.fin tb;(try rw[hW]);(try rw[hb]);refine hK.out _ _ ?hS117 (fun aC=>?rest117)
     case hS117=>trivial
     clear hK KK;replace aB:=aC;clear aC;refine tk 9 ?_;refine dn ?_;exact⟨bA,bO,l,bS,bs,rfl,aS⟩
   ·go_simp;obtain⟨W,bO,hW,hb,aS⟩:=aS.addO;(try rw[hW]);(try rw[hb]);clear hW hb;refine hK.out _ _ ?hS119 (fun aC=>?rest119)
    case hS119=>trivial
    clear hK KK;replace aB:=aC;clear aC;refine rd2 1 5 (fun KK hK=>?_) fun KK hK=>?_
    ·go_simp;obtain⟨W,bA,hW,hb,aS⟩:=aS.addA;(try rw[hW]);(try rw[hb]);clear hW hb;refine hK.out _ _ ?hS120 (fun aC=>?rest120)
     case hS120=>trivial
     clear hK KK;replace aB:=aC;clear aC;refine rd1 5 fun KK hK=>?_
     go_simp;refine(dQ.out _ (gU.out _ aS.1)).mono ?_;rintro e W ⟨rfl,fL,o1,s1⟩;obtain⟨l,hl,aS⟩:=aS.addL fL o1 s1;(try rw[hl]);clear hl fL o1 s1;refine hK.out _ _ ?hS121 (fun aC=>?rest121)
     case hS121=>trivial
     clear hK KK;replace aB:=aC;clear aC;refine tk 7 ?_;refine rd1 8 fun KK hK=>?_
     go_simp;obtain⟨W,bs,hW,hb,aS⟩:=aS.fin tb;(try rw[hW]);(try rw[hb]);refine hK.out _ _ ?hS123 (fun aC=>?rest123)
     case hS123=>trivial
     clear hK KK;replace aB:=aC;clear aC;refine tk 9 ?_;refine dn ?_;exact⟨bA,bO,l,bS,bs,rfl,aS⟩
    ·go_simp;refine(dQ.out _ (gU.out _ aS.1)).mono ?_;rintro e W ⟨rfl,fL,o1,s1⟩;obtain⟨l,hl,aS⟩:=aS.addL fL o1 s1;(try rw[hl]);clear hl fL o1 s1;refine hK.out _ _ ?hS125 (fun aC=>?rest125)
     case hS125=>trivial
     clear hK KK;replace aB:=aC;clear aC;refine rd1 1 fun KK hK=>?_
     go_simp;obtain⟨W,bA,hW,hb,aS⟩:=aS.addA;(try rw[hW]);(try rw[hb]);clear hW hb;refine hK.out _ _ ?hS126 (fun aC=>?rest126)
     case hS126=>trivial
     clear hK KK;replace aB:=aC;clear aC;refine tk 7 ?_;refine rd1 8 fun KK hK=>?_
     go_simp;obtain⟨W,bs,hW,hb,aS⟩:=aS.fin tb;(try rw[hW]);(try rw[hb]);refine hK.out _ _ ?hS128 (fun aC=>?rest128)
     case hS128=>trivial
     clear hK KK;replace aB:=aC;clear aC;refine tk 9 ?_;refine dn ?_;exact⟨bA,bO,l,bS,bs,rfl,aS⟩
   ·go_simp;refine(dQ.out _ (gU.out _ aS.1)).mono ?_;rintro e W ⟨rfl,fL,o1,s1⟩;obtain⟨l,hl,aS⟩:=aS.addL fL o1 s1;(try rw[hl]);clear hl fL o1 s1;refine hK.out _ _ ?hS130 (fun aC=>?rest130)
    case hS130=>trivial
    clear hK KK;replace aB:=aC;clear aC;refine rd2 1 3 (fun KK hK=>?_) fun KK hK=>?_
    ·go_simp;obtain⟨W,bA,hW,hb,aS⟩:=aS.addA;(try rw[hW]);(try rw[hb]);clear hW hb;refine hK.out _ _ ?hS131 (fun aC=>?rest131)
     case hS131=>trivial
     clear hK KK;replace aB:=aC;clear aC;refine rd1 3 fun KK hK=>?_
     go_simp;obtain⟨W,bO,hW,hb,aS⟩:=aS.addO;(try rw[hW]);(try rw[hb]);clear hW hb;refine hK.out _ _ ?hS132 (fun aC=>?rest132)
     case hS132=>trivial
     clear hK KK;replace aB:=aC;clear aC;refine tk 7 ?_;refine rd1 8 fun KK hK=>?_
     go_simp;obtain⟨W,bs,hW,hb,aS⟩:=aS.fin tb;(try rw[hW]);(try rw[hb]);refine hK.out _ _ ?hS134 (fun aC=>?rest134)
     case hS134=>trivial
     clear hK KK;replace aB:=aC;clear aC;refine tk 9 ?_;refine dn ?_;exact⟨bA,bO,l,bS,bs,rfl,aS⟩
    ·go_simp;obtain⟨W,bO,hW,hb,aS⟩:=aS.addO;(try rw[hW]);(try rw[hb]);clear hW hb;refine hK.out _ _ ?hS136 (fun aC=>?rest136)
     case hS136=>trivial
     clear hK KK;replace aB:=aC;clear aC;refine rd1 1 fun KK hK=>?_
     go_simp;obtain⟨W,bA,hW,hb,aS⟩:=aS.addA;(try rw[hW]);(try rw[hb]);clear hW hb;refine hK.out _ _ ?hS137 (fun aC=>?rest137)
     case hS137=>trivial
     clear hK KK;replace aB:=aC;clear aC;refine tk 7 ?_;refine rd1 8 fun KK hK=>?_
     go_simp;obtain⟨W,bs,hW,hb,aS⟩:=aS.fin tb;(try rw[hW]);(try rw[hb]);refine hK.out _ _ ?hS139 (fun aC=>?rest139)
     case hS139=>trivial
     clear hK KK;replace aB:=aC;clear aC;refine tk 9 ?_;refine dn ?_;exact⟨bA,bO,l,bS,bs,rfl,aS⟩
 ·rintro a W ⟨bA,bO,l,bS,bs,rfl,l1,l2,l3,l4,l5,l6,l7,l8,l9⟩;have HL:=Q3 (And.intro l1 (And.intro l2 (And.intro l3 (And.intro l4 (And.intro l5 (And.intro l7 (And.intro l8 l9)))))));have HB:=Q3 l6;have HTb2:=Q3 (HTb.out.quiet l1);have HTabW:Hid (∀ w',Out bs (bs+1) W w'->Tab w'):=fun w' o=>(gU.out _ l1).kept o (.inl (by have:=(gU.out _ (Out.refl 0 0 w1)).lt;omega))
  clear l1 l2 l3 l4 l5 l6 l7 l8 l9;go_wp2_with fail;go_loopw [28] (fun u wr=>∃ i:Nat,u=Iz (i:Int)/\i<=8/\∃ (f:Nat->Nat) (C:Array Value),wr.heap[bs]? = some (.cells C 141)/\C.size=14/\(∀ j,j<14->C[j]? = some (j3l bA tb bO l bS n i f j)) ∧
   (∀ c,c<i->MapAt wr (f c) (f c+2) (f c+1) (64*n) (fun _=>false))/\(∀ c,c<i->bs+1<=f c/\f c+2<=wr.heap.size)/\(∀ c d,c<d->d<i->f c+2<=f d)/\Out bs (bs+1) W wr) (fun u _=>(8-intOf u).toNat)
  case atStart=>
   refine⟨0,rfl,by omega,fun _=>0,_,HB.out,rfl,fun j hj=>?_,fun c hc=>by omega,fun c hc=>by omega,fun c d _ hd=>by omega,Out.refl _ _ _⟩;unfold j3l;rw[if_neg (by omega)];exact x2u hj
  case round=>
   obtain⟨i,rfl,i8,f,C,r1,r2,r3,r4,r5,r6,r7⟩:=hrel;have HO:=Q3 r7;by_cases dD:i<8
   ·have k0:(0:Int)<=(i:Int):=by omega
    have k1:(i:Int)<8:=by omega
    have HR:=Q3 (And.intro r1 (And.intro r2 (And.intro r3 (And.intro r4 (And.intro r5 r6)))));have hC:=r1;have d0:cq wr bs (4+i)=some (.pointer none):=by
     have:=r3 (4+i) (by omega);unfold j3l at this;rw[if_neg (by omega)] at this;simp only[World.cell?,r1,this];have:i=0\/i=1\/i=2\/i=3\/i=4\/i=5\/i=6\/i=7:=by omega
     rcases this with rfl | rfl | rfl | rfl | rfl | rfl | rfl | rfl <;> rfl
    have d1:wr.frozen? ⟨bs,4+i,none⟩=false:=by simp[World.frozen?,r1]
    clear r1 r2 r3 r4 r5 r6 r7;go_wp2_with fail;refine wp_region_held_drew (S:=fun _=>True) (by kernel_rfl) ?hS141 (fun aB=>?rest141)
    case hS141=>trivial
    refine tk 0 ?_;refine tk 1 ?_;refine tk 2 ?_;refine tk 4 ?_;refine tk 5 ?_;refine rd1 3 fun KK hK=>?_
    go_simp;refine(dQ.out _ (HTabW.out _ (HO.out.drew))).mono ?_;rintro e w5 ⟨rfl,fL,o5,s5⟩;obtain⟨l5,hl5⟩:∃ l,wr.drew.heap.size=l:=⟨_,rfl⟩
    rw[hl5] at fL s5;try rw[hl5]
    have c5:=(o5.heap hC z0)
    have d5:=o5.cell d0 z0;have e5:w5.frozen? ⟨bs,4+i,none⟩=false:=by simp[World.frozen?,c5]
    refine hK.out _ _ ?hS147 (fun aC=>?rest147)
    case hS147=>trivial
    clear hK KK;replace aB:=aC;clear aC;refine tk 6 ?_;refine rd1 7 fun KK hK=>?_
    go_simp;refine hK.out _ _ ?hS149 (fun aC=>?rest149)
    case hS149=>trivial
    clear hK KK;replace aB:=aC;clear aC;refine dn ?_;clear aB;have H5:=Q3 (And.intro fL (And.intro o5 (And.intro s5 c5)));clear fL o5 s5 c5 d5 e5 d0 d1 hC;go_wp2;go_roundw
    case rel=>
     obtain⟨r1,r2,r3,r4,r5,r6⟩:=HR.out;obtain⟨x1,x2,x3,x4⟩:=H5.out;have hz:=HL.out.2.2.2.2.2.1;have hlz:wr.heap.size=l5:=hl5;have hW:bs+1<=wr.heap.size:=by have:=HO.out.size;omega
     have cZ:Out bs (bs+1) w5 (w5.setCell ⟨bs,4+i,none⟩ (.pointer (some ⟨l5+1,0,none⟩))):=(Out.refl _ _ _).setCell z1 _;have hg:=(HTabW.out _ HO.out).lt;have iH:=HL.out.2.2.2.2.2.2.1;have bD:4<=bs:=by have:=(gU.out _ (Out.refl 0 0 w1)).lt;omega
     refine⟨i+1,by go_num,by omega,fun c=>if c=i then l5 else f c,C.setIfInBounds (4+i) (.pointer (some ⟨l5+1,0,none⟩)),?_,by simpa using r2,?_,?_,?_,?_,?_⟩
     ·simp[World.setCell,Array.getElem?_modify,x4]
     ·intro j hj;rw[Array.getElem?_setIfInBounds];unfold j3l;by_cases e:4+i=j
      ·subst e;rw[if_pos rfl,if_pos (by omega),if_pos (by omega)];simp[show 4+i-4=i from by omega]
      ·rw[if_neg e];have:=r3 j hj;unfold j3l at this;rw[this];by_cases e2:4<=j/\j<4+i
       ·rw[if_pos e2,if_pos ⟨e2.1,by omega⟩];simp[show ¬ (j-4=i) from by omega]
       ·rw[if_neg e2,if_neg (by omega)]
     ·intro c hc;by_cases e:c=i
      ·simp only[e,if_true];exact x1.kept cZ (.inr (by omega)) (.inl bD)
      ·simp only[e,if_false];have:=r5 c (by omega);exact(((r4 c (by omega)).quiet ((Out.refl 0 0 _).drew)).quiet x2).kept cZ (.inr (by omega)) (.inl bD)
     ·intro c hc;have hs6:=cZ.size;by_cases e:c=i
      ·simp only[e,if_true];omega
      ·simp only[e,if_false];have:=r5 c (by omega);have:=x2.size;have e9:wr.drew.heap.size=wr.heap.size:=rfl;omega
     ·intro c d hcd hd;by_cases e:d=i
      ·have e2:c ≠ i:=by omega
       simp only[e,e2,if_true,if_false];have:=r5 c (by omega);omega
      ·have e2:c ≠ i:=by omega
       simp only[e,e2,if_false];exact r6 c d hcd (by omega)
     ·exact(HO.out.drew.trans (x2.any _ _)).trans cZ
    case measure=>simp[intOf];omega
   ·have e:i=8:=by omega
    subst e;clear dD i8;go_wp2;go_ret2;obtain⟨y1,y2,y3,y4,y5,y6,y7,y8⟩:=HL.out;have hS1:=HS1.out;have hB:=HTB.out;have gQ:=HO.out.size;have hNw:=HN.out;have hTw:=HT0.out.lt;have hO1:=bM.out.size;have hyz:=y1.size;have bD:4<=bs:=by omega
    refine⟨fun i=>if i<8 then f i else if i=8 then l else if i=9 then tb else if i=10 then w.heap.size else if i=11 then bA else if i=12 then bO else if i=13 then bS else bs,64*n,rfl,?_,?_⟩
    ·refine⟨hTw,Nat.le_refl _,?_,?_,hNw.1,hNw.2,Nat.le_refl _,HTabW.out _ HO.out,?_,?_,?_,?_,?_,?_,?_⟩
     ·intro i hi;by_cases e8:i<8
      ·have:=r5 i e8;simp only[e8,if_true,ln,show i<9 from by omega];omega
      ·have:i=8\/i=9\/i=10\/i=11\/i=12\/i=13\/i=14:=by omega
       rcases this with rfl | rfl | rfl | rfl | rfl | rfl | rfl <;> simp[ln] <;> omega
     ·intro i j hi hj fG;by_cases e8:i<8
      ·have q5:=r5 i e8;by_cases f8:j<8
       ·simp only[e8,f8,if_true,ln,show i<9 from by omega,show j<9 from by omega];rcases Nat.lt_or_gt_of_ne fG with h | h
        ·exact .inl (r6 i j h f8)
        ·exact .inr (r6 j i h e8)
       ·have:j=8\/j=9\/j=10\/j=11\/j=12\/j=13\/j=14:=by omega
        rcases this with rfl | rfl | rfl | rfl | rfl | rfl | rfl <;> simp[ln,e8,show i<9 from by omega] <;> omega
      ·by_cases f8:j<8
       ·have q5:=r5 j f8;have:i=8\/i=9\/i=10\/i=11\/i=12\/i=13\/i=14:=by omega
        rcases this with rfl | rfl | rfl | rfl | rfl | rfl | rfl <;> simp[ln,f8,show j<9 from by omega] <;> omega
       ·have bQ:i=8\/i=9\/i=10\/i=11\/i=12\/i=13\/i=14:=by omega
        have lC:j=8\/j=9\/j=10\/j=11\/j=12\/j=13\/j=14:=by omega
        rcases bQ with rfl | rfl | rfl | rfl | rfl | rfl | rfl <;> rcases lC with rfl | rfl | rfl | rfl | rfl | rfl | rfl <;> first | exact absurd rfl fG | (simp[ln];omega)
     ·rw[show (if (14:Nat)<8 then f 14 else if (14:Nat)=8 then l else if (14:Nat)=9 then tb else if (14:Nat)=10 then w.heap.size else if (14:Nat)=11 then bA else if (14:Nat)=12 then bO else if (14:Nat)=13 then bS else bs)=bs from rfl,r1];congr 2
      apply Array.ext
      ·rw[r2];rfl
      ·intro j hj1 hj2;have hj:j<14:=by rw[r2] at hj1;exact hj1
       have:=r3 j hj;rw[Array.getElem?_eq_getElem hj1] at this;rw[Option.some.inj this];have hc:j=0\/j=1\/j=2\/j=3\/j=4\/j=5\/j=6\/j=7\/j=8\/j=9\/j=10\/j=11\/j=12\/j=13:=by omega
       rcases hc with rfl | rfl | rfl | rfl | rfl | rfl | rfl | rfl | rfl | rfl | rfl | rfl | rfl | rfl <;> rfl
     ·show Row wr bA 3 (64*n) (fun _=>Iz 0)
      exact⟨_,HO.out.heap y2 (by omega),by rw[size_madeCells];simp,fun i hi=>x6o hi⟩
     ·show TblAt 197 wr tb w.heap.size n _
      exact(HTb2.out.kept HO.out (by omega) (by omega))
     ·show MpAt wr bO _
      exact⟨#[],0,HO.out.heap y3 (by omega),Go.MapKept.stamped_empty 0,by simp,by simp[z7f]⟩
     ·show MpAt wr bS _
      exact⟨#[],0,HO.out.heap y4 (by omega),Go.MapKept.stamped_empty 0,by simp,by simp[j7v]⟩
     ·show MapAt wr l (l+2) (l+1) _ _
      exact y5.kept HO.out (.inl (by omega)) (.inl bD)
     ·intro c hc;have:=r4 c hc;simpa [hc] using this
    ·exact(bM.out.trans y1).past HO.out (by omega)
def newSp:Sp:=⟨fun _=>0,fun _=>(0,0,0),fun _=>noB,0⟩
theorem x3u {n:Nat} (h1:1<=n) (h2:n<=4096):Inv n newSp:=by
 have iJ:∀ a,Y6 (newSp.O a)=false:=fun a=>rfl
 refine⟨h1,h2,q3s n,?_,fun a _=>rfl,?_,Int.le_refl _,?_,?_⟩
 ·intro a h;rw[iJ] at h;cases h
 ·intro p _ h;exact absurd (show (0:Int)=2 from h) (by decide)
 ·intro a h;rw[iJ] at h;cases h
 ·intro a b h;rw[iJ] at h;cases h
theorem x4r (n:Nat):(⟨fun _=>0,fun _=>(0,0,0),fun _ _=>false,fun _=>false,fun _=>none,fun _=>none,0⟩:Raw)=Q6 n newSp:=by
 refine Raw.eq rfl rfl ?_ ?_ ?_ ?_ rfl
 ·funext c i
  show false=fr n newSp (c:Int) i
  unfold fr;have:(newSp.S (i / 64) == (1,(c:Int),0))=false:=by show (((0:Int),(0:Int),(0:Int)) == (1,(c:Int),0))=false;simp
  rw[this];simp
 ·funext i
  show false=ob n newSp i
  unfold ob;have:Y6 (newSp.O i)=false:=rfl;rw[this];simp
 ·funext i
  show none=obM newSp i
  unfold obM;have:Y6 (newSp.O i.toNat)=false:=rfl;rw[this];simp
 ·funext x
  show none=q5b n newSp x
  unfold q5b q4z;split
  ·rw[z3y (fun q _=>by have:Y6 (newSp.O q)=false:=rfl;rw[this];rfl)];rfl
  ·rfl
def raw0:Raw:=⟨fun _=>0,fun _=>(0,0,0),fun _ _=>false,fun _=>false,fun _=>none,fun _=>none,0⟩
theorem x2q {w:World} (hT:Tab w) (n:Nat) (h1:1<=n) (h2:n<=4096) :
  Kz 15 #[Iz n] w fun e w'=>∃ s cap hi hb,e=.returned (.tuple #[Pq hb,Iz 0])/\RawAt w' w.heap.size hi s n cap raw0/\hi<=hb/\cq w' hb 0=some (Pq (s 14))/\Out 0 0 w w':=by
 have HS:=Q3 (j7e hT n h1 h2);clear hT h1 h2;go_enter Tryz.func15,Tryz.ntmps15
 go_wp2_with fail;refine HS.out.mono ?_;rintro e X ⟨s,cap,rfl,R,q⟩;go_wp2;go_ret2;have o:=(Out.refl 0 0 X).alloc (.cells #[Pq (s 14)] 78);refine⟨s,cap,X.heap.size,X.heap.size,rfl,R.quiet o,Nat.le_refl _,?_,q.trans o⟩;have f:=heap_alloc_new X (.cells #[Pq (s 14)] 78);simp only[World.cell?,f];rfl
section
variable {w:World} {lo hi hb:Nat} {s:Nat->Nat} {n cap:Nat} {st:Sp}
theorem q5o (h:SpAt w lo hi s n cap st) (hH:cq w hb 0=some (Pq (s 14))) (hout:hb<lo\/hi<=hb) (k nn t:Int) (hz:U5 k nn=false):Kz 42 #[Pq hb,Iz k,Iz nn,Iz t] w fun e w'=>e=.panicked [z0o 24 0]/\Out 0 0 w w':=by
 have Hh:=Q3 h;have fR:=Q3 (heap_alloc_new w (Ez 0 0 0 0 0 81));have HO:=Q3 ((Out.refl 0 0 w).alloc (Ez 0 0 0 0 0 81));obtain⟨gv,aN⟩:∃ g,w.heap.size=g:=⟨_,rfl⟩
 have aW:=Q3 aN;obtain⟨V1,eQ⟩:∃ V,w.alloc (Ez 0 0 0 0 0 81)=V:=⟨_,rfl⟩
 rw[eQ,aN] at fR;rw[eQ] at HO;have kP:=HO.out.cell hH z0;have kN:=Q3 (z6a k nn (Hh.out.quiet HO.out).1.tab);clear h hH;rw[hz] at kN;clear hz hout;go_enter Tryz.func42,Tryz.ntmps42
 go_wp2_with fail;(try rw[eQ]);(try rw[aN]);clear eQ aN;refine kN.out.mono ?_;rintro e w5 ⟨rfl,he⟩;rw[he];clear he w5;go_wp2_with fail;refine(z2o _ _).mono ?_;rintro e w6 ⟨rfl,he⟩;rw[he];exact⟨rfl,rfl,HO.out⟩
theorem q5n (h:SpAt w lo hi s n cap st) (hH:cq w hb 0=some (Pq (s 14))) (hout:hb<lo\/hi<=hb) (k nn t:Int) {z a ec fa:Int} (hz:U5 k nn=true) (hzv:Y9 k nn=z) (z1:-9223372036854775808<=z) (z2:z<=9223372036854775807) (hl:st.last<4611686018427387904) (ha:(alF n st k z t).1=a) (he:(alF n st k z t).2.1=ec) (hf:(alF n st k z t).2.2.1=fa) (fG:ec ≠ 0):Kz 42 #[Pq hb,Iz k,Iz nn,Iz t] w fun e w'=>e=.panicked [z0o ec fa]/\SpAt w' lo hi s n cap (alF n st k z t).2.2.2/\Out lo hi w w':=by
 have Hh:=Q3 h;have fR:=Q3 (heap_alloc_new w (Ez 0 0 0 0 0 81));have HO:=Q3 ((Out.refl 0 0 w).alloc (Ez 0 0 0 0 0 81));obtain⟨gv,aN⟩:∃ g,w.heap.size=g:=⟨_,rfl⟩
 have aW:=Q3 aN;obtain⟨V1,eQ⟩:∃ V,w.alloc (Ez 0 0 0 0 0 81)=V:=⟨_,rfl⟩
 rw[eQ,aN] at fR;rw[eQ] at HO;have kP:=HO.out.cell hH z0;have kN:=Q3 (z6a k nn (Hh.out.quiet HO.out).1.tab);clear h hH;rw[hz,hzv] at kN;have gI:=Q3 (z8j (Hh.out.quiet HO.out) k z t z1 z2 hl);rw[ha,he,hf] at gI;have dX:=Q3 hout;clear hz hzv z1 z2 hl ha he hf hout;go_enter Tryz.func42,Tryz.ntmps42
 go_wp2_with fail;(try rw[eQ]);(try rw[aN]);clear eQ aN;refine kN.out.mono ?_;rintro e w5 ⟨rfl,he⟩;rw[he];clear he w5;go_wp2_with fail;refine(z0k _ _).mono ?_;rintro e w6 ⟨rfl,he⟩;rw[he];clear he w6;go_wp2_with fail;refine gI.out.mono ?_;rintro e' X3 ⟨rfl,S3,q3⟩;have HS3:=Q3 S3;have HQ3:=Q3 ((HO.out.any lo hi).trans q3);have fY:=Q3 (q3.heap fR.out (.inr (by have h1:=Hh.out.1.top;have h2:=aW.out;omega)));have HH3:=Q3 (q3.cell kP dX.out);clear S3 q3 kP;go_wp2_with fail;refine(q1t fG _ _).mono ?_;rintro e' X4 ⟨rfl,q4⟩;have o4:=((Out.refl 0 0 X3).alloc _).trans q4;exact⟨rfl,rfl,HS3.out.quiet o4,HQ3.out.trans (o4.any lo hi)⟩
theorem j7j (h:SpAt w lo hi s n cap st) (hH:cq w hb 0=some (Pq (s 14))) (hout:hb<lo\/hi<=hb) (k nn t:Int) {z a fa:Int} (hz:U5 k nn=true) (hzv:Y9 k nn=z) (z1:-9223372036854775808<=z) (z2:z<=9223372036854775807) (hl:st.last<4611686018427387904) (ha:(alF n st k z t).1=a) (he:(alF n st k z t).2.1=0) (hf:(alF n st k z t).2.2.1=fa) {b1 b2 b3 b4:Int} (hM:(Q6 n (alF n st k z t).2.2.2).M a=some (b1,b2,b3,b4)):Kz 42 #[Pq hb,Iz k,Iz nn,Iz t] w fun e w'=>e=.returned (Wz a b1 b2 b3 b4)/\SpAt w' lo hi s n cap (alF n st k z t).2.2.2/\Out lo hi w w':=by
 have Hh:=Q3 h;have fR:=Q3 (heap_alloc_new w (Ez 0 0 0 0 0 81));have HO:=Q3 ((Out.refl 0 0 w).alloc (Ez 0 0 0 0 0 81));obtain⟨gv,aN⟩:∃ g,w.heap.size=g:=⟨_,rfl⟩
 have aW:=Q3 aN;obtain⟨V1,eQ⟩:∃ V,w.alloc (Ez 0 0 0 0 0 81)=V:=⟨_,rfl⟩
 rw[eQ,aN] at fR;rw[eQ] at HO;have kP:=HO.out.cell hH z0;have kN:=Q3 (z6a k nn (Hh.out.quiet HO.out).1.tab);clear h hH;rw[hz,hzv] at kN;have gI:=Q3 (z8j (Hh.out.quiet HO.out) k z t z1 z2 hl);rw[ha,he,hf] at gI;have dX:=Q3 hout;clear hz hzv z1 z2 hl ha he hf hout;have HM:=Q3 hM;clear hM;go_enter Tryz.func42,Tryz.ntmps42
 go_wp2_with fail;(try rw[eQ]);(try rw[aN]);clear eQ aN;refine kN.out.mono ?_;rintro e w5 ⟨rfl,he⟩;rw[he];clear he w5;go_wp2_with fail;refine(z0k _ _).mono ?_;rintro e w6 ⟨rfl,he⟩;rw[he];clear he w6;go_wp2_with fail;refine gI.out.mono ?_;rintro e' X3 ⟨rfl,S3,q3⟩;have HS3:=Q3 S3;have HQ3:=Q3 ((HO.out.any lo hi).trans q3);have fY:=Q3 (q3.heap fR.out (.inr (by have h1:=Hh.out.1.top;have h2:=aW.out;omega)));have HH3:=Q3 (q3.cell kP dX.out);clear S3 q3 kP;go_wp2_with fail;refine(q6w _ _).mono ?_;rintro e' X4 ⟨rfl,q4⟩;have o4:=((Out.refl 0 0 X3).alloc _).trans q4;have hH4:=o4.cell HH3.out z0;have bJ:=Q3 o4;clear q4 o4;go_wp2_with fail;refine(z0z (HS3.out.quiet bJ.out).1 HM.out).mono ?_;rintro e' X5 ⟨rfl,q5⟩;obtain⟨V6,jE⟩:∃ V,X5.alloc (Ez a b1 b2 b3 b4 81)=V:=⟨_,rfl⟩
 have o6:Out 0 0 X3 V6:=by rw[<-jE];exact(bJ.out.trans q5).alloc _
 have HR6:=Q3 (o6.heap fY.out z0);have cJ:=Q3 o6;have f6:V6.heap[X5.heap.size]? = some (Ez a b1 b2 b3 b4 81):=by rw[<-jE];exact heap_alloc_new _ _
 obtain⟨g5,hg5⟩:∃ g,X5.heap.size=g:=⟨_,rfl⟩
 rw[hg5] at f6;obtain⟨y0,y1,y2,y3,y4,y5⟩:=K7 f6;obtain⟨x0,x1,x2,x3,x4,x5⟩:=K7 HR6.out;clear q5 o6 hH4;go_wp2;have o7:=(Out.refl gv (gv+1) V6).set5 (g:=gv) Lz (Iz a) (Iz b1) (Iz b2) (Iz b3) (Iz b4);have hd:hi<=gv:=by have h1:=Hh.out.1.top;have h2:=aW.out;omega
 have hn:4<=gv:=by have h3:=Hh.out.1.glob;have h4:=Hh.out.1.inn 0 (by omega);omega
 refine q8c Tryz.results42 rfl rfl (G1 HR6.out) ⟨rfl,(HS3.out.quiet cJ.out).kept o7 (.inl hd) (.inl hn),(HQ3.out.trans (cJ.out.any lo hi)).then o7 (by have:=aW.out;omega)⟩
end
end Go.Proofs.YtjgnogflgoihfaaGreatDoor
