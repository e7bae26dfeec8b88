import Derived.Test.YtjgnogflgoihfaaGreatDoorP16
set_option linter.unusedSimpArgs false
set_option linter.unusedVariables false
set_option maxHeartbeats 16000000
set_option maxRecDepth 100000
namespace Go.Proofs.YtjgnogflgoihfaaGreatDoor
open Go.RowKit
theorem q9u {w:World} {v:Value} {base:Nat} {l:List Nat} (h:YListIs w base v l) :
  ∃ a cap,v=.slice a l.length cap/\(0<l.length->∃ g,a=some ⟨g,0,none⟩/\base<=g/\g<w.heap.size/\∀ i (hi:i<l.length),w.cell? ⟨g,i,none⟩=some (.int .i64 (l[i]:Nat))):=by
 obtain⟨bZ,jD⟩:=h;rcases jD with ⟨hv,h0⟩ | ⟨g,cT,dI,rfl,hg1,nL,hg3,hg4,hg5,hg6⟩
 ·exact⟨none,0,by rw[hv,h0],fun h=>by omega⟩
 ·refine⟨_,_,rfl,fun _=>⟨g,rfl,hg1,Q7 nL,fun i hi=>?_⟩⟩;have e:(dI.toList.take (l.length*1))[i]? = (q5t l)[i]? :=by rw[hg6]
  simp[q5t,hi] at e;simp[World.cell?,nL,e]
theorem z2y {j:Nat} (h1:1<=j) (h2:j<=13):wd j=1+(F4 j).length/\(F4 j).length<=4/\0<=z0x j/\0<=B9 j/\(z0x j=0->mo j=0/\B9 j=0)/\(0<z0x j->q7o j=if j=4 then 8 else 1)/\(j ≠ 12->B9 j=0)/\(j=12->B9 j=4/\mo j=512/\z0x j=9)/\(j=4->z0x j=1)/\mo j<=4096:=by
 rcases q1y h1 h2 with rfl | rfl | rfl | rfl | rfl | rfl | rfl | rfl | rfl | rfl | rfl | rfl | rfl <;> decide
theorem j6w {j:Nat} (h1:1<=j) (h2:j<=13) (w:World):Calls Tryz.prog 113 #[.int .i64 j] w fun e w'=>∃ ao cap,e=.returned (.agg #[.slice ao (F4 j).length cap,.int .i64 (z0x j),.int .i64 (B9 j),.int .i64 (mo j),.int .i64 (q7o j)])/\Out 0 0 w w':=by
 refine(j0p h1 h2 w).mono ?_;rintro e w1 ⟨f,rfl,hl,ho⟩;obtain⟨ao,cap,rfl,_⟩:=q9u hl;exact⟨ao,cap,rfl,ho⟩
theorem j0f {n:Int} (h:z0j n=true):4<=n/\n<=512:=j6d (spine_iff.1 h)
theorem x0s {j:Nat} {n:Int} (h1:1<=j) (h2:j<=13):U5 j n=true ↔ B9 j<=n/\n<=mo j/\(j ≠ 12\/z0j n=true):=by
 obtain⟨r1,r2,r3,r4,r5,r6,r7,r8,r9,r10⟩:=z2y h1 h2;rw[sizeB_iff,known_iff];constructor
 ·rintro⟨_,a,b,c⟩;refine⟨?_,b,?_⟩
  ·by_cases e:j=12
   ·rw[(r8 e).1];rcases c with c | c
    ·omega
    ·exact(j0f c).1
   ·rw[r7 e];exact a
  ·rcases c with c | c
   ·left;omega
   ·exact .inr c
 ·rintro⟨a,b,c⟩;refine⟨by omega,by omega,b,?_⟩;rcases c with c | c
  ·left;omega
  ·exact .inr c
theorem G3 (k n:Int) (w:World):Kz 58 #[Iz k,Iz n] w fun e w'=>e=.returned (.tuple #[Iz (Y9 k n),.bool (U5 k n)])/\Out 0 0 w w':=by
 by_cases hk:1<=k/\k<=13
 ·obtain⟨j,rfl⟩:∃ j:Nat,k=j:=⟨k.toNat,by omega⟩
  have j1:1<=j:=by omega
  have j2:j<=13:=by omega
  have H:=Q3 (j6w j1 j2);have B:=x0s (n:=n) j1 j2;have HH:=Q3 (q3v n);have RF:=z2y j1 j2;have k1:(1:Int)<=(j:Int):=by omega
  have k2:(j:Int)<=13:=by omega
  obtain⟨r1,r2,r3,r4,r5,r6,r7,r8,r9,r10⟩:=RF;by_cases ha:n<B9 j
  ·have hb:U5 j n=false:=by rw[<-Bool.not_eq_true,B];omega
   rw[z2j hb,hb];clear hk j1 j2 B hb r1 r2 r3 r5 r6 r7 r8 r9 r10;generalize (F4 j).length=L at *
   generalize z0x j=x at *
   generalize B9 j=y at *
   generalize mo j=z at *
   generalize q7o j=u at *
   go_enter Tryz.func58,Tryz.ntmps58
   go_wp2_with (first | (go_at_call 114;refine Q4 (HH.out _) ?_) | (go_at_call 113;refine(H.out _).mono ?_;rintro e w1 ⟨ao,cap,rfl,ho⟩;have HO:=Q3 ho;clear ho));go_ret2;exact⟨rfl,HO.out.alloc _⟩
  by_cases hm:mo j<n
  ·have hb:U5 j n=false:=by rw[<-Bool.not_eq_true,B];omega
   have ha':B9 j<=n:=by omega
   rw[z2j hb,hb];clear hk j1 j2 B hb r1 r2 r3 r5 r6 r7 r8 r9 ha r10;generalize (F4 j).length=L at *
   generalize z0x j=x at *
   generalize B9 j=y at *
   generalize mo j=z at *
   generalize q7o j=u at *
   go_enter Tryz.func58,Tryz.ntmps58
   go_wp2_with (first | (go_at_call 114;refine Q4 (HH.out _) ?_) | (go_at_call 113;refine(H.out _).mono ?_;rintro e w1 ⟨ao,cap,rfl,ho⟩;have HO:=Q3 ho;clear ho));go_ret2;exact⟨rfl,HO.out.alloc _⟩
  have ha':B9 j<=n:=by omega
  have hm':n<=mo j:=by omega
  by_cases h12:j=12
  ·subst h12;rw[show ((12:Nat):Int)=12 from rfl] at *;obtain⟨q1,q2,q3⟩:=r8 rfl;have hu:=r6 (by rw[q3];decide);rw[if_neg (by decide)] at hu;cases hs:z0j n
   ·have hb:U5 12 n=false:=by rw[<-Bool.not_eq_true,B,hs];simp
    rw[hs] at HH;rw[z2j hb,hb];clear hk j1 j2 B hb r1 r2 r3 r5 r6 r7 r8 r9 ha hm r4 q1 q2 q3 hu hs r10;generalize (F4 12).length=L at *
    generalize z0x 12=x at *
    generalize B9 12=y at *
    generalize mo 12=z at *
    generalize q7o 12=u at *
    go_enter Tryz.func58,Tryz.ntmps58
    go_wp2_with (first | (go_at_call 114;refine Q4 (HH.out _) ?_) | (go_at_call 113;refine(H.out _).mono ?_;rintro e w1 ⟨ao,cap,rfl,ho⟩;have HO:=Q3 ho;clear ho));go_ret2;exact⟨rfl,HO.out.alloc _⟩
   ·have hb:U5 12 n=true:=by rw[B];exact⟨ha',hm',.inr hs⟩
    rw[hs] at HH;have HE:=Q3 (r1);rw[z1l hb,hb,r1,z2t (by decide)];have n1:n<=4096:=by omega
    have n0:0<=n:=by omega
    have h12':((12:Int) == 12)=true:=rfl;have hx:0<z0x 12:=by rw[q3];decide
    clear hk j1 j2 B hb r1 r3 r5 r6 r7 r8 r9 ha hm r4 q1 q2 q3 hs r10 HE;rw[hu] at H;generalize (F4 12).length=L at *
    generalize z0x 12=x at *
    generalize B9 12=y at *
    generalize mo 12=z at *
    go_enter Tryz.func58,Tryz.ntmps58
    go_wp2_with (first | (go_at_call 114;refine Q4 (HH.out _) ?_) | (go_at_call 113;refine(H.out _).mono ?_;rintro e w1 ⟨ao,cap,rfl,ho⟩;have HO:=Q3 ho;clear ho));go_loopw [7,8] (fun a b wr=>∃ c:Int,0<=c/\a=Iz (1+L+c)/\b=Iz (c*1)/\c*1<n+1/\wr=w1.alloc (.cells #[.slice ao L cap,Iz x,Iz y,Iz z,Iz 1] 172)) (fun _ b _=>(n-intOf b).toNat)
    case atStart=>exact⟨0,by decide,by simp,rfl,by omega,rfl⟩
    case round=>
     obtain⟨c,c0,rfl,rfl,c1,rfl⟩:=hrel;by_cases hc:c*1<n
     ·go_wp2;go_roundw
      case rel=>exact⟨c+1,by omega,by congr 1;omega,by congr 1;omega,by omega,trivial⟩
      case measure=>simp[intOf];omega
     ·have hc':n<=c*1:=by omega
      go_wp2;go_ret2;exact⟨z9j (by omega) rfl,HO.out.alloc _⟩
  have h12':((j:Int) == 12)=false:=by simp;omega
  have hb:U5 j n=true:=by rw[B];exact⟨ha',hm',.inl h12⟩
  have n0:0<=n:=by omega
  have n1:n<=4096:=by omega
  rw[z1l hb,hb,r1];by_cases hx:z0x j=0
  ·have hn:n=0:=by have:=r5 hx;omega
   rw[show z3f j n=0 from by unfold z3f;rw[hn];split <;> decide];clear hk j1 j2 B hb r1 r3 r5 r6 r7 r8 r9 ha hm r4 r10 h12 hn n0 n1;generalize (F4 j).length=L at *
   generalize z0x j=x at *
   generalize B9 j=y at *
   generalize mo j=z at *
   generalize q7o j=u at *
   go_enter Tryz.func58,Tryz.ntmps58
   go_wp2_with (first | (go_at_call 114;refine Q4 (HH.out _) ?_) | (go_at_call 113;refine(H.out _).mono ?_;rintro e w1 ⟨ao,cap,rfl,ho⟩;have HO:=Q3 ho;clear ho));go_ret2;exact⟨z9j (by omega) rfl,HO.out.alloc _⟩
  have hx':0<z0x j:=by omega
  have hu:=r6 hx';by_cases h4:j=4
  ·subst h4;rw[if_pos rfl] at hu;rw[show z3f ((4:Nat):Int) n=(n+7) / 8 from rfl];rw[show ((4:Nat):Int)=4 from rfl] at *;clear hk j1 j2 B hb r1 r3 r5 r6 r7 r8 r9 ha hm r4 r10 h12 hx;rw[hu] at H;generalize (F4 4).length=L at *
   generalize z0x 4=x at *
   generalize B9 4=y at *
   generalize mo 4=z at *
   go_enter Tryz.func58,Tryz.ntmps58
   go_wp2_with (first | (go_at_call 114;refine Q4 (HH.out _) ?_) | (go_at_call 113;refine(H.out _).mono ?_;rintro e w1 ⟨ao,cap,rfl,ho⟩;have HO:=Q3 ho;clear ho));go_loopw [7,8] (fun a b wr=>∃ c:Int,0<=c/\a=Iz (1+L+c)/\b=Iz (c*8)/\c*8<n+8/\wr=w1.alloc (.cells #[.slice ao L cap,Iz x,Iz y,Iz z,Iz 8] 172)) (fun _ b _=>(n-intOf b).toNat)
   case atStart=>exact⟨0,by decide,by simp,rfl,by omega,rfl⟩
   case round=>
    obtain⟨c,c0,rfl,rfl,c1,rfl⟩:=hrel;by_cases hc:c*8<n
    ·go_wp2;go_roundw
     case rel=>exact⟨c+1,by omega,by congr 1;omega,by congr 1;omega,by omega,trivial⟩
     case measure=>simp[intOf];omega
    ·have hc':n<=c*8:=by omega
     go_wp2;go_ret2;exact⟨z9j (by omega) rfl,HO.out.alloc _⟩
  ·rw[if_neg h4] at hu;rw[z2t (by omega)];clear hk j1 j2 B hb r1 r3 r5 r6 r7 r8 r9 ha hm r4 r10 h12 hx h4;rw[hu] at H;generalize (F4 j).length=L at *
   generalize z0x j=x at *
   generalize B9 j=y at *
   generalize mo j=z at *
   go_enter Tryz.func58,Tryz.ntmps58
   go_wp2_with (first | (go_at_call 114;refine Q4 (HH.out _) ?_) | (go_at_call 113;refine(H.out _).mono ?_;rintro e w1 ⟨ao,cap,rfl,ho⟩;have HO:=Q3 ho;clear ho));go_loopw [7,8] (fun a b wr=>∃ c:Int,0<=c/\a=Iz (1+L+c)/\b=Iz (c*1)/\c*1<n+1/\wr=w1.alloc (.cells #[.slice ao L cap,Iz x,Iz y,Iz z,Iz 1] 172)) (fun _ b _=>(n-intOf b).toNat)
   case atStart=>exact⟨0,by decide,by simp,rfl,by omega,rfl⟩
   case round=>
    obtain⟨c,c0,rfl,rfl,c1,rfl⟩:=hrel;by_cases hc:c*1<n
    ·go_wp2;go_roundw
     case rel=>exact⟨c+1,by omega,by congr 1;omega,by congr 1;omega,by omega,trivial⟩
     case measure=>simp[intOf];omega
    ·have hc':n<=c*1:=by omega
     go_wp2;go_ret2;exact⟨z9j (by omega) rfl,HO.out.alloc _⟩
 ·have hb:U5 k n=false:=by rw[<-Bool.not_eq_true,sizeB_iff,known_iff];exact fun h=>hk h.1
  rw[z2j hb,hb];clear hb;have hk':k<1\/13<k:=by omega
  clear hk;rcases hk' with hk | hk
  all_goals
   go_enter Tryz.func58,Tryz.ntmps58
   go_wp2;go_ret2;exact⟨rfl,Out.refl _ _ _⟩
theorem j2j {s:Int} (s1:-9223372036854775808<=s) (s2:s<=9223372036854775807):z0j (wrap64 (s-1))=z0j (s-1):=by
 by_cases h:-9223372036854775808<=s-1
 ·rw[show wrap64 (s-1)=s-1 from by unfold wrap64;omega]
 ·have e:wrap64 (s-1)=9223372036854775807:=by unfold wrap64;omega
  have e2:s-1 = -9223372036854775809:=by omega
  rw[e,e2];decide
theorem q9q (w:World) (cs:Array Value) (T:TypeId) (i:Nat):(w.alloc (.cells cs T)).cell? ⟨w.heap.size,i,none⟩=cs[i]? :=by
 have h:=heap_alloc_new w (.cells cs T);simp only[World.cell?,h];simp
theorem j9u {j:Nat} (h1:1<=j) (h2:j<=13):Y9 j (B9 j)=wd j+B9 j/\Y9 j (mo j)=wd j+z3f j (mo j):=by
 rcases q1y h1 h2 with rfl | rfl | rfl | rfl | rfl | rfl | rfl | rfl | rfl | rfl | rfl | rfl | rfl <;> decide +kernel
theorem x0r {j:Nat} {s:Int} (h1:1<=j) (h2:j<=13):B7 j s=true ↔ (j ≠ 12\/z0j (s-1)=true)/\Y9 j (B9 j)<=s/\s<=Y9 j (mo j):=by
 obtain⟨r1,r2,r3,r4,r5,r6,r7,r8,r9,r10⟩:=z2y h1 h2;obtain⟨l1,l2⟩:=j9u h1 h2;rw[fitsB_iff,known_iff,l1,l2];constructor
 ·rintro⟨_,a,b,c⟩;have c':j ≠ 12\/z0j (s-1)=true:=by
   rcases c with c | c
   ·left;omega
   ·exact .inr c
  refine⟨c',?_,b⟩;by_cases e:j=12
  ·rcases c' with c' | c'
   ·exact absurd e c'
   ·have:=(j0f c').1;have:=(r8 e).1;subst e;have:wd ((12:Nat):Int)=1:=rfl;omega
  ·rw[r7 e];omega
 ·rintro⟨c,a,b⟩;refine⟨by omega,by omega,b,?_⟩;rcases c with c | c
  ·left;omega
  ·exact .inr c
theorem z9f (k s:Int) (w:World) (s1:-9223372036854775808<=s) (s2:s<=9223372036854775807):Kz 115 #[Iz k,Iz s] w fun e w'=>e=.returned (.bool (B7 k s))/\Out 0 0 w w':=by
 by_cases hk:1<=k/\k<=13
 ·obtain⟨j,rfl⟩:∃ j:Nat,k=j:=⟨k.toNat,by omega⟩
  have j1:1<=j:=by omega
  have j2:j<=13:=by omega
  have k1:(1:Int)<=(j:Int):=by omega
  have k2:(j:Int)<=13:=by omega
  have H:=Q3 (j6w j1 j2);have B:=x0r (s:=s) j1 j2;have HH:=Q3 (q3v (wrap64 (s-1)));rw[j2j s1 s2] at HH;have HS1:=Q3 (G3 j (B9 j));have oH:=Q3 (G3 j (mo j));obtain⟨f,hf⟩:∃ f,B7 j s=f:=⟨_,rfl⟩
  obtain⟨sb,hs⟩:∃ sb,z0j (s-1)=sb:=⟨_,rfl⟩
  rw[hf,hs] at B;rw[hs] at HH;rw[hf];obtain⟨t,ht⟩:∃ t,wrap64 (s-1)=t:=⟨_,rfl⟩
  rw[ht] at HH;clear s1 s2 hk hf hs;generalize Y9 j (B9 j)=lo at *
  generalize Y9 j (mo j)=hi at *
  generalize U5 j (B9 j)=b1 at *
  generalize U5 j (mo j)=b2 at *
  generalize (F4 j).length=L at *
  generalize z0x j=x at *
  generalize B9 j=y at *
  generalize mo j=z at *
  generalize q7o j=u at *
  by_cases h12:j=12
  ·subst h12;rw[show ((12:Nat):Int)=12 from rfl] at *;cases sb
   ·have:f=false:=by rw[<-Bool.not_eq_true,B];simp
    subst this;clear B j1 j2;go_enter Tryz.func115,Tryz.ntmps115
    go_wp2_with (go_at_call 114;refine Q4 (HH.out _) ?_);go_ret;exact⟨rfl,Out.refl _ _ _⟩
   ·have B':f=true ↔ lo<=s/\s<=hi:=by rw[B];simp
    have HB:=Q3 B';clear B B' j1 j2;go_enter Tryz.func115,Tryz.ntmps115
    go_wp2_with (first | (go_at_call 114;refine Q4 (HH.out _) ?_) | (go_at_call 113;refine(H.out _).mono ?_;rintro e w1 ⟨ao,cap,rfl,ho⟩;have HO:=Q3 ho;clear ho));refine(HS1.out _).mono ?_;rintro e w2 ⟨rfl,o2⟩;have c3:cq w2 w1.heap.size 3=some (Iz z):=o2.cell (q9q _ _ _ 3) z0;have aH:=Q3 ((HO.out.alloc _).trans o2);clear o2 HO;go_wp2_with fail;refine(oH.out _).mono ?_;rintro e w3 ⟨rfl,o3⟩;have bU:=Q3 (aH.out.trans o3);clear o3 aH c3;go_wp2
    all_goals go_ret
    all_goals refine⟨U9 ?_,bU.out⟩
    all_goals (have:=HB.out;rw[Bool.eq_iff_iff,this];simp;try omega)
  ·have h12':((j:Int) == 12)=false:=by simp;omega
   have B':f=true ↔ lo<=s/\s<=hi:=by rw[B];simp[h12]
   have HB:=Q3 B';clear B B' j1 j2 h12;go_enter Tryz.func115,Tryz.ntmps115
   go_wp2_with (first | (go_at_call 114;refine Q4 (HH.out _) ?_) | (go_at_call 113;refine(H.out _).mono ?_;rintro e w1 ⟨ao,cap,rfl,ho⟩;have HO:=Q3 ho;clear ho));refine(HS1.out _).mono ?_;rintro e w2 ⟨rfl,o2⟩;have c3:cq w2 w1.heap.size 3=some (Iz z):=o2.cell (q9q _ _ _ 3) z0;have aH:=Q3 ((HO.out.alloc _).trans o2);clear o2 HO;go_wp2_with fail;refine(oH.out _).mono ?_;rintro e w3 ⟨rfl,o3⟩;have bU:=Q3 (aH.out.trans o3);clear o3 aH c3;go_wp2
   all_goals go_ret
   all_goals refine⟨U9 ?_,bU.out⟩
   all_goals (have:=HB.out;rw[Bool.eq_iff_iff,this];simp;try omega)
 ·have hb:B7 k s=false:=by rw[<-Bool.not_eq_true,fitsB_iff,known_iff];exact fun h=>hk h.1
  rw[hb];clear hb;have hk':k<1\/13<k:=by omega
  clear hk;rcases hk' with hk | hk
  all_goals
   go_enter Tryz.func115,Tryz.ntmps115
   go_wp2;go_ret;exact⟨rfl,Out.refl _ _ _⟩
theorem j1h {j i:Nat} (h1:1<=j) (h2:j<=13) (i1:1<=i) (i2:i-1<(F4 j).length):(((F4 j)[i-1]:Nat):Int)=z3t j i:=by
 have hl:=(z2y h1 h2).2.1;have hi:i=1\/i=2\/i=3\/i=4:=by omega
 rcases q1y h1 h2 with rfl | rfl | rfl | rfl | rfl | rfl | rfl | rfl | rfl | rfl | rfl | rfl | rfl <;> rcases hi with rfl | rfl | rfl | rfl <;> first | rfl | (revert i2;decide)
theorem j6o {j i:Nat} (h1:1<=j) (h2:j<=13) (i1:(F4 j).length<i) (hr:z0x j ≠ 0):z0x j=z3t j i:=by
 rcases q1y h1 h2 with rfl | rfl | rfl | rfl | rfl | rfl | rfl | rfl | rfl | rfl | rfl | rfl | rfl <;> first | (exact absurd rfl hr) | rfl | skip
 simp[F4] at i1;unfold z3t q0m;simp[z0x];have q1:(i:Int) ≠ 2:=by omega
 have q2:(i:Int) ≠ 3:=by omega
 have q3:(i:Int) ≠ 4:=by omega
 have q4:(1:Int)<(i:Int):=by omega
 simp[q1,q2,q3];omega
theorem j4p {j i:Nat} {s:Int} (h1:1<=j) (h2:j<=13) (hf:B7 j s=true) (i1:(F4 j).length<i) (i2:(i:Int)<s):z0x j ≠ 0:=by
 obtain⟨r1,r2,r3,r4,r5,r6,r7,r8,r9,r10⟩:=z2y h1 h2;obtain⟨_,a,b,c⟩:=fitsB_iff.1 hf;intro h;have m:=(r5 h).1;rw[m] at b;have:z3f (j:Int) 0=0:=by unfold z3f;split <;> decide
 omega
theorem U8 (k s i:Int) (w:World) (s1:-9223372036854775808<=s) (s2:s<=9223372036854775807) :
  Kz 62 #[Iz k,Iz s,Iz i] w fun e w'=>e=.returned (Iz (J6 k s i))/\Out 0 0 w w':=by
 have HF:=Q3 (fun w=>z9f k s w s1 s2);clear s1 s2;cases hf:B7 k s
 ·rw[hf] at HF;have e:J6 k s i=0:=by unfold J6;rw[hf];simp
  rw[e];clear e hf;go_enter Tryz.func62,Tryz.ntmps62
  go_wp2_with (go_at_call 115;refine(HF.out _).mono ?_;rintro e w1 ⟨rfl,ho⟩);go_ret;exact⟨rfl,ho⟩
 rw[hf] at HF;by_cases hi:1<=i/\i<s
 ·obtain⟨i1,i2⟩:=hi;have e:J6 k s i=z3t k i:=by unfold J6;rw[if_pos ⟨hf,i1,i2⟩]
  rw[e];obtain⟨hk,_⟩:=fitsB_iff.1 hf;obtain⟨j,rfl,j1,j2⟩:=z2s hk;obtain⟨p,rfl⟩:∃ p:Nat,i=p:=⟨i.toNat,by omega⟩
  have p1:1<=p:=by omega
  have HR:=Q3 (j0p j1 j2);have F1:=Q3 (fun h=>j1h j1 j2 p1 h);have F2:=Q3 (fun h=>j6o j1 j2 h (j4p j1 j2 hf h i2));obtain⟨pp,hpp⟩:∃ pp:Nat,p=pp+1:=⟨p-1,by omega⟩
  subst hpp;clear e hf hk;generalize z3t j ((pp+1:Nat):Int)=ro at *
  go_enter Tryz.func62,Tryz.ntmps62
  go_wp2_with (go_at_call 115;refine(HF.out _).mono ?_;rintro e w1 ⟨rfl,ho⟩);refine(HR.out _).mono ?_;rintro e w2 ⟨f,rfl,hl,eH⟩;obtain⟨ao,cap,rfl,kR⟩:=q9u hl;have HO:=Q3 ((ho.trans eH).alloc (.cells (j2e (.slice ao (F4 j).length cap) (z0x j) (B9 j) (mo j) (q7o j)) 172));by_cases hp:pp<(F4 j).length
  ·obtain⟨g,rfl,g1,g2,g3⟩:=kR (by omega);have hc:=((Out.refl 0 0 w2).alloc (.cells (j2e (Sz g (F4 j).length cap) (z0x j) (B9 j) (mo j) (q7o j)) 172)).cell (g3 pp hp) z0;have e1:(((F4 j)[pp]'hp:Nat):Int)=ro:=F1.out hp;rw[e1] at hc;clear e1;have b1:(pp:Int)<((F4 j).length:Int):=by omega
   have b2:((F4 j).length:Int)<=4:=by have:=(z2y j1 j2).2.1;omega
   have b0:(0:Int)<=(pp:Int):=by omega
   clear hl g3 kR ho eH F1 F2 HR HF;generalize (F4 j).length=L at *
   generalize z0x j=x at *
   generalize B9 j=y at *
   generalize mo j=z at *
   generalize q7o j=u at *
   unfold j2e at *;go_wp2;go_ret;exact⟨rfl,HO.out⟩
  ·have e2:=F2.out (by omega);have b1:((F4 j).length:Int)<=(pp:Int):=by omega
   rw[e2] at HO ⊢;clear hl kR ho eH F1 F2 HR HF e2;generalize (F4 j).length=L at *
   generalize B9 j=y at *
   generalize mo j=z at *
   generalize q7o j=u at *
   unfold j2e at *;go_wp2;go_ret;exact⟨rfl,HO.out⟩
 ·have e:J6 k s i=0:=by unfold J6;rw[if_neg (fun h=>hi h.2)]
  rw[e];have bQ:i<1\/(1<=i/\s<=i):=by omega
  clear e hf hi;rcases bQ with h | ⟨h,h'⟩
  all_goals
   go_enter Tryz.func62,Tryz.ntmps62
   go_wp2_with (go_at_call 115;refine(HF.out _).mono ?_;rintro e w1 ⟨rfl,ho⟩);go_ret;exact⟨rfl,ho⟩
def obC (st:Sp) (j:Nat):Int:=
 if Y6 (st.O (j / 5)) then (if j % 5=0 then ((j / 5:Nat):Int) else if j % 5=1 then (st.O (j / 5)).1 else if j % 5=2 then (st.O (j / 5)).2.1 else if j % 5=3 then (st.O (j / 5)).2.2.1 else (st.O (j / 5)).2.2.2) else 0
structure RfAt (w:World) (lo hi:Nat) (s:Nat->Nat) (n cw co:Nat) (st:Sp):Prop where
 n1:1<=n
 n2:n<=4096
 top:hi<=w.heap.size
 glob:4<=lo
 inn:∀ i,i<5->lo<=s i/\s i<hi
 ne:∀ i j,i<5->j<5->s i=s j->i=j
 box:w.heap[s 0]? = some (.cells #[.slice (some ⟨s 1,0,none⟩) (64*n) cw,.pointer (some ⟨s 2,0,none⟩),.slice (some ⟨s 4,0,none⟩) (64*n) co,.int .i64 st.last] 107 (0,0))
 rw:Row w (s 1) 3 (64*n) (fun j=>.int .i64 (st.W j))
 rt:TblAt 144 w (s 2) (s 3) n st.S
 ro:Row w (s 4) 81 (64*n*5) (fun j=>.int .i64 (obC st j))
section
variable {w w':World} {lo hi n cw co:Nat} {s:Nat->Nat} {st:Sp}
theorem RfAt.kept {x y:Nat} (h:RfAt w lo hi s n cw co st) (o:Out x y w w') (hd:hi<=x\/y<=lo):RfAt w' lo hi s n cw co st:=
 have f:∀ i,i<5->s i<x\/y<=s i:=fun i hi=>by have:=h.inn i hi;omega
 ⟨h.n1,h.n2,Nat.le_trans h.top o.size,h.glob,h.inn,h.ne,o.heap h.box (f 0 (by omega)),h.rw.kept o (f 1 (by omega)),h.rt.kept o (f 2 (by omega)) (f 3 (by omega)),h.ro.kept o (f 4 (by omega))⟩
theorem RfAt.quiet (h:RfAt w lo hi s n cw co st) (o:Out 0 0 w w'):RfAt w' lo hi s n cw co st:=h.kept o z0
theorem RfAt.cells (h:RfAt w lo hi s n cw co st):w.cell? ⟨s 0,0,none⟩=some (.slice (some ⟨s 1,0,none⟩) (64*n) cw)/\w.cell? ⟨s 0,1,none⟩=some (.pointer (some ⟨s 2,0,none⟩))/\w.cell? ⟨s 0,2,none⟩=some (.slice (some ⟨s 4,0,none⟩) (64*n) co)/\w.cell? ⟨s 0,3,none⟩=some (.int .i64 st.last)/\∀ j,w.frozen? ⟨s 0,j,none⟩=false:=by
 refine⟨?_,?_,?_,?_,fun j=>?_⟩ <;> simp[World.cell?,World.frozen?,h.box]
theorem RfAt.setW (h:RfAt w lo hi s n cw co st) {a:Nat} (ha:a<64*n) (x:Int):RfAt (w.setCell ⟨s 1,a,none⟩ (.int .i64 x)) lo hi s n cw co { st with W:=z2p st.W a x }/\Out lo hi w (w.setCell ⟨s 1,a,none⟩ (.int .i64 x)):=by
 have o:Out (s 1) (s 1+1) w (w.setCell ⟨s 1,a,none⟩ (.int .i64 x)):=(Out.refl _ _ _).setCell (p:=⟨s 1,a,none⟩) z1 _;have h1:=h.inn 1 (by omega);have f:∀ i,i<5->i ≠ 1->s i<s 1\/s 1+1<=s i:=fun i hi fG=>by
  have:s i ≠ s 1:=fun e=>fG (h.ne i 1 hi (by omega) e)
  omega
 refine⟨⟨h.n1,h.n2,Nat.le_trans h.top o.size,h.glob,h.inn,h.ne,o.heap h.box (f 0 (by omega) (by omega)),?_,h.rt.kept o (f 2 (by omega) (by omega)) (f 3 (by omega) (by omega)),h.ro.kept o (f 4 (by omega) (by omega))⟩,o.wide h1.1 (by omega)⟩;refine(h.rw.set a (.int .i64 x)).congr fun j _=>?_
 show (if j=a then _ else _)=Value.int .i64 (z2p st.W a x j)
 unfold z2p;by_cases e:j=a
 ·rw[if_pos e,if_pos e]
 ·rw[if_neg e,if_neg e]
theorem z5b (h:RfAt w lo hi s n cw co st) (a x:Int):Kz 79 #[Pq (s 0),Iz a,Iz x] w fun e w'=>e=.returned (.bool (inB (64*n) a))/\RfAt w' lo hi s n cw co { st with W:=F3 n st.W a x }/\Out lo hi w w':=by
 have c0:=h.cells.1;have h2:=h.n2;obtain⟨M,hM⟩:∃ M,64*n=M:=⟨_,rfl⟩
 have M1:(M:Int)<=262144:=by omega
 have M0:(0:Int)<=(M:Int):=by omega
 have HH:=Q3 h;unfold F3;rw[hM] at c0 ⊢;by_cases h0:0<=a
 ·by_cases h1:a<(M:Int)
  ·obtain⟨k,rfl⟩:∃ k:Nat,a=(k:Int):=⟨a.toNat,by omega⟩
   have d0:=h.rw.cell (i:=k) (by omega);have d1:=h.rw.frozen k;have mR:inB M (k:Int)=true:=by unfold inB;simp;omega
   rw[mR,if_pos rfl,show ((k:Nat):Int).toNat=k from by omega];have HS:=Q3 (h.setW (a:=k) (by omega) x);clear h h2 hM mR;go_enter Tryz.func79,Tryz.ntmps79
   go_wp2;go_ret;exact⟨rfl,HS.out⟩
  ·have mR:inB M a=false:=by unfold inB;simp;omega
   rw[mR,if_neg (by simp)];clear h h2 hM mR;go_enter Tryz.func79,Tryz.ntmps79
   go_wp2;go_ret;exact⟨rfl,HH.out,Out.refl _ _ _⟩
 ·have mR:inB M a=false:=by unfold inB;simp;omega
  have h1:a<0:=by omega
  rw[mR,if_neg (by simp)];clear h h2 hM mR h0;go_enter Tryz.func79,Tryz.ntmps79
  go_wp2;go_ret;exact⟨rfl,HH.out,Out.refl _ _ _⟩
end
theorem z3k {x:Int} (h1:-1<=x) (h2:x<=262143) (w:World):Kz 118 #[Iz x] w fun e w'=>e=.returned (Iz (z0e x))/\w'=w:=by
 have HL:Hid (z0e x=x*8+4):=by show _=_;unfold z0e q7j;rw[if_pos (by simp;omega)]
 go_enter Tryz.func118,Tryz.ntmps118
 go_wp2;go_ret;exact⟨by rw[HL.out];rfl,rfl⟩
theorem z9h {z:Int} (z1:1<=z) (z2:z<=1024) (w:World):Kz 169 #[Iz z] w fun e w'=>e=.returned (Iz (Y8 z:Int))/\w'=w:=by
 have HP:=Q3 (fun w=>z4k z w);by_cases hz:z<=32
 ·have hp:B5 z=0:=by unfold B5;rw[if_neg (by omega)]
  have HO:=Q3 (fun w=>z4j z w);have HW:=Q3 (fun w=>z7m (ofV z) w);have hs:=H7 z1 hz;have hr:(Y8 z:Int)=W8 (ofV z):=by
   unfold Y8;rw[if_neg (by omega)];unfold wN;omega
  rw[hp] at HP;rw[hr];clear hp hr hs z1 z2 hz;go_enter Tryz.func169,Tryz.ntmps169
  go_wp2_with (first | (go_at_call 164;refine Q4 (HP.out _) ?_) | (go_at_call 117;refine Q4 (HO.out _) ?_) | (go_at_call 166;refine Q4 (HW.out _) ?_));go_ret;exact⟨rfl,rfl⟩
 ·have hk:=q4w (s:=z) (by omega) z2;obtain⟨k,hkk⟩:∃ k,((z+63) / 64).toNat=k:=⟨_,rfl⟩
  rw[hkk] at hk;have hp:B5 z=(k:Int):=by unfold B5;rw[if_pos (by omega),hk.2.2]
  have hr:(Y8 z:Int)=(k:Int)*64:=by
   unfold Y8;rw[if_pos (by omega),hkk];push_cast;rfl
  have k1:(0:Int)<(k:Int):=by omega
  have k2:(k:Int)<=16:=by omega
  rw[hp] at HP;rw[hr];clear hp hr hk hkk z1 z2 hz;go_enter Tryz.func169,Tryz.ntmps169
  go_wp2_with (go_at_call 164;refine Q4 (HP.out _) ?_);go_ret;exact⟨rfl,rfl⟩
theorem z5r (st:Sp) (a:Nat):obC st (a*5+1)=if Y6 (st.O a) then (st.O a).1 else 0:=by
 unfold obC;rw[show (a*5+1) / 5=a from by omega,show (a*5+1) % 5=1 from by omega];rfl
section
variable {n:Nat} {st:Sp} {c:Int}
theorem x6s {f a:Nat} (h1:f<=a) (h2:fr n st c a=true) (h3:∀ j,f<=j->j<a->fr n st c j=false):nf n st c f=(a:Int):=by
 have ha:=(fr_iff.1 h2).1;unfold nf;rcases U4 (fr n st c) (64*n) f with ⟨_,e⟩ | ⟨i,e,i1,i2,i3,i4⟩
 ·rw[e a h1 ha] at h2;cases h2
 ·have hfi:=i2 (by omega);by_cases h:i<a
  ·rw[h3 i hfi h] at i3;cases i3
  ·by_cases h':a<i
   ·rw[i4 a h1 h'] at h2;cases h2
   ·rw[e];omega
theorem x6t {f:Nat} (hf:f<=64*n) (h3:∀ j,f<=j->j<64*n->fr n st c j=false):nf n st c f = -1:=by
 unfold nf;rcases U4 (fr n st c) (64*n) f with ⟨e,_⟩ | ⟨i,e,i1,i2,i3,i4⟩
 ·exact e
 ·rw[h3 i (i2 hf) i1] at i3;cases i3
theorem j9e {p j:Nat} (h:st.S p ≠ (1,c,0)) (h1:64*p<=j) (h2:j<64*p+64):fr n st c j=false:=by
 cases hf:fr n st c j with
 | false=>rfl
 | true=>
  have:=(fr_iff.1 hf).2.1;rw[show j / 64=p from by omega] at this;exact absurd this h
theorem z4c (h0:0<=c) (h7:c<=7) {p i j:Nat} (hi:(i+1)*wN c<=64) (h1:64*p+i*wN c<j) (h2:j<64*p+(i+1)*wN c):fr n st c j=false:=by
 have hw:=q1a h0 h7;rw[Nat.add_mul] at h2 hi;obtain⟨q,hq⟩:∃ q,i*wN c=q:=⟨_,rfl⟩
 rw[hq] at h1 h2 hi;cases hf:fr n st c j with
 | false=>rfl
 | true=>
  obtain⟨_,_,e,_⟩:=fr_iff.1 hf;unfold F6 at e;simp only[Bool.and_eq_true,decide_eq_true_eq] at e;obtain⟨d,hd⟩:∃ d,j=64*p+q+d:=⟨j-(64*p+q),by omega⟩
  subst hd;rw[show (64*p+q+d) % 64=q+d from by omega,<-hq,Nat.mul_comm,Nat.mul_add_mod,Nat.mod_eq_of_lt (by omega)] at e;omega
theorem q3o (h0:0<=c) (h7:c<=7) {p i j:Nat} (hi:64<(i+1)*wN c) (h1:64*p+i*wN c<=j) (h2:j<64*p+64):fr n st c j=false:=by
 rw[Nat.add_mul] at hi;cases hf:fr n st c j with
 | false=>rfl
 | true=>
  obtain⟨_,_,e,_⟩:=fr_iff.1 hf;unfold F6 at e;simp only[Bool.and_eq_true,decide_eq_true_eq] at e;omega
end
theorem x1q {c:Nat} (h:c<8):∃ B z:Nat,B4 (c:Int)=(B:Int)/\W8 (c:Int)=(z:Int)/\wN (c:Int)=z/\2<=z/\z<=32/\2<=B/\B<=32/\B*z<=64/\64<(B+1)*z:=by
 have:c=0\/c=1\/c=2\/c=3\/c=4\/c=5\/c=6\/c=7:=by omega
 rcases this with rfl | rfl | rfl | rfl | rfl | rfl | rfl | rfl
 ·exact⟨32,2,rfl,rfl,rfl,by decide⟩
 ·exact⟨16,4,rfl,rfl,rfl,by decide⟩
 ·exact⟨10,6,rfl,rfl,rfl,by decide⟩
 ·exact⟨8,8,rfl,rfl,rfl,by decide⟩
 ·exact⟨5,12,rfl,rfl,rfl,by decide⟩
 ·exact⟨4,16,rfl,rfl,rfl,by decide⟩
 ·exact⟨3,20,rfl,rfl,rfl,by decide⟩
 ·exact⟨2,32,rfl,rfl,rfl,by decide⟩
theorem z2b {w:World} {lo hi n cw co:Nat} {s:Nat->Nat} {st:Sp} (h:RfAt w lo hi s n cw co st) {c:Nat} (hc:c<8) {f:Nat} (hf:f<=64*n) :
  Kz 90 #[Pq (s 0),Iz (c:Int),Iz (f:Int)] w fun e w'=>e=.returned (Iz (nf n st (c:Int) f))/\w'=w:=by
 obtain⟨c0,c1,c2,c3,_⟩:=h.cells;obtain⟨cap,d0,_⟩:=h.rt.cell;have HPr:=Q3 h.rt.row;have HGd:=Q3 h.rt.good;have HRo:=Q3 h.ro;have HN:=Q3 (And.intro h.n1 h.n2);obtain⟨B,z,hB,hz,hzN,z1,z2,B1,B2,Bz1,Bz2⟩:=x1q hc;have nB:=Q3 (fun w=>z3j (c:Int) w);have HSt:=Q3 (fun(i:Int) w=>z7l (c:Int) i w);rw[hB] at nB;obtain⟨M,hM⟩:∃ M,64*n=M:=⟨_,rfl⟩
 have hn:=HN.out;have f0:(0:Int)<=(f:Int):=by omega
 have f1:¬ (f:Int)<0:=by omega
 have f2:(f:Int)<=262144:=by omega
 have n0:(1:Int)<=(n:Int):=by omega
 have n1:(n:Int)<=4096:=by omega
 obtain⟨fp,hfp⟩:∃ fp,f / 64=fp:=⟨_,rfl⟩
 have f3:(f:Int) / 64=(fp:Int):=by omega
 have B0:(0:Int)<=(B:Int):=by omega
 have B3:(B:Int)<=32:=by omega
 have cz:(0:Int)<=(c:Int):=by omega
 have c7:(c:Int)<=7:=by omega
 have HF:=Q3 (And.intro hf (And.intro hfp (And.intro hB (And.intro hz (And.intro hzN (And.intro z1 (And.intro z2 (And.intro Bz1 (And.intro Bz2 hM)))))))));rw[hM] at c2;have M1:(M:Int)<=262144:=by omega
 clear h hf hfp hB hz hzN z1 z2 Bz1 Bz2 hn B1 B2 c0 c3 hM;go_enter Tryz.func90,Tryz.ntmps90
 go_wp2_with fail;go_loopw [7] (fun u wr=>∃ p:Nat,u=Iz (p:Int)/\fp<=p/\p<=n/\(∀ j,f<=j->j<64*p->fr n st (c:Int) j=false)/\wr=w) (fun u _=>n-(intOf u).toNat)
 case atStart=>exact⟨fp,rfl,Nat.le_refl _,by have:=HF.out;omega,fun j h1 h2=>by have:=HF.out.2.1;omega,rfl⟩
 case round=>
  obtain⟨p,rfl,pa,pb,iJ,kO⟩:=hrel;subst kO;have p0:(0:Int)<=(p:Int):=by omega
  by_cases hp:p<n
  ·have p1:(p:Int)<(n:Int):=by omega
   obtain⟨e0,e1,_⟩:=HPr.out.cells hp;obtain⟨kd,nJ⟩:∃ kd,(st.S p).1=kd:=⟨_,rfl⟩
   obtain⟨cl,kT⟩:∃ cl,(st.S p).2.1=cl:=⟨_,rfl⟩
   rw[nJ] at e0;rw[kT] at e1;have HNo:=Q3 iJ;clear iJ;by_cases hk:kd=1/\cl=(c:Int)
   ·obtain⟨rfl,rfl⟩:=hk;have hS:st.S p=(1,(c:Int),0):=by
     rcases HGd.out p hp with e | ⟨c',_,_,e⟩ | ⟨k,_,_,_,e,_⟩ | ⟨e,_⟩
     ·rw[e] at nJ;cases nJ
     ·rw[e] at kT ⊢;rw[show c'=(c:Int) from kT]
     ·rw[e] at nJ;cases nJ
     ·rw[e] at nJ;cases nJ
    have HSp:=Q3 hS;clear nJ kT hS;go_wp2_with fail;go_loopw [8] (fun u wq=>∃ i:Nat,u=Iz (i:Int)/\i<=B/\(∀ j,f<=j->j<64*p+i*z->fr n st (c:Int) j=false)/\wq=wr) (fun u _=>B-(intOf u).toNat)
    case atStart=>exact⟨0,rfl,Nat.zero_le _,fun j h1 h2=>HNo.out j h1 (by omega),rfl⟩
    case round=>
     obtain⟨i,rfl,ib,iJ,hwq⟩:=hrel;subst hwq;have i0:(0:Int)<=(i:Int):=by omega
     have HNi:=Q3 iJ;clear iJ;by_cases bQ:i<B
     ·have i1:(i:Int)<(B:Int):=by omega
      have hF:=HF.out;have hle:(i+1)*z<=B*z:=Nat.mul_le_mul_right _ bQ;have gT:z1s (c:Int) (i:Int)=((i*z:Nat):Int):=by
       unfold z1s;rw[hF.2.2.1,if_pos ⟨by omega,by omega⟩,hF.2.2.2.1];push_cast;rfl
      have HSi:=Q3 (fun w=>HSt.out (i:Int) w);rw[gT] at HSi;obtain⟨q,hq⟩:∃ q,i*z=q:=⟨_,rfl⟩
      have hle2:q+z<=64:=by rw[Nat.add_mul] at hle;omega
      rw[hq] at HSi;obtain⟨a,ha⟩:∃ a,64*p+q=a:=⟨_,rfl⟩
      have q0:(0:Int)<=(q:Int):=by omega
      have q1:(q:Int)<=64:=by omega
      obtain⟨P,hP⟩:∃ P,p*64=P:=⟨_,rfl⟩
      have P0:(p:Int)*64=(P:Int):=by omega
      have P1:(0:Int)<=(P:Int):=by omega
      have P2:(P:Int)<=262144:=by omega
      have a0:(P:Int)+(q:Int)=(a:Int):=by omega
      have a1:(0:Int)<=(a:Int):=by omega
      have aM:a<64*n:=by omega
      have a2:(a:Int)<(M:Int):=by omega
      have d5:=HRo.out.cell (i:=a*5+1) (by omega);rw[z5r] at d5;have hst2:F6 (c:Int) (a % 64)=true:=by
       unfold F6;rw[hF.2.2.2.2.1,show a % 64=q from by omega,<-hq];simp only[Bool.and_eq_true,decide_eq_true_eq];exact⟨Nat.mul_mod_left _ _,by omega⟩
      have nM:fr n st (c:Int) a = !Y6 (st.O a):=by
       unfold fr;rw[show a / 64=p from by omega,HSp.out,hst2,show decide (a<64*n)=true from by simp;omega];simp
      have hnext:fr n st (c:Int) a=false\/a<f->∀ j,f<=j->j<64*p+(i+1)*z->fr n st (c:Int) j=false:=fun hor j h1 h2=>by
       by_cases hj:j<64*p+i*z
       ·exact HNi.out j h1 hj
       ·by_cases he:j=a
        ·rcases hor with hor | hor
         ·rw[he];exact hor
         ·omega
        ·exact z4c cz c7 (p:=p) (i:=i) (by rw[hF.2.2.2.2.1,Nat.add_mul];omega) (by rw[hF.2.2.2.2.1];omega) (by rw[hF.2.2.2.2.1];exact h2)
      have hfound:fr n st (c:Int) a=true->f<=a->nf n st (c:Int) f=(a:Int):=fun h1 h2=>x6s h2 h1 fun j j1 j2=>HNi.out j j1 (by omega)
      have HX:=Q3 (And.intro hnext (And.intro hfound nM));clear hle gT hq hle2 hP ha hst2 nM hnext hfound hF aM;by_cases hfa:(f:Int)<=(a:Int)
      ·cases hb:Y6 (st.O a) with
       | false=>
        rw[hb,if_neg (by simp)] at d5;have eV:=HX.out.2.1 (by rw[HX.out.2.2,hb];rfl) (by omega);have HRes:=Q3 eV;clear hb eV;go_wp2_with (first | (go_at_call 151;refine Q4 (nB.out _) ?_) | (go_at_call 152;refine Q4 (HSi.out _) ?_));go_ret;exact⟨by rw[HRes.out];rfl,rfl⟩
       | true=>
        rw[hb,if_pos rfl] at d5;obtain⟨k5,nK⟩:∃ k,(st.O a).1=k:=⟨_,rfl⟩
        rw[nK] at d5;have oP:k5 ≠ 0:=by unfold Y6 at hb;rw[nK] at hb;simpa using hb
        have gK:=Q3 (HX.out.1 (.inl (by rw[HX.out.2.2,hb];rfl)));clear hb nK;go_wp2_with (first | (go_at_call 151;refine Q4 (nB.out _) ?_) | (go_at_call 152;refine Q4 (HSi.out _) ?_));exact⟨⟨i+1,by congr 1,by omega,gK.out,by trivial⟩,by simp[intOf] <;> omega⟩
      ·have gK:=Q3 (HX.out.1 (.inr (by omega)));clear d5;go_wp2_with (first | (go_at_call 151;refine Q4 (nB.out _) ?_) | (go_at_call 152;refine Q4 (HSi.out _) ?_));exact⟨⟨i+1,by congr 1,by omega,gK.out,by trivial⟩,by simp[intOf] <;> omega⟩
     ·have e:i=B:=by omega
      subst e;go_wp2_with (go_at_call 151;refine Q4 (nB.out _) ?_);refine⟨⟨p+1,by congr 1,by omega,by omega,fun j h1 h2=>?_,by trivial⟩,by simp[intOf] <;> omega⟩;have hF:=HF.out;by_cases hj:j<64*p+i*z
      ·exact HNi.out j h1 hj
      ·exact q3o cz c7 (p:=p) (i:=i) (by rw[hF.2.2.2.2.1];exact hF.2.2.2.2.2.2.2.2.1) (by rw[hF.2.2.2.2.1];omega) (by omega)
   ·have fG:st.S p ≠ (1,(c:Int),0):=fun e=>hk ⟨by rw[<-nJ,e],by rw[<-kT,e]⟩
    have gK:Hid (∀ j,f<=j->j<64*(p+1)->fr n st (c:Int) j=false):=fun j h1 h2=>by
     by_cases hj:j<64*p
     ·exact HNo.out j h1 hj
     ·exact j9e fG (by omega) (by omega)
    clear fG nJ kT;by_cases iC:kd=1
    ·have jC:cl ≠ (c:Int):=fun e=>hk ⟨iC,e⟩
     clear hk;subst iC;go_wp2_with fail;exact⟨⟨p+1,by congr 1,by omega,by omega,gK.out,by trivial⟩,by simp[intOf] <;> omega⟩
    ·clear hk;go_wp2_with fail;exact⟨⟨p+1,by congr 1,by omega,by omega,gK.out,by trivial⟩,by simp[intOf] <;> omega⟩
  ·have e:p=n:=by omega
   subst e;have eV:=x6t (n:=p) (st:=st) (c:=(c:Int)) HF.out.1 iJ;have HRes:=Q3 eV;clear iJ eV;go_wp2;go_ret;exact⟨by rw[HRes.out];rfl,rfl⟩
section
variable {w:World} {lo hi n cw co:Nat} {s:Nat->Nat} {st:Sp}
theorem j7u (W:Nat->Int) (a k:Nat):z2p (z0b W a k) (a+k) 0=z0b W a (k+1):=by
 funext i
 unfold z2p z0b;by_cases e:i=a+k
 ·rw[if_pos e,if_pos (by omega)]
 ·rw[if_neg e];by_cases e2:a<=i/\i<a+k
  ·rw[if_pos e2,if_pos (by omega)]
  ·rw[if_neg e2,if_neg (by omega)]
theorem j7t (W:Nat->Int) (a:Nat):z0b W a 0=W:=by
 funext i
 unfold z0b;rw[if_neg (by omega)]
theorem z9i (h:RfAt w lo hi s n cw co st) {a k:Nat} (ha:a+k<=64*n):Kz 168 #[Pq (s 0),Iz (a:Int),Iz (k:Int)] w fun e w'=>(∃ v,e=.returned v)/\RfAt w' lo hi s n cw co { st with W:=z0b st.W a k }/\Out lo hi w w':=by
 have H0:=Q3 h;have h2:=h.n2;obtain⟨M,hM⟩:∃ M,64*n=M:=⟨_,rfl⟩
 have HM:=Q3 (And.intro hM ha);have M1:(M:Int)<=262144:=by omega
 have a0:(0:Int)<=(a:Int):=by omega
 have a1:(a:Int)<=262144:=by omega
 have k0:(k:Int)<=262144:=by omega
 clear h ha hM h2;go_enter Tryz.func168,Tryz.ntmps168
 go_wp2_with fail;go_loopw [6] (fun u wr=>∃ i:Nat,u=Iz (i:Int)/\i<=k/\RfAt wr lo hi s n cw co { st with W:=z0b st.W a i }/\Out lo hi w wr) (fun u _=>k-(intOf u).toNat)
 case atStart=>exact⟨0,rfl,Nat.zero_le _,by rw[j7t];exact H0.out,Out.refl _ _ _⟩
 case round=>
  obtain⟨i,rfl,ib,r1,r2⟩:=hrel;have i0:(0:Int)<=(i:Int):=by omega
  by_cases bQ:i<k
  ·have i1:(i:Int)<(k:Int):=by omega
   have c0:=r1.cells.1;rw[HM.out.1] at c0;obtain⟨x,hx⟩:∃ x,a+i=x:=⟨_,rfl⟩
   have hm:=HM.out;have x0:(a:Int)+(i:Int)=(x:Int):=by omega
   have x1:(0:Int)<=(x:Int):=by omega
   have x2:(x:Int)<(M:Int):=by omega
   have d0:=r1.rw.cell (i:=x) (by omega);have d1:=r1.rw.frozen x;have HS:=Q3 (r1.setW (a:=x) (by omega) 0);have HR:=Q3 (And.intro r2 hx);obtain⟨y,hy⟩:∃ y,z0b st.W a i x=y:=⟨_,rfl⟩
   dsimp only at d0;rw[hy] at d0;clear r1 r2 hx hm hy;go_wp2_with fail;refine⟨⟨i+1,by congr 1,by omega,?_,HR.out.1.trans HS.out.2⟩,by simp[intOf] <;> omega⟩;have:=HS.out.1;dsimp only at this;rw[<-HR.out.2,j7u] at this;rw[<-HR.out.2];exact this
  ·have e:i=k:=by omega
   subst e;have HR:=Q3 (And.intro r1 r2);clear r1 r2;go_wp2;exact bodyPost_end (results_none Tryz.results168 _ _ _) rfl ⟨⟨_,rfl⟩,HR.out⟩
theorem q4e {a:Nat} (hb:Y6 (st.O a)=true):obC st (a*5)=(a:Int)/\obC st (a*5+1)=(st.O a).1/\obC st (a*5+2)=(st.O a).2.1/\obC st (a*5+3)=(st.O a).2.2.1/\obC st (a*5+4)=(st.O a).2.2.2:=by
 unfold obC;refine⟨?_,?_,?_,?_,?_⟩
 ·rw[show a*5 / 5=a from by omega,show a*5 % 5=0 from by omega,hb];rfl
 ·rw[show (a*5+1) / 5=a from by omega,show (a*5+1) % 5=1 from by omega,hb];rfl
 ·rw[show (a*5+2) / 5=a from by omega,show (a*5+2) % 5=2 from by omega,hb];rfl
 ·rw[show (a*5+3) / 5=a from by omega,show (a*5+3) % 5=3 from by omega,hb];rfl
 ·rw[show (a*5+4) / 5=a from by omega,show (a*5+4) % 5=4 from by omega,hb];rfl
theorem z3i (h:RfAt w lo hi s n cw co st) {a:Nat} (ha:a<64*n) (hb:Y6 (st.O a)=true) {k z x t:Int} (hO:st.O a=(k,z,x,t)):Kz 123 #[Pq (s 0),Iz (a:Int)] w fun e w'=>e=.returned (.tuple #[Wz (a:Int) k z x t,.bool true])/\Out 0 0 w w':=by
 have h':=h.quiet ((Out.refl 0 0 w).alloc (Ez 0 0 0 0 0 81));have h2:=h.n2;obtain⟨M,hM⟩:∃ M,64*n=M:=⟨_,rfl⟩
 have c2:=h'.cells.2.2.1;rw[hM] at c2;have a0:(0:Int)<=(a:Int):=by omega
 have a1:(a:Int)<(M:Int):=by omega
 have a2:(M:Int)<=262144:=by omega
 obtain⟨o0,o1,o2,o3,o4⟩:=q4e (st:=st) hb;rw[hO] at o1 o2 o3 o4;dsimp only at o1 o2 o3 o4;have d0:=h'.ro.cell (i:=a*5) (by omega);have d1:=h'.ro.cell (i:=a*5+1) (by omega);have d2:=h'.ro.cell (i:=a*5+2) (by omega);have d3:=h'.ro.cell (i:=a*5+3) (by omega);have d4:=h'.ro.cell (i:=a*5+4) (by omega);rw[o0] at d0;rw[o1] at d1;rw[o2] at d2;rw[o3] at d3;rw[o4] at d4;have hk:k ≠ 0:=by rw[hO] at hb;unfold Y6 at hb;simpa using hb
 have hkb:(k == 0)=false:=by simpa using hk
 have fG:s 4 ≠ w.heap.size:=by have:=h.inn 4 (by omega);have:=h.top;omega
 clear h h' h2 hM hO hb o0 o1 o2 o3 o4 ha;go_enter Tryz.func123,Tryz.ntmps123
 go_wp2;refine z6t (g:=w.heap.size) Tryz.results123 rfl rfl rfl (heap_alloc_new _ _) ⟨rfl,(Out.refl _ _ _).alloc _⟩
theorem z3h (h:RfAt w lo hi s n cw co st) {a:Int} (iJ:∀ k:Nat,a=(k:Int)->k<64*n->Y6 (st.O k)=false):Kz 123 #[Pq (s 0),Iz a] w fun e w'=>e=.returned (.tuple #[Wz 0 0 0 0 0,.bool false])/\Out 0 0 w w':=by
 have h':=h.quiet ((Out.refl 0 0 w).alloc (Ez 0 0 0 0 0 81));have h2:=h.n2;obtain⟨M,hM⟩:∃ M,64*n=M:=⟨_,rfl⟩
 have c2:=h'.cells.2.2.1;rw[hM] at c2;have a2:(M:Int)<=262144:=by omega
 have a3:(0:Int)<=(M:Int):=by omega
 by_cases h0:a<0
 ·clear h h' h2 hM iJ;go_enter Tryz.func123,Tryz.ntmps123
  go_wp2;exact z6t (g:=w.heap.size) Tryz.results123 rfl rfl rfl (heap_alloc_new _ _) ⟨rfl,(Out.refl _ _ _).alloc _⟩
 ·by_cases h1:(M:Int)<=a
  ·clear h h' h2 hM iJ;go_enter Tryz.func123,Tryz.ntmps123
   go_wp2;exact z6t (g:=w.heap.size) Tryz.results123 rfl rfl rfl (heap_alloc_new _ _) ⟨rfl,(Out.refl _ _ _).alloc _⟩
  ·obtain⟨k,rfl⟩:∃ k:Nat,a=(k:Int):=⟨a.toNat,by omega⟩
   have hb:=iJ k rfl (by omega);have d1:=h'.ro.cell (i:=k*5+1) (by omega);rw[z5r,hb,if_neg (by simp)] at d1;have k0:(0:Int)<=(k:Int):=by omega
   have k1:(k:Int)<(M:Int):=by omega
   clear h h' h2 hM iJ hb h0 h1;go_enter Tryz.func123,Tryz.ntmps123
   go_wp2;exact z6t (g:=w.heap.size) Tryz.results123 rfl rfl rfl (heap_alloc_new _ _) ⟨rfl,(Out.refl _ _ _).alloc _⟩
end
theorem x1z:(Tryz.prog.info? 111).map (·.size)=some 2:=by kernel_rfl
theorem q2p {fn:Func} {p:Tmp} (hr:fn.results = #[.cell p 111]) {a:Act} {w:World} {g:Nat} {x y:Int} {post:Ending->World->Prop} (hp:a.tmps.getD p undef=.pointer (some ⟨g,0,none⟩))
  (hd:a.defers=[]) (b:w.heap[g]? = some (.cells #[.int .i64 x,.int .i64 y] 111 (0,0))) (h:post (.returned (z7d x y)) w):bodyPost Tryz.prog fn post Exit.ret a w:=
 bodyPost_ret (v:=z7d x y) (results_cell_row hr a.tmps w g 111 _ (0,0) _ hp b Tryz.underlying111 rfl x1z) hd h
theorem z4w {w:World} {g:Nat} {T:TypeId} {u v:Value} (h:w.heap[g]? = some (.cells #[u,v] T (0,0))) (x y:Value):((w.setCell ⟨g,0,none⟩ x).setCell ⟨g,1,none⟩ y).heap[g]? = some (.cells #[x,y] T (0,0)):=by
 simp[World.setCell,Array.getElem?_modify,h]
section
variable {w:World} {lo hi n cw co:Nat} {s:Nat->Nat} {st:Sp}
theorem q2m (h:RfAt w lo hi s n cw co st) {a:Int} (iJ:∀ k:Nat,a=(k:Int)->k<64*n->Y6 (st.O k)=false):Kz 127 #[Pq (s 0),Iz a] w fun e w'=>e=.returned (z7d 22 0)/\Out 0 0 w w':=by
 have o1:Out 0 0 w (w.alloc (Dz 0 0 111)):=(Out.refl 0 0 w).alloc _;have f1:(w.alloc (Dz 0 0 111)).heap[w.heap.size]? = some (Dz 0 0 111):=heap_alloc_new _ _;have nB:=Q3 (z3h (h.quiet o1) iJ);have H1:=Q3 (And.intro o1 f1);clear h iJ o1 f1;go_enter Tryz.func127,Tryz.ntmps127
 go_wp2_with fail;refine nB.out.mono ?_;rintro e w1 ⟨rfl,ho⟩;have fF:=ho.heap H1.out.2 z0;have oB:Out 0 0 w1 (w1.alloc (Ez 0 0 0 0 0 81)):=(Out.refl 0 0 w1).alloc _;have fB:=oB.heap fF z0;obtain⟨F,hF⟩:∃ F,w.heap.size=F:=⟨_,rfl⟩
 rw[hF] at fF fB ⊢;have HFF:=Q3 fB;have HO:=Q3 ((H1.out.1.trans ho).trans oB);have kN:Hid (w.heap.size=F):=hF;obtain⟨e0,e1,e2,e3⟩:=flt_facts fB;clear fF fB oB ho hF;go_wp2;refine q2p (g:=F) Tryz.results127 rfl rfl (z4w HFF.out _ _) ⟨rfl,?_⟩;exact Y5 HO.out (((Out.refl F (F+1) _).setCell (p:=⟨F,0,none⟩) z1 _).setCell (p:=⟨F,1,none⟩) z1 _) (.inl (by have:=kN.out;omega))
theorem q2n (h:RfAt w lo hi s n cw co st) {a:Nat} (ha:a<64*n) (hb:Y6 (st.O a)=true):Kz 127 #[Pq (s 0),Iz (a:Int)] w fun e w'=>e=.returned (if st.W a=B6 a (st.O a).1 (st.O a).2.1 then z7d 0 0 else z7d 21 a)/\Out 0 0 w w':=by
 have h2:=h.n2;have o1:Out 0 0 w (w.alloc (Dz 0 0 111)):=(Out.refl 0 0 w).alloc _;have f1:(w.alloc (Dz 0 0 111)).heap[w.heap.size]? = some (Dz 0 0 111):=heap_alloc_new _ _;obtain⟨k,z,x,t,hO⟩:∃ k z x t,st.O a=(k,z,x,t):=⟨_,_,_,_,rfl⟩
 have nB:=Q3 (z3i (h.quiet o1) ha hb hO);rw[hO];dsimp only;obtain⟨y,hy⟩:∃ y,st.W a=y:=⟨_,rfl⟩
 obtain⟨v,hv⟩:∃ v,B6 (a:Int) k z=v:=⟨_,rfl⟩
 have HMk:=Q3 (fun w=>z9g (a:Int) k z w);rw[hv] at HMk ⊢;rw[hy];obtain⟨M,hM⟩:∃ M,64*n=M:=⟨_,rfl⟩
 have a0:(0:Int)<=(a:Int):=by omega
 have a1:(a:Int)<(M:Int):=by omega
 have a2:(M:Int)<=262144:=by omega
 have H1:=Q3 (And.intro o1 f1);have HR:=Q3 (And.intro h (And.intro hM (And.intro hy ha)));clear h hb o1 f1 hO hy hv hM ha h2;go_enter Tryz.func127,Tryz.ntmps127
 go_wp2_with fail;refine nB.out.mono ?_;rintro e w1 ⟨rfl,ho⟩;have fF:=ho.heap H1.out.2 z0;have bM:=Q3 (And.intro (H1.out.1.trans ho) fF);clear ho fF nB;go_wp2_with fail;obtain⟨W2,jL⟩:∃ W,w1.alloc (Ez (a:Int) k z x t 81)=W:=⟨_,rfl⟩
 obtain⟨B,hB⟩:∃ B,w1.heap.size=B:=⟨_,rfl⟩
 obtain⟨F,hF⟩:∃ F,w.heap.size=F:=⟨_,rfl⟩
 have o2:Out 0 0 w1 W2:=by rw[<-jL];exact(Out.refl 0 0 w1).alloc _
 have fB:W2.heap[B]? = some (Ez (a:Int) k z x t 81):=by rw[<-jL,<-hB];exact heap_alloc_new _ _
 have aH:=Q3 (bM.out.1.trans o2);have eJ:Hid (W2.heap[F]? = some (Dz 0 0 111)/\w.heap.size=F):=⟨by rw[<-hF];exact o2.heap bM.out.2 z0,hF⟩
 have iD:=HR.out.1.quiet aH.out;have c0:=iD.cells.1;rw[HR.out.2.1] at c0;have d0:=iD.rw.cell (i:=a) HR.out.2.2.2;rw[HR.out.2.2.1] at d0;have b1:cq W2 B 1=some (Iz k):=by simp[World.cell?,fB]
 have b2:cq W2 B 2=some (Iz z):=by simp[World.cell?,fB]
 rw[jL,hB];(try rw[hF]);clear jL hB hF o2 fB iD;refine wp_region_held_drew (S:=fun w'=>cq w' (s 0) 0=some (.slice (some ⟨s 1,0,none⟩) M cw)/\cq w' (s 1) a=some (Iz y)/\cq w' B 1=some (Iz k)/\cq w' B 2=some (Iz z)) (by kernel_rfl) ?hS1 (fun aB=>?rest1)
 case hS1=>exact⟨c0,d0,b1,b2⟩
 obtain⟨Z3,hZ⟩:∃ Z,W2.drew=Z:=⟨_,rfl⟩
 have OZ3:Out 0 0 W2 Z3:=by rw[<-hZ];exact(Out.refl 0 0 W2).drew
 rw[hZ] at aB ⊢;clear hZ;refine tk 0 ?_;refine tk 1 ?_;refine tk 2 ?_;refine tk 3 ?_;refine tk 4 ?_;refine tk 5 ?_;refine tk 6 ?_;refine tk 7 ?_;refine tk 8 ?_;refine tk 9 ?_;refine tk 10 ?_;refine tk 11 ?_;refine rd1 12 fun KK hK=>?_
 go_simp;refine Q4 (HMk.out _) ?_;refine hK.out _ _ (aB) fun aB=>?_
 clear hK KK;refine tk 13 ?_;refine dn ?_;clear aB;have fF:=OZ3.heap eJ.out.1 z0;obtain⟨e0,e1,e2,e3⟩:=flt_facts fF;have HFF:=Q3 fF;have bU:=Q3 (aH.out.trans OZ3);clear fF OZ3 c0 d0 b1 b2;by_cases hyv:y=v
 ·have hyb:(y != v)=false:=by simp[hyv]
  go_wp2;refine q2p (g:=F) Tryz.results127 rfl rfl (z4w HFF.out _ _) ⟨rfl,?_⟩;exact Y5 bU.out (((Out.refl F (F+1) _).setCell (p:=⟨F,0,none⟩) z1 _).setCell (p:=⟨F,1,none⟩) z1 _) (.inl (by have:=eJ.out.2;omega))
 ·have hyb:(y != v)=true:=by simpa using hyv
  go_wp2;refine q2p (g:=F) Tryz.results127 rfl rfl (z4w HFF.out _ _) ⟨rfl,?_⟩;exact Y5 bU.out (((Out.refl F (F+1) _).setCell (p:=⟨F,0,none⟩) z1 _).setCell (p:=⟨F,1,none⟩) z1 _) (.inl (by have:=eJ.out.2;omega))
end
section
variable {w:World} {lo hi n cw co:Nat} {s:Nat->Nat} {st:Sp}
theorem z4i (h:RfAt w lo hi s n cw co st) (hI:Inv n st) (a:Int):Calls Tryz.prog 127 #[.pointer (some ⟨s 0,0,none⟩),.int .i64 a] w fun e w'=>e=.returned (z7d (z6e (Q6 n st) a) (z4z (Q6 n st) a))/\Out 0 0 w w':=by
 by_cases hb:0<=a/\Y6 (st.O a.toNat)=true
 ·obtain⟨k,rfl⟩:∃ k:Nat,a=(k:Int):=⟨a.toNat,by omega⟩
  have e:((k:Nat):Int).toNat=k:=by omega
  rw[e] at hb;have hm:(Q6 n st).M (k:Int)=some (st.O k):=by
   show obM st (k:Int)=_
   unfold obM;rw[e,if_pos hb]
  refine(q2n h (hI.objs k hb.2).1 hb.2).mono ?_;rintro e1 w' ⟨rfl,ho⟩;refine⟨?_,ho⟩;unfold z6e z4z;rw[hm,e]
  show Ending.returned (if st.W k=_ then _ else _)=.returned (z7d (if st.W k=B6 k (st.O k).1 (st.O k).2.1 then 0 else 21) (if st.W k=B6 k (st.O k).1 (st.O k).2.1 then 0 else k))
  split <;> rfl
 ·have hm:(Q6 n st).M a=none:=by
   show obM st a=_
   unfold obM;rw[if_neg hb]
  refine(q2m h fun k e hk=>?_).mono ?_
  ·cases hh:Y6 (st.O k) with
   | false=>rfl
   | true=>exact absurd ⟨by omega,by rw[e,show ((k:Nat):Int).toNat=k from by omega];exact hh⟩ hb
  ·rintro e1 w' ⟨rfl,ho⟩;refine⟨?_,ho⟩;unfold z6e z4z;rw[hm]
theorem q8b (h:RfAt w lo hi s n cw co st) (hI:Inv n st) (a i:Int):Kz 145 #[Pq (s 0),Iz a,Iz i] w fun e w'=>e=.returned (z7d (q3a (Q6 n st) a i) (z4z (Q6 n st) a))/\Out 0 0 w w':=by
 have h2:=h.n2;have o1:Out 0 0 w (w.alloc (Dz 0 0 111)):=(Out.refl 0 0 w).alloc _;have f1:(w.alloc (Dz 0 0 111)).heap[w.heap.size]? = some (Dz 0 0 111):=heap_alloc_new _ _;have hC:=z4i (h.quiet o1) hI a;obtain⟨e1,he1⟩:∃ e1,z6e (Q6 n st) a=e1:=⟨_,rfl⟩
 obtain⟨e2,oQ⟩:∃ e2,z4z (Q6 n st) a=e2:=⟨_,rfl⟩
 obtain⟨e3,he3⟩:∃ e3,q3a (Q6 n st) a i=e3:=⟨_,rfl⟩
 rw[he1,oQ] at hC;unfold z7d at hC;rw[oQ,he3];have HC:=Q3 hC;have H1:=Q3 (And.intro o1 f1);have HR:=Q3 (And.intro h hI);have HE:=Q3 (And.intro he1 (And.intro oQ he3));clear h hI hC o1 f1 he1 oQ he3;go_enter Tryz.func145,Tryz.ntmps145
 go_wp2_with fail;refine HC.out.mono ?_;rintro e w1 ⟨rfl,ho⟩;have fF:=ho.heap H1.out.2 z0;have oB:Out 0 0 w1 (w1.alloc (Dz e1 e2 111)):=(Out.refl 0 0 w1).alloc _;have fB:=oB.heap fF z0;obtain⟨F,hF⟩:∃ F,w.heap.size=F:=⟨_,rfl⟩
 rw[hF] at fF fB ⊢;have dD:=Q7 fF;have HFF:=Q3 fB;have HO:=Q3 ((H1.out.1.trans ho).trans oB);have kN:Hid (w.heap.size=F):=hF;obtain⟨x0,x1,x2,x3⟩:=flt_facts fB;have fG:w1.heap.size ≠ F:=by omega
 by_cases h0:e1=0
 ·subst h0;have hRw:=HR.out.1.quiet HO.out;obtain⟨b,hb,hM⟩:∃ b,(Q6 n st).M a=some b/\e2=0:=by
   have q1:=HE.out.1;have q2:=HE.out.2.1;unfold z6e at q1;unfold z4z at q2;cases hm:(Q6 n st).M a with
   | none=>rw[hm] at q1;cases q1
   | some b=>
    rw[hm] at q1 q2;dsimp only at q1 q2;refine⟨b,rfl,?_⟩;split at q1
    ·next hc=>rw[if_pos hc] at q2;omega
    ·cases q1
  subst hM;obtain⟨k,rfl,hk⟩:=j5k HR.out.2 a b hb;have jK:Y6 (st.O k)=true/\b=st.O k:=by
   have:obM st (k:Int)=some b:=hb;unfold obM at this;rw[show ((k:Nat):Int).toNat=k from by omega] at this;split at this
   ·next hc=>injection this with this;exact⟨hc.2,this.symm⟩
   ·cases this
  obtain⟨o0,p1,p2,p3,p4⟩:=q4e (st:=st) jK.1;have c2:=hRw.cells.2.2.1;obtain⟨M,hM⟩:∃ M,64*n=M:=⟨_,rfl⟩
  rw[hM] at c2;have d2:=hRw.ro.cell (i:=k*5+2) (by omega);rw[p2,<-jK.2] at d2;obtain⟨z,hz⟩:∃ z,b.2.1=z:=⟨_,rfl⟩
  rw[hz] at d2;have k0:(0:Int)<=(k:Int):=by omega
  have k1:(k:Int)<(M:Int):=by omega
  have k2:(M:Int)<=262144:=by omega
  have hq:e3=if i<1\/z<=i then 23 else 0:=by
   rw[<-HE.out.2.2];have q1:=HE.out.1;unfold z6e at q1;unfold q3a;rw[hb] at q1 ⊢;dsimp only at q1 ⊢;split at q1
   ·next hc=>rw[if_pos hc,hz]
   ·cases q1
  have HQ:=Q3 hq;clear fF fB oB ho hF hRw hb hk jK o0 p1 p2 p3 p4 hM hz dD h2;by_cases hi1:i<1
  ·go_wp2;refine q2p (g:=F) Tryz.results145 rfl rfl (z4w HFF.out _ _) ⟨by rw[HQ.out,if_pos (.inl hi1)],?_⟩;exact Y5 HO.out (((Out.refl F (F+1) _).setCell (p:=⟨F,0,none⟩) z1 _).setCell (p:=⟨F,1,none⟩) z1 _) (.inl (by have:=kN.out;omega))
  ·by_cases hi2:z<=i
   ·go_wp2;refine q2p (g:=F) Tryz.results145 rfl rfl (z4w HFF.out _ _) ⟨by rw[HQ.out,if_pos (.inr hi2)],?_⟩;exact Y5 HO.out (((Out.refl F (F+1) _).setCell (p:=⟨F,0,none⟩) z1 _).setCell (p:=⟨F,1,none⟩) z1 _) (.inl (by have:=kN.out;omega))
   ·go_wp2;refine q2p (g:=F) Tryz.results145 rfl rfl (z4w HFF.out _ _) ⟨by rw[HQ.out,if_neg (by omega)],?_⟩;exact Y5 HO.out (((Out.refl F (F+1) _).setCell (p:=⟨F,0,none⟩) z1 _).setCell (p:=⟨F,1,none⟩) z1 _) (.inl (by have:=kN.out;omega))
 ·have hq:e3=e1:=by
   rw[<-HE.out.2.2,<-HE.out.1];exact wrdA _ _ _ (by rw[HE.out.1];exact h0)
  have HQ:=Q3 hq;have h0b:(e1 != 0)=true:=by simpa using h0
  clear fF fB oB ho hF hq dD h2;go_wp2;refine q2p (g:=F) Tryz.results145 rfl rfl (z4w HFF.out _ _) ⟨by rw[HQ.out],?_⟩;exact Y5 HO.out (((Out.refl F (F+1) _).setCell (p:=⟨F,0,none⟩) z1 _).setCell (p:=⟨F,1,none⟩) z1 _) (.inl (by have:=kN.out;omega))
end
end Go.Proofs.YtjgnogflgoihfaaGreatDoor
