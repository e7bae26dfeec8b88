import Derived.Test.YtjbbkeoolodeaabGreatDoorB36
namespace Go.Proofs.YtjbbkeoolodeaabGreatDoor
open Go.RowKit
set_option linter.unusedVariables false
set_option maxRecDepth 100000
set_option maxHeartbeats 16000000
set_option linter.unusedSimpArgs false
theorem q4u (k:Int) (w:World):Calls Tryz.prog 112 #[.int .i64 k] w fun e w'=>e=.returned (.bool (z9w k))/\w'=w:=by
 unfold z9w;go_enter Tryz.func112,Tryz.ntmps112
 go_wp2
 all_goals go_ret
 all_goals refine⟨K8 ?_,rfl⟩
 all_goals (rw[Bool.eq_iff_iff];simp;try omega)
section
variable {w:World} {lo hi n cw co:Nat} {s:Nat->Nat} {st:Sp}
theorem q5y {z:Int} {a:Nat} {fresh:Bool} (hI:Inv n st) (z1:1<=z) (z2:z<=1024) (hp:K5 n st z=some (a,fresh)) :
  a+J3 z<=64*n/\a<64*n/\((32<z/\fresh=false/\∃ p,a=64*p/\U2 st.S n ((z+63) / 64).toNat=some p)\/(z<=32/\fresh=false)\/(z<=32/\fresh=true/\a+64<=64*n/\∃ p,a=64*p/\U2 st.S n 1=some p/\¬ 0<=nf n st (ofV z) 0)):=by
 unfold K5 at hp;unfold J3;by_cases h:32<z
 ·rw[if_pos h] at hp ⊢;obtain⟨p,hr,e⟩:=Option.map_eq_some_iff.1 hp;simp only[Prod.mk.injEq] at e;obtain⟨rfl,rfl⟩:=e;have hq:=G3 hr;have:=z6f h z2;exact⟨by omega,by omega,.inl ⟨h,rfl,p,rfl,hr⟩⟩
 ·rw[if_neg h] at hp ⊢;have hs:=W9 z1 (by omega);have hw:=z4l hs.1 hs.2.1;by_cases h0:0<=nf n st (ofV z) 0
  ·rw[if_pos h0] at hp;simp only[Option.some.injEq,Prod.mk.injEq] at hp;obtain⟨e,rfl⟩:=hp;unfold nf at h0 e;rcases Q1 (fr n st (ofV z)) (64*n) 0 with ⟨q,_⟩ | ⟨i,q,i1,i2,i3,i4⟩
   ·rw[q] at h0;omega
   ·rw[q] at e;obtain rfl:i=a:=by omega
    obtain⟨f1,f2,f3,f4⟩:=fr_iff.1 i3;unfold K7 at f3;simp only[Bool.and_eq_true,decide_eq_true_eq] at f3;exact⟨by omega,by omega,.inr (.inl ⟨by omega,rfl⟩)⟩
  ·rw[if_neg h0] at hp;obtain⟨p,hr,e⟩:=Option.map_eq_some_iff.1 hp;simp only[Prod.mk.injEq] at e;obtain⟨rfl,rfl⟩:=e;have hq:=G3 hr;exact⟨by omega,by omega,.inr (.inr ⟨by omega,rfl,by omega,p,rfl,hr,h0⟩)⟩
def q0q (st:Sp) (a:Nat) (fresh:Bool) (k z t:Int):Sp:=⟨st.W,Y0 st a fresh z,U4 st.O a (k,z,Q9 st k,t),U8 st k⟩
def j8n (n:Nat) (st:Sp) (a:Nat) (fresh:Bool) (k z t:Int):Nat->Int:=if fresh then z8m n { q0q st a fresh k z t with W:=U9 st.W a 64 } (ofV z) else st.W
theorem j9o (a:Nat) (fresh:Bool) (k z t:Int):V8 n st a fresh k z t={ q0q st a fresh k z t with W:=z5b (U9 (j8n n st a fresh k z t) a (J3 z)) a (X9 a k z) }:=rfl
theorem z7p (h:RfAt w lo hi s n cw co st) (hI:Inv n st) {a:Nat} {fresh:Bool} {k z t:Int} (hf:W8 k z=true) (hp:K5 n st z=some (a,fresh)) (hl:st.last<9223372036854775807) :
  Calls Tryz.prog 60 #[.pointer (some ⟨s 0,0,none⟩),.int .i64 (a:Int),.bool fresh,.int .i64 k,.int .i64 z,.int .i64 t] w fun e w'=>(∃ v,e=.returned v)/\RfAt w' lo hi s n cw co (V8 n st a fresh k z t)/\Out lo hi w w':=by
 have hz:=J8 hf;obtain⟨hroom,ha,hcase⟩:=q5y hI hz.2.2.1 hz.2.2.2 hp;have h2:=h.n2;have h1:=h.n1;obtain⟨M,hM⟩:∃ M,64*n=M:=⟨_,rfl⟩
 obtain⟨c,hc⟩:∃ c:Int,ofV z=c:=⟨_,rfl⟩
 have HOf:=Z0 (fun w=>z1u z w);have HNb:=Z0 (fun w=>q4u k w);have HMk:=Z0 (fun w=>z7y (a:Int) k z w);have HRm:=Z0 (fun w=>z6y hz.2.2.1 hz.2.2.2 w);rw[hc] at HOf;have a0:(0:Int)<=(a:Int):=by omega
 have a1:(a:Int)<(M:Int):=by omega
 have a2:(M:Int)<=262144:=by omega
 have l0:=hI.last0;obtain⟨rm,hrm⟩:∃ rm,J3 z=rm:=⟨_,rfl⟩
 obtain⟨hd,hhd⟩:∃ hd,X9 (a:Int) k z=hd:=⟨_,rfl⟩
 rw[hrm] at HRm;rw[hhd] at HMk;have HF:=Z0 (And.intro hroom (And.intro ha (And.intro hcase (And.intro hM (And.intro hc (And.intro hrm (And.intro hhd (And.intro h1 (And.intro h2 (And.intro hz (And.intro l0 (And.intro hl hI))))))))))));have HH:=Z0 h;have hk0:k ≠ 0:=by omega
 clear h hI hf hp hz hroom ha hcase h1 h2 hM hc hrm hhd l0 hl;go_enter Tryz.func60,Tryz.ntmps60
 go_wp2_with fail;refine Z5 (HOf.out _) ?_;rename_i Q0 KA hKA K0 hK0
 have HKA0:=Z0 hKA;clear hKA;go_wp2_with fail;refine HKA0.out _ _ ?_;clear HKA0;apply wp_seq_k;intro KA2 hKA2;have HKA:Hid (∀ (W:World) (u18 u19 u20 u21 u22 u23 u24 u25 u26 u27 u28 u29 u30 u31 u32 u33 u34 u35:Value),RfAt W lo hi s n cw co { st with S:=Y0 st a fresh z }->Out lo hi w W->KA2 { tmps:=#[.pointer (some ⟨s 0,0,none⟩),.int .i64 (a:Int),.bool fresh,.int .i64 k,.int .i64 z,.int .i64 t,undef,undef,undef,undef,undef,undef,.int .i64 c,undef,undef,undef,.int .i64 z,.int .i64 c,u18,u19,u20,u21,u22,u23,u24,u25,u26,u27,u28,u29,u30,u31,u32,u33,u34,u35,undef,undef,undef,undef,undef,undef,undef,undef,undef,undef,undef,undef,undef,undef,undef,undef,undef,undef,undef,undef,undef,undef,undef,undef,undef,undef,undef,undef,undef,undef,undef,undef,undef,undef,undef,undef,undef,undef,undef,undef,undef,undef,undef,undef,undef,undef,undef,undef,undef,undef,undef,undef,undef,undef,undef,undef,undef,undef,undef,undef,undef,undef,undef,undef,undef,undef,undef,undef,undef,undef,undef,undef,undef,undef],defers:=[] } W):=by
  intro W u18 u19 u20 u21 u22 u23 u24 u25 u26 u27 u28 u29 u30 u31 u32 u33 u34 u35 hR hO;apply hKA2;clear hKA2;have hRq:=hR.quiet ((Out.refl 0 0 W).alloc (.cells #[.int .i64 (a:Int),.int .i64 k,.int .i64 z,.int .i64 0,.int .i64 t] 97));obtain⟨_,_,_,c3,c4⟩:=hRq.cells;have c4':=c4 3;obtain⟨L,hL⟩:∃ L,st.last=L:=⟨_,rfl⟩
  have l0:=HF.out.2.2.2.2.2.2.2.2.2.2.1;have l1:=HF.out.2.2.2.2.2.2.2.2.2.2.2.1;dsimp only at c3;rw[hL] at c3 l0 l1;have HR:=Z0 (And.intro hR (And.intro hO (And.intro hRq hL)));have hne:s 0 ≠ W.heap.size:=by have:=hR.inn 0 (by omega);have:=hR.top;omega
  clear hR hO hRq c4 hL;go_wp2_with fail;rename_i KB hKB K1 hK1 K2 hK2
  obtain⟨B,hB⟩:∃ B,W.heap.size=B:=⟨_,rfl⟩
  have HBq:Hid (hi<=B):=by have:=HR.out.1.top;show _<=_;omega
  have HKB:Hid (∀ (X:World) (u18 u19 u20 u21 u22 u23 u24 u25 u26 u27 u28 u29 u30 u31 u32 u33 u34 u35 u36 u37 u38 u39 u40 u41 u42 u43 u44 u45 u46 u47 u48 u49 u50 u51 u52 u53 u54:Value),RfAt X lo hi s n cw co { st with S:=Y0 st a fresh z,last:=U8 st k }->X.heap[B]? = some (.cells #[.int .i64 (a:Int),.int .i64 k,.int .i64 z,.int .i64 (Q9 st k),.int .i64 t] 97 (0,0))->Out lo hi w X->KB { tmps:=#[.pointer (some ⟨s 0,0,none⟩),.int .i64 (a:Int),.bool fresh,.int .i64 k,.int .i64 z,.int .i64 t,undef,undef,undef,undef,undef,undef,.int .i64 c,.pointer (some ⟨B,0,none⟩),undef,undef,.int .i64 z,.int .i64 c,u18,u19,u20,u21,u22,u23,u24,u25,u26,u27,u28,u29,u30,u31,u32,u33,u34,u35,u36,u37,u38,u39,u40,u41,u42,u43,u44,u45,u46,u47,u48,u49,u50,u51,u52,u53,u54,undef,undef,undef,undef,undef,undef,undef,undef,undef,undef,undef,undef,undef,undef,undef,undef,undef,undef,undef,undef,undef,undef,undef,undef,undef,undef,undef,undef,undef,undef,undef,undef,undef,undef,undef,undef,undef,undef,undef,undef,undef,undef,undef,undef,undef,undef,undef,undef,undef,undef,undef,undef,undef,undef,undef],defers:=[] } X):=by
   intro X u18 u19 u20 u21 u22 u23 u24 u25 u26 u27 u28 u29 u30 u31 u32 u33 u34 u35 u36 u37 u38 u39 u40 u41 u42 u43 u44 u45 u46 u47 u48 u49 u50 u51 u52 u53 u54 hR hBx hO;apply hKB;clear hKB hK1 hK2 K1 K2 c3 c4' HNb;obtain⟨sr,hsr⟩:∃ sr,Q9 st k=sr:=⟨_,rfl⟩
   rw[hsr] at hBx;have HSer:=Z0 hsr;have c2:=hR.cells.2.2.1;rw[HF.out.2.2.2.1] at c2;have hBq:=HBq.out;have h4:=hR.inn 4 (by omega);have hB4:B<s 4\/s 4+1<=B:=.inr (by omega);have b0:X.cell? ⟨B,0,none⟩=some (.int .i64 (a:Int)):=by simp[World.cell?,hBx]
   have b1:X.cell? ⟨B,1,none⟩=some (.int .i64 k):=by simp[World.cell?,hBx]
   have b2:X.cell? ⟨B,2,none⟩=some (.int .i64 z):=by simp[World.cell?,hBx]
   have b3:X.cell? ⟨B,3,none⟩=some (.int .i64 sr):=by simp[World.cell?,hBx]
   have b4:X.cell? ⟨B,4,none⟩=some (.int .i64 t):=by simp[World.cell?,hBx]
   have HRX:=Z0 (And.intro hR hBx);clear hR hBx hsr h4 hBq;go_wp2_with fail;refine wp_region_held_drew (S:=fun w'=>w'.cell? ⟨s 0,2,none⟩=some (.slice (some ⟨s 4,0,none⟩) M co)/\w'.cell? ⟨B,0,none⟩=some (.int .i64 (a:Int))/\w'.cell? ⟨B,1,none⟩=some (.int .i64 k)/\w'.cell? ⟨B,2,none⟩=some (.int .i64 z)/\w'.cell? ⟨B,3,none⟩=some (.int .i64 sr)/\w'.cell? ⟨B,4,none⟩=some (.int .i64 t)) (by kernel_rfl) ?hS41 (fun hHeld=>?rest41)
   case hS41=>exact⟨c2,b0,b1,b2,b3,b4⟩
   obtain⟨Z,hZ⟩:∃ Z,X.drew=Z:=⟨_,rfl⟩
   have OZ:Out 0 0 X Z:=by rw[<-hZ];exact(Out.refl 0 0 _).drew
   rw[hZ] at hHeld ⊢;clear hZ;refine tk 0 ?_;refine tk 1 ?_;refine tk 2 ?_;refine tk 3 ?_;refine tk 4 ?_;refine tk 5 ?_;refine tk 6 ?_;refine rd1 7 fun KK hK=>?_
   simp only[xa,xb,xc];have hRd:=HRX.out.1.quiet OZ;have am:=HF.out.2.1;have y0:=hRd.ro.cell (i:=a*5) (by omega);have y1:=hRd.ro.cell (i:=a*5+1) (by omega);have y2:=hRd.ro.cell (i:=a*5+2) (by omega);have y3:=hRd.ro.cell (i:=a*5+3) (by omega);have y4:=hRd.ro.cell (i:=a*5+4) (by omega);have q0:=hRd.ro.frozen (a*5);have q1:=hRd.ro.frozen (a*5+1);have q2:=hRd.ro.frozen (a*5+2);have q3:=hRd.ro.frozen (a*5+3);have q4:=hRd.ro.frozen (a*5+4);clear hRd am;go_simp;obtain⟨Y,hY⟩:∃ Y,j1p Z (s 4) a (a:Int) k z sr t=Y:=⟨_,rfl⟩
   have oY:Out (s 4) (s 4+1) Z Y:=by rw[<-hY];exact q0c _ _ _ _ _ _ _ _
   have rY:RfAt Y lo hi s n cw co { st with S:=Y0 st a fresh z,last:=U8 st k,O:=U4 st.O a (k,z,sr,t) }/\Out lo hi Z Y:=by
    rw[<-hY];exact(HRX.out.1.quiet OZ).setO HF.out.2.1 hk0
   unfold j1p at hY;rw[hY];clear hY y0 y1 y2 y3 y4 q0 q1 q2 q3 q4;refine hK.out _ _ ?hS49 (fun hHeld2=>?rest49)
   case hS49=>exact⟨oY.cell hHeld.1 (HRX.out.1.apart (by omega) (by omega) (by omega)),oY.cell hHeld.2.1 hB4,oY.cell hHeld.2.2.1 hB4,oY.cell hHeld.2.2.2.1 hB4,oY.cell hHeld.2.2.2.2.1 hB4,oY.cell hHeld.2.2.2.2.2 hB4⟩
   clear hK KK;replace hHeld:=hHeld2;clear hHeld2;refine dn ?_;clear hHeld oY b0 b1 b2 b3 b4 c2;have HY:=Z0 (And.intro rY.1 ((hO.trans (OZ.any lo hi)).trans rY.2));clear rY hO;rename_i K9 hK9
   apply hK9;clear hK9;apply wp_seq_k;intro KC hKC;have HY2:Hid (RfAt Y lo hi s n cw co (q0q st a fresh k z t)/\Out lo hi w Y):=by
    refine⟨?_,HY.out.2⟩;unfold q0q;rw[HSer.out];exact HY.out.1
   clear HY HRX HSer OZ;have HKC:Hid (∀ (V:World) (u14 u15 u18 u19 u20 u21 u22 u23 u24 u25 u26 u27 u28 u29 u30 u31 u32 u33 u34 u35 u36 u37 u38 u39 u40 u41 u42 u43 u44 u45 u46 u47 u48 u49 u50 u51 u52 u53 u54 u55 u56 u57 u58 u59 u60 u61 u62 u63 u64 u65 u66 u67 u68 u69 u70 u71 u72 u73 u74 u75 u76 u77 u78 u79 u80 u81 u82 u83 u84 u85 u86 u87 u88 u89 u90 u91 u92 u93 u94:Value),RfAt V lo hi s n cw co { q0q st a fresh k z t with W:=j8n n st a fresh k z t }->Out lo hi w V->KC { tmps:=#[.pointer (some ⟨s 0,0,none⟩),.int .i64 (a:Int),.bool fresh,.int .i64 k,.int .i64 z,.int .i64 t,undef,undef,undef,undef,undef,undef,.int .i64 c,.pointer (some ⟨B,0,none⟩),u14,u15,.int .i64 z,.int .i64 c,u18,u19,u20,u21,u22,u23,u24,u25,u26,u27,u28,u29,u30,u31,u32,u33,u34,u35,u36,u37,u38,u39,u40,u41,u42,u43,u44,u45,u46,u47,u48,u49,u50,u51,u52,u53,u54,u55,u56,u57,u58,u59,u60,u61,u62,u63,u64,u65,u66,u67,u68,u69,u70,u71,u72,u73,u74,u75,u76,u77,u78,u79,u80,u81,u82,u83,u84,u85,u86,u87,u88,u89,u90,u91,u92,u93,u94,undef,undef,undef,undef,undef,undef,undef,undef,undef,undef,undef,undef,undef,undef,undef],defers:=[] } V):=by
    intro V0 u14 u15 u18 u19 u20 u21 u22 u23 u24 u25 u26 u27 u28 u29 u30 u31 u32 u33 u34 u35 u36 u37 u38 u39 u40 u41 u42 u43 u44 u45 u46 u47 u48 u49 u50 u51 u52 u53 u54 u55 u56 u57 u58 u59 u60 u61 u62 u63 u64 u65 u66 u67 u68 u69 u70 u71 u72 u73 u74 u75 u76 u77 u78 u79 u80 u81 u82 u83 u84 u85 u86 u87 u88 u89 u90 u91 u92 u93 u94 hR hO;apply hKC;clear hKC;have HWp:=Z0 (z7w hR (a:=a) (k:=rm) (by have:=HF.out.2.2.2.2.2.1;have:=HF.out.1;omega));have HO:=Z0 hO;clear hR hO;go_wp2_with (first | (go_at_call 83;refine Z5 (HRm.out _) ?_) | (go_at_call 113;refine HWp.out.mono ?_;rintro e V ⟨⟨v,rfl⟩,hRV,hOV⟩;have HRV:=Z0 (And.intro hRV (HO.out.trans hOV));have c0:=hRV.cells.1;rw[HF.out.2.2.2.1] at c0;clear hRV hOV));refine wp_region_held_drew (S:=fun w'=>w'.cell? ⟨s 0,0,none⟩=some (.slice (some ⟨s 1,0,none⟩) M cw)) (by kernel_rfl) ?hS1 (fun hHeld=>?rest1)
    case hS1=>exact c0
    obtain⟨Z2,hZ⟩:∃ Z,V.drew=Z:=⟨_,rfl⟩
    have OZ:Out 0 0 V Z2:=by rw[<-hZ];exact(Out.refl 0 0 _).drew
    rw[hZ] at hHeld ⊢;clear hZ;refine tk 0 ?_;refine tk 1 ?_;refine tk 2 ?_;refine tk 3 ?_;refine tk 4 ?_;refine tk 5 ?_;refine tk 6 ?_;refine tk 7 ?_;refine rd1 8 fun KK hK=>?_
    simp only[xa,xb,xc];go_simp;refine Z5 (HMk.out _) ?_;refine hK.out _ _ ?hS10 (fun hHeld2=>?rest10)
    case hS10=>exact hHeld
    clear hK KK;replace hHeld:=hHeld2;clear hHeld2;refine tk 9 ?_;refine rd1 10 fun KK hK=>?_
    simp only[xa,xb,xc];have hRd:=HRV.out.1.quiet OZ;have am:=HF.out.2.1;have y0:=hRd.rw.cell (i:=a) am;have q0:=hRd.rw.frozen a;clear am hRd;go_simp;obtain⟨Y3,hY3⟩:∃ Y,Z2.setCell ⟨s 1,a,none⟩ (.int .i64 hd)=Y:=⟨_,rfl⟩
    have rY:=(HRV.out.1.quiet OZ).setW HF.out.2.1 hd;have oY:Out (s 1) (s 1+1) Z2 Y3:=by rw[<-hY3];exact(Out.refl _ _ _).setCell (p:=⟨s 1,a,none⟩) (.inl ⟨Nat.le_refl _,Nat.lt_succ_self _⟩) _
    rw[hY3] at rY ⊢;clear hY3 y0 q0;refine hK.out _ _ ?hS12 (fun hHeld2=>?rest12)
    case hS12=>exact oY.cell hHeld (HRV.out.1.apart (by omega) (by omega) (by omega))
    clear hK KK;replace hHeld:=hHeld2;clear hHeld2;refine dn ?_;clear hHeld oY c0;have HE:=Z0 (And.intro rY.1 ((HRV.out.2.trans (OZ.any lo hi)).trans rY.2));clear rY;go_wp2;refine bodyPost_end (results_none Tryz.results60 _ _ _) rfl ⟨⟨_,rfl⟩,?_,HE.out.2⟩;rw[j9o,HF.out.2.2.2.2.2.1,HF.out.2.2.2.2.2.2.1];exact HE.out.1
   clear hKC;cases fresh with
   | false=>
    go_wp2_with fail;exact HKC.out _ _ _ _ _ _ _ _ _ _ _ _ _ _ _ _ _ _ _ _ _ _ _ _ _ _ _ _ _ _ _ _ _ _ _ _ _ _ _ _ _ _ _ _ _ _ _ _ _ _ _ _ _ _ _ _ _ _ _ _ _ _ _ _ _ _ _ _ _ _ _ _ _ _ _ _ _ _ _ _ HY2.out.1 HY2.out.2
   | true=>
    obtain⟨z32,a64,p,hpa,hrow,hnf⟩:z<=32/\a+64<=64*n/\∃ p,a=64*p/\U2 st.S n 1=some p/\¬ 0<=nf n st (ofV z) 0:=by
     rcases HF.out.2.2.1 with ⟨_,e,_⟩ | ⟨_,e⟩ | ⟨e1,_,e2⟩
     ·cases e
     ·cases e
     ·obtain⟨e3,p,e4,e5,e6⟩:=e2;exact⟨e1,e3,p,e4,e5,by omega⟩
    have hz:=HF.out.2.2.2.2.2.2.2.2.2.1;have hI:=HF.out.2.2.2.2.2.2.2.2.2.2.2.2;have hs:=W9 hz.2.2.1 z32;have hcc:=HF.out.2.2.2.2.1;rw[hcc] at hs hnf;obtain⟨cN,hcN⟩:∃ cN:Nat,c=(cN:Int):=⟨c.toNat,by omega⟩
    obtain⟨Bk,zw,hBk,hzw,hzN,z1',z2',B1,B2,Bz1,Bz2⟩:=j7c (c:=cN) (by omega);rw[<-hcN] at hBk hzw hzN;have hfr:=q8j hI hs.1 hs.2.1 hnf hrow (b:=(k,z,Q9 st k,t)) (by unfold Q7;simpa using hk0) (U9 st.W a 64) (U8 st k);have hst:(⟨U9 st.W a 64,setC st.S p c,U4 st.O (64*p) (k,z,Q9 st k,t),U8 st k⟩:Sp)={ q0q st a true k z t with W:=U9 st.W a 64 }:=by
     unfold q0q Y0;rw[if_neg (by omega),if_pos rfl,hcc,hpa,show 64*p / 64=p from by omega]
    rw[hst] at hfr;obtain⟨sz,hsz⟩:∃ sz:Sp,{ q0q st a true k z t with W:=U9 st.W a 64 }=sz:=⟨_,rfl⟩
    rw[hsz] at hfr;have hpn:=(G3 hrow).1;have HG:=Z0 (And.intro hfr (And.intro hsz (And.intro hs (And.intro hzN (And.intro Bz1 (And.intro Bz2 (And.intro hpa (And.intro hpn (And.intro a64 (And.intro hzw (And.intro z1' (And.intro z2' hcc))))))))))));have HBk:=Z0 (fun w=>z2g c w);rw[hBk] at HBk;have HSt:=Z0 (fun(i:Int) w=>z5v c i w);have HStV:Hid (∀ i:Nat,i<Bk->z0o c (i:Int)=((i*zw:Nat):Int)):=fun i hi=>by
     unfold z0o;rw[hBk,if_pos ⟨by omega,by omega⟩,hzw];push_cast;rfl
    have b1':(2:Int)<=(Bk:Int):=by omega
    have b2':(Bk:Int)<=32:=by omega
    have HWp:=Z0 (z7w HY2.out.1 (a:=a) (k:=64) a64);rw[show ((64:Nat):Int)=64 from rfl] at HWp;clear hfr hst hsz hs hzN Bz1 Bz2 hpa hpn a64 hzw z1' z2' hcc hz hI hnf hrow hBk hcN z32 B1 B2;go_wp2_with (go_at_call 113;refine HWp.out.mono ?_;rintro e V ⟨⟨v,rfl⟩,hRV,hOV⟩;have HV0:=Z0 (And.intro hRV (HY2.out.2.trans hOV));clear hRV hOV);go_loopw [14] (fun u wr=>∃ i:Nat,u=.int .i64 (i:Int)/\1<=i/\i<=Bk/\RfAt wr lo hi s n cw co { q0q st a true k z t with W:=lkT n sz c (a+i*zw) }/\Out lo hi w wr) (fun u _=>Bk-(intOf u).toNat)
    case atStart=>
     refine⟨1,rfl,Nat.le_refl _,by omega,?_,HV0.out.2⟩;have hG:=HG.out;rw[q1t (fun j hj=>hG.1.first hG.2.2.1.1 hG.2.2.1.2.1 (by omega) j (by rw[hG.2.2.2.1,<-hG.2.2.2.2.2.2.1];exact hj)),<-hG.2.1];exact HV0.out.1
    case round=>
     obtain⟨i,rfl,i1,i2,hR,hO⟩:=hrel;have HRV:=Z0 (And.intro hR hO);have i0:(1:Int)<=(i:Int):=by omega
     by_cases hlt:i<Bk
     ·have il:(i:Int)<(Bk:Int):=by omega
      have hG:=HG.out;have c0:=hR.cells.1;rw[HF.out.2.2.2.1] at c0;obtain⟨q,hq⟩:∃ q,i*zw=q:=⟨_,rfl⟩
      have hSi:=fun w=>HSt.out (i:Int) w
      simp only[HStV.out i hlt,hq] at hSi;have HSi:=Z0 hSi;have hle:(i+1)*zw<=Bk*zw:=Nat.mul_le_mul_right _ hlt;have hsm:(i+1)*zw=i*zw+zw:=Nat.succ_mul i zw;obtain⟨x,hx⟩:∃ x,a+q=x:=⟨_,rfl⟩
      have hNx:=hG.1.next hG.2.2.1.1 hG.2.2.1.2.1 hG.2.2.2.2.2.2.2.1 (B:=Bk) (i:=i) (by rw[hG.2.2.2.1];exact hG.2.2.2.2.1) (by rw[hG.2.2.2.1];exact hG.2.2.2.2.2.1) i1 hlt;rw[hG.2.2.2.1,<-hG.2.2.2.2.2.2.1,hq,hx] at hNx;have hStep:=q6u (n:=n) (st:=sz) (c:=c) (a:=x) (b:=a+(i+1)*zw) (by omega) (by
       have:=hG.1.all i i1 (by rw[hG.2.2.2.1];omega);rw[hG.2.2.2.1,<-hG.2.2.2.2.2.2.1,hq,hx] at this;exact this) (fun j j1 j2=>z2v hG.2.2.1.1 hG.2.2.1.2.1 (p:=p) (i:=i) (by rw[hG.2.2.2.1];omega) (by rw[hG.2.2.2.1,hq,<-hG.2.2.2.2.2.2.1];omega) (by rw[hG.2.2.2.1,<-hG.2.2.2.2.2.2.1];omega))
      have HXM:Hid (x<64*n):=by show _<_;omega
      rw[hq,hx] at HRV;have xm:(x:Int)<(M:Int):=by have:=HF.out.2.2.2.1;omega
      have x0:(a:Int)+(q:Int)=(x:Int):=by omega
      have q0:(0:Int)<=(q:Int):=by omega
      have q1:(q:Int)<=64:=by omega
      have hwx:IntKind.i64.wrap (x:Int)=(x:Int):=by simp[IntKind.wrap,IntKind.signed,IntKind.bits];omega
      by_cases hnx:i+1<Bk
      ·have in1:(i:Int)+1<(Bk:Int):=by omega
       rw[if_pos hnx] at hNx;obtain⟨q',hq'⟩:∃ q',(i+1)*zw=q':=⟨_,rfl⟩
       obtain⟨x',hx'⟩:∃ x',a+q'=x':=⟨_,rfl⟩
       have hSn:=fun w=>HSt.out ((i+1:Nat):Int) w
       simp only[HStV.out (i+1) hnx,hq'] at hSn;rw[show ((i+1:Nat):Int)=(i:Int)+1 from by omega] at hSn;have HSn:=Z0 hSn;rw[hq',hx'] at hNx;have hle2:(i+1+1)*zw<=Bk*zw:=Nat.mul_le_mul_right _ hnx;have hsm2:(i+1+1)*zw=(i+1)*zw+zw:=Nat.succ_mul (i+1) zw;have x0':(a:Int)+(q':Int)=(x':Int):=by omega
       have q2:(q':Int)<=64:=by omega
       have q3:(0:Int)<=(q':Int):=by omega
       have hLk:=fun w=>z0w (x:=(x':Int)) (by omega) (by have:=HF.out.2.2.2.1;omega) w
       rw[hNx] at hStep;obtain⟨lk,hlk⟩:∃ lk,Y7 (x':Int)=lk:=⟨_,rfl⟩
       simp only[hlk] at hLk;rw[hlk] at hStep;have HLk:=Z0 hLk;have HStp:=Z0 hStep;clear hStep hLk hlk hSn hNx hx' hq' hx hq hle hsm hle2 hsm2 hG hR hO hSi;go_wp2_with (first | (go_at_call 110;refine Z5 (HBk.out _) ?_) | (go_at_call 111;refine Z5 (HSn.out _) ?_));refine wp_region_held_drew (S:=fun w'=>w'.cell? ⟨s 0,0,none⟩=some (.slice (some ⟨s 1,0,none⟩) M cw)) (by kernel_rfl) ?hS13 (fun hHeld=>?rest13)
       case hS13=>exact c0
       obtain⟨Z2,hZ⟩:∃ Z,wr.drew=Z:=⟨_,rfl⟩
       have OZ:Out 0 0 wr Z2:=by rw[<-hZ];exact(Out.refl 0 0 _).drew
       rw[hZ] at hHeld ⊢;clear hZ;refine tk 0 ?_;refine tk 1 ?_;refine tk 2 ?_;refine tk 3 ?_;refine tk 4 ?_;refine tk 5 ?_;refine tk 6 ?_;refine tk 9 ?_;refine rd1 7 fun KK hK=>?_
       simp only[xa,xb,xc];go_simp;refine Z5 (HSi.out _) ?_;refine hK.out _ _ ?hS22 (fun hHeld2=>?rest22)
       case hS22=>exact hHeld
       clear hK KK;replace hHeld:=hHeld2;clear hHeld2;refine tk 8 ?_;refine rd1 10 fun KK hK=>?_
       simp only[xa,xb,xc];go_simp;refine Z5 (HLk.out _) ?_;refine hK.out _ _ ?hS24 (fun hHeld2=>?rest24)
       case hS24=>exact hHeld
       clear hK KK;replace hHeld:=hHeld2;clear hHeld2;refine tk 11 ?_;refine rd1 12 fun KK hK=>?_
       simp only[xa,xb,xc];have hRd:=HRV.out.1.quiet OZ;have y0:=hRd.rw.cell (i:=x) HXM.out;have q0:=hRd.rw.frozen x;clear hRd;go_simp;obtain⟨Y3,hY3⟩:∃ Y,Z2.setCell ⟨s 1,x,none⟩ (.int .i64 lk)=Y:=⟨_,rfl⟩
       have rY:=(HRV.out.1.quiet OZ).setW HXM.out lk;have oY:Out (s 1) (s 1+1) Z2 Y3:=by rw[<-hY3];exact(Out.refl _ _ _).setCell (p:=⟨s 1,x,none⟩) (.inl ⟨Nat.le_refl _,Nat.lt_succ_self _⟩) _
       rw[hY3] at rY ⊢;clear hY3 y0 q0;refine hK.out _ _ ?hS26 (fun hHeld2=>?rest26)
       case hS26=>exact oY.cell hHeld (HRV.out.1.apart (by omega) (by omega) (by omega))
       clear hK KK;replace hHeld:=hHeld2;clear hHeld2;refine dn ?_;clear hHeld oY c0;have HE:=Z0 (And.intro rY.1 ((HRV.out.2.trans (OZ.any lo hi)).trans rY.2));clear rY;go_wp2_with fail;refine⟨⟨i+1,by congr 1,by omega,by omega,?_,HE.out.2⟩,by simp[intOf] <;> omega⟩;have:=HE.out.1;dsimp only at this;rw[HStp.out] at this;exact this
      ·have in1:¬ (i:Int)+1<(Bk:Int):=by omega
       rw[if_neg hnx] at hNx;have hLk:=fun w=>z0w (x:=(-1:Int)) (by omega) (by omega) w
       rw[hNx] at hStep;obtain⟨lk,hlk⟩:∃ lk,Y7 (-1:Int)=lk:=⟨_,rfl⟩
       simp only[hlk] at hLk;rw[hlk] at hStep;have HLk:=Z0 hLk;have HStp:=Z0 hStep;clear hStep hLk hlk hNx hx hq hle hsm hG hR hO hSi;go_wp2_with (go_at_call 110;refine Z5 (HBk.out _) ?_);refine wp_region_held_drew (S:=fun w'=>w'.cell? ⟨s 0,0,none⟩=some (.slice (some ⟨s 1,0,none⟩) M cw)) (by kernel_rfl) ?hS27 (fun hHeld=>?rest27)
       case hS27=>exact c0
       obtain⟨Z2,hZ⟩:∃ Z,wr.drew=Z:=⟨_,rfl⟩
       have OZ:Out 0 0 wr Z2:=by rw[<-hZ];exact(Out.refl 0 0 _).drew
       rw[hZ] at hHeld ⊢;clear hZ;refine tk 0 ?_;refine tk 1 ?_;refine tk 2 ?_;refine tk 3 ?_;refine tk 4 ?_;refine tk 5 ?_;refine tk 6 ?_;refine tk 9 ?_;refine rd1 7 fun KK hK=>?_
       simp only[xa,xb,xc];go_simp;refine Z5 (HSi.out _) ?_;refine hK.out _ _ ?hS36 (fun hHeld2=>?rest36)
       case hS36=>exact hHeld
       clear hK KK;replace hHeld:=hHeld2;clear hHeld2;refine tk 8 ?_;refine rd1 10 fun KK hK=>?_
       simp only[xa,xb,xc];go_simp;refine Z5 (HLk.out _) ?_;refine hK.out _ _ ?hS38 (fun hHeld2=>?rest38)
       case hS38=>exact hHeld
       clear hK KK;replace hHeld:=hHeld2;clear hHeld2;refine tk 11 ?_;refine rd1 12 fun KK hK=>?_
       simp only[xa,xb,xc];have hRd:=HRV.out.1.quiet OZ;have y0:=hRd.rw.cell (i:=x) HXM.out;have q0:=hRd.rw.frozen x;clear hRd;go_simp;obtain⟨Y3,hY3⟩:∃ Y,Z2.setCell ⟨s 1,x,none⟩ (.int .i64 lk)=Y:=⟨_,rfl⟩
       have rY:=(HRV.out.1.quiet OZ).setW HXM.out lk;have oY:Out (s 1) (s 1+1) Z2 Y3:=by rw[<-hY3];exact(Out.refl _ _ _).setCell (p:=⟨s 1,x,none⟩) (.inl ⟨Nat.le_refl _,Nat.lt_succ_self _⟩) _
       rw[hY3] at rY ⊢;clear hY3 y0 q0;refine hK.out _ _ ?hS40 (fun hHeld2=>?rest40)
       case hS40=>exact oY.cell hHeld (HRV.out.1.apart (by omega) (by omega) (by omega))
       clear hK KK;replace hHeld:=hHeld2;clear hHeld2;refine dn ?_;clear hHeld oY c0;have HE:=Z0 (And.intro rY.1 ((HRV.out.2.trans (OZ.any lo hi)).trans rY.2));clear rY;go_wp2_with fail;refine⟨⟨i+1,by congr 1,by omega,by omega,?_,HE.out.2⟩,by simp[intOf] <;> omega⟩;have:=HE.out.1;dsimp only at this;rw[HStp.out] at this;exact this
     ·have e:i=Bk:=by omega
      subst e;clear hR hO;go_wp2_with (go_at_call 110;refine Z5 (HBk.out _) ?_);refine HKC.out _ _ _ _ _ _ _ _ _ _ _ _ _ _ _ _ _ _ _ _ _ _ _ _ _ _ _ _ _ _ _ _ _ _ _ _ _ _ _ _ _ _ _ _ _ _ _ _ _ _ _ _ _ _ _ _ _ _ _ _ _ _ _ _ _ _ _ _ _ _ _ _ _ _ _ _ _ _ _ _ ?_ HRV.out.2;have hG:=HG.out;have he:=q8y (n:=n) (st:=sz) (c:=c) (b:=a+i*zw) (fun j hj=>by
       have:=hG.1.last hG.2.2.1.1 hG.2.2.1.2.1 (B:=i) (by rw[hG.2.2.2.1];exact hG.2.2.2.2.1) (by rw[hG.2.2.2.1];exact hG.2.2.2.2.2.1) j hj;rw[hG.2.2.2.1,<-hG.2.2.2.2.2.2.1] at this;exact this)
      have:=HRV.out.1;rw[he] at this;unfold j8n;rw[if_pos rfl,hG.2.1,hG.2.2.2.2.2.2.2.2.2.2.2.2];exact this
  clear hKB;cases hnb:z9w k with
  | false=>
   have HNb':=Z0 (fun w=>HNb.out w);rw[hnb] at HNb';have HSr:Hid (Q9 st k=0/\U8 st k=st.last):=by unfold Q9 U8;rw[hnb];exact⟨rfl,rfl⟩
   clear hnb;refine Z5 (HNb'.out _) ?_;go_wp2_with fail;(try rw[hB]);refine HKB.out _ _ _ _ _ _ _ _ _ _ _ _ _ _ _ _ _ _ _ _ _ _ _ _ _ _ _ _ _ _ _ _ _ _ _ _ _ _ ?_ ?_ (HR.out.2.1.trans (((Out.refl 0 0 W).alloc _).any lo hi))
   ·rw[HSr.out.2];exact HR.out.2.2.1
   ·rw[HSr.out.1,<-hB];exact heap_alloc_new _ _
  | true=>
   have HNb':=Z0 (fun w=>HNb.out w);rw[hnb] at HNb';have HSr:Hid (Q9 st k=st.last+1/\U8 st k=st.last+1):=by unfold Q9 U8;rw[hnb];exact⟨rfl,rfl⟩
   clear hnb;refine Z5 (HNb'.out _) ?_;go_wp2_with fail;(try rw[hB]);have hq:=HR.out.2.2.1.setL (L+1);have ob:Out B (B+1) ((W.alloc (.cells #[.int .i64 (a:Int),.int .i64 k,.int .i64 z,.int .i64 0,.int .i64 t] 97)).setCell ⟨s 0,3,none⟩ (.int .i64 (L+1))) (((W.alloc (.cells #[.int .i64 (a:Int),.int .i64 k,.int .i64 z,.int .i64 0,.int .i64 t] 97)).setCell ⟨s 0,3,none⟩ (.int .i64 (L+1))).setCell ⟨B,3,none⟩ (.int .i64 (L+1))):=(Out.refl _ _ _).setCell (p:=⟨B,3,none⟩) (.inl ⟨Nat.le_refl _,Nat.lt_succ_self _⟩) _;have hBq:=HBq.out;refine HKB.out _ _ _ _ _ _ _ _ _ _ _ _ _ _ _ _ _ _ _ _ _ _ _ _ _ _ _ _ _ _ _ _ _ _ _ _ _ _ ?_ ?_ ?_
   ·rw[HSr.out.2,HR.out.2.2.2];exact hq.1.kept ob (.inl hBq)
   ·rw[HSr.out.1,HR.out.2.2.2];have e1:((W.alloc (.cells #[.int .i64 (a:Int),.int .i64 k,.int .i64 z,.int .i64 0,.int .i64 t] 97)).setCell ⟨s 0,3,none⟩ (.int .i64 (L+1))).heap[B]? = some (.cells #[.int .i64 (a:Int),.int .i64 k,.int .i64 z,.int .i64 0,.int .i64 t] 97 (0,0)):=by
     have hi0:=HR.out.1.inn 0 (by omega);have o0:Out (s 0) (s 0+1) (W.alloc (.cells #[.int .i64 (a:Int),.int .i64 k,.int .i64 z,.int .i64 0,.int .i64 t] 97)) ((W.alloc (.cells #[.int .i64 (a:Int),.int .i64 k,.int .i64 z,.int .i64 0,.int .i64 t] 97)).setCell ⟨s 0,3,none⟩ (.int .i64 (L+1))):=(Out.refl _ _ _).setCell (p:=⟨s 0,3,none⟩) (.inl ⟨Nat.le_refl _,Nat.lt_succ_self _⟩) _;refine o0.heap ?_ (.inr (by omega));rw[<-hB];exact heap_alloc_new _ _
    simp[World.setCell,Array.getElem?_modify] at e1 ⊢;rw[e1];exact⟨_,rfl,rfl⟩
   ·have o1:Out lo hi w (W.alloc (.cells #[.int .i64 (a:Int),.int .i64 k,.int .i64 z,.int .i64 0,.int .i64 t] 97)):=HR.out.2.1.trans (((Out.refl 0 0 W).alloc _).any lo hi);have:=o1.size;exact(o1.trans hq.2).past ob (by have:=HR.out.2.1.size;omega)
 clear hKA2;rcases HF.out.2.2.1 with ⟨z32,hfr,p,hpa,hrow⟩ | ⟨z32,hfr⟩ | ⟨z32,hfr,a64,p,hpa,hrow,hnf⟩
 ·have HPa:=Z0 hpa;clear hpa;subst hfr;have hc8:c=8:=by have hz:=HF.out.2.2.2.2.2.2.2.2.2.1;rw[<-HF.out.2.2.2.2.1];unfold ofV;(repeat' split) <;> omega
  subst hc8;have c1:=HH.out.cells.2.1;have hz:=HF.out.2.2.2.2.2.2.2.2.2.1;have hkk:=z6f z32 hz.2.2.2;obtain⟨kk,hkd⟩:∃ kk,((z+63) / 64).toNat=kk:=⟨_,rfl⟩
  rw[hkd] at hkk hrow;have HPg:Hid (∀ w,Calls Tryz.prog 107 #[.int .i64 z] w fun e w'=>e=.returned (.int .i64 (kk:Int))/\w'=w):=fun w=>by
   have:=z2q z w;rw[show J4 z=(kk:Int) from by unfold J4;rw[if_pos (by omega)];omega] at this;exact this
  have HTR:=Z0 (fun W (o:Out 0 0 w W)=>z3b (HH.out.quiet o).rt kk hkk.1 hkk.2.1 p hrow);have HKd:=Z0 hkd;have hs3:s 0<s 3\/s 3+1<=s 0:=HH.out.apart (by omega) (by omega) (by omega);clear hkd hkk hz hrow;go_wp2_with fail;refine wp_region_held_drew (S:=fun w'=>w'.cell? ⟨s 0,1,none⟩=some (.pointer (some ⟨s 2,0,none⟩))) (by kernel_rfl) ?hS50 (fun hHeld=>?rest50)
  case hS50=>exact c1
  refine tk 0 ?_;refine tk 1 ?_;refine tk 2 ?_;refine tk 3 ?_;refine tk 4 ?_;refine rd1 5 fun KK hK=>?_
  simp only[xa,xb,xc];go_simp;refine Z5 (HPg.out _) ?_;refine hK.out _ _ ?hS56 (fun hHeld2=>?rest56)
  case hS56=>exact hHeld
  clear hK KK;replace hHeld:=hHeld2;clear hHeld2;refine rd1 6 fun KK hK=>?_
  simp only[xa,xb,xc];go_simp;refine(HTR.out _ (Out.refl 0 0 w).drew).mono ?_;rintro e w1 ⟨rfl,ht,ho⟩;refine hK.out _ _ ?hS57 (fun hHeld2=>?rest57)
  case hS57=>exact ho.cell hHeld hs3
  clear hK KK;replace hHeld:=hHeld2;clear hHeld2;refine dn ?_;clear hHeld;have HX:=Z0 ((HH.out.quiet (Out.refl 0 0 w).drew).setT ht ho);clear ht ho;go_wp2_with fail;refine HKA.out _ _ _ _ _ _ _ _ _ _ _ _ _ _ _ _ _ _ _ ?_ (((Out.refl 0 0 w).drew.any lo hi).trans HX.out.2);rw[show Y0 st a false z=setR st.S p kk from by unfold Y0;rw[if_pos z32,HPa.out,HKd.out,show 64*p / 64=p from by omega]];exact HX.out.1
 ·subst hfr;have hc8:(c == 8)=false:=by have:=W9 HF.out.2.2.2.2.2.2.2.2.2.1.2.2.1 z32;have:=HF.out.2.2.2.2.1;simp;omega
  go_wp2_with fail;refine HKA.out _ _ _ _ _ _ _ _ _ _ _ _ _ _ _ _ _ _ _ ?_ (Out.refl _ _ _);rw[show Y0 st a false z=st.S from by unfold Y0;rw[if_neg (by omega)];rfl];exact HH.out
 ·have HPa:=Z0 hpa;have HA64:=Z0 a64;clear hpa a64;subst hfr;have hc8:(c == 8)=false:=by have:=W9 HF.out.2.2.2.2.2.2.2.2.2.1.2.2.1 z32;have:=HF.out.2.2.2.2.1;simp;omega
  have c1:=HH.out.cells.2.1;have HTc:=Z0 (z2h HH.out.rt c);go_wp2_with (go_at_call 108;refine HTc.out.mono ?_;rintro e w1 ⟨rfl,ht,ho⟩;have HX:=Z0 (HH.out.setT ht ho);clear ht ho);refine HKA.out _ _ _ _ _ _ _ _ _ _ _ _ _ _ _ _ _ _ _ ?_ HX.out.2;have hcc:=HF.out.2.2.2.2.1;have hs:=W9 HF.out.2.2.2.2.2.2.2.2.2.1.2.2.1 z32;rw[show Y0 st a true z=tcS st.S n c from by
   unfold Y0 tcS;rw[if_neg (by omega),if_pos rfl,show U7 c=true from by unfold U7;simp;omega,if_pos rfl,hrow,hcc,HPa.out,show 64*p / 64=p from by omega]]
  exact HX.out.1
end
end Go.Proofs.YtjbbkeoolodeaabGreatDoor
