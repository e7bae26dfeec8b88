import Derived.Test.YtjgnogflgoihfaaGreatDoorP24
set_option linter.unusedSimpArgs false
set_option linter.unusedVariables false
set_option maxHeartbeats 16000000
set_option maxRecDepth 100000
namespace Go.Proofs.YtjgnogflgoihfaaGreatDoor
open Go.RowKit
theorem q7x (k:Int) (w:World):Kz 167 #[Iz k] w fun e w'=>e=.returned (.bool (q2d k))/\w'=w:=by
 unfold q2d;go_enter Tryz.func167,Tryz.ntmps167
 go_wp2
 all_goals go_ret
 all_goals refine⟨U9 ?_,rfl⟩
 all_goals (rw[Bool.eq_iff_iff];simp;try omega)
section
variable {w:World} {lo hi n cw co:Nat} {s:Nat->Nat} {st:Sp}
theorem q9x {z:Int} {a:Nat} {aR:Bool} (hI:Inv n st) (z1:1<=z) (z2:z<=1024) (hp:z0n n st z=some (a,aR)) :
  a+Y8 z<=64*n/\a<64*n/\((32<z/\aR=false/\∃ p,a=64*p/\z0a st.S n ((z+63) / 64).toNat=some p)\/(z<=32/\aR=false)\/(z<=32/\aR=true/\a+64<=64*n/\∃ p,a=64*p/\z0a st.S n 1=some p/\¬ 0<=nf n st (ofV z) 0)):=by
 unfold z0n at hp;unfold Y8;by_cases h:32<z
 ·rw[if_pos h] at hp ⊢;obtain⟨p,hr,e⟩:=Option.map_eq_some_iff.1 hp;simp only[Prod.mk.injEq] at e;obtain⟨rfl,rfl⟩:=e;have hq:=z0v hr;have:=q4w h z2;exact⟨by omega,by omega,.inl ⟨h,rfl,p,rfl,hr⟩⟩
 ·rw[if_neg h] at hp ⊢;have hs:=H7 z1 (by omega);have hw:=q1a hs.1 hs.2.1;by_cases h0:0<=nf n st (ofV z) 0
  ·rw[if_pos h0] at hp;simp only[Option.some.injEq,Prod.mk.injEq] at hp;obtain⟨e,rfl⟩:=hp;unfold nf at h0 e;rcases U4 (fr n st (ofV z)) (64*n) 0 with ⟨q,_⟩ | ⟨i,q,i1,i2,i3,i4⟩
   ·rw[q] at h0;omega
   ·rw[q] at e;obtain rfl:i=a:=by omega
    obtain⟨f1,f2,f3,f4⟩:=fr_iff.1 i3;unfold F6 at f3;simp only[Bool.and_eq_true,decide_eq_true_eq] at f3;exact⟨by omega,by omega,.inr (.inl ⟨by omega,rfl⟩)⟩
  ·rw[if_neg h0] at hp;obtain⟨p,hr,e⟩:=Option.map_eq_some_iff.1 hp;simp only[Prod.mk.injEq] at e;obtain⟨rfl,rfl⟩:=e;have hq:=z0v hr;exact⟨by omega,by omega,.inr (.inr ⟨by omega,rfl,by omega,p,rfl,hr,h0⟩)⟩
def q2x (st:Sp) (a:Nat) (aR:Bool) (k z t:Int):Sp:=⟨st.W,z0f st a aR z,H8 st.O a (k,z,Y0 st k,t),z0s st k⟩
def x5i (n:Nat) (st:Sp) (a:Nat) (aR:Bool) (k z t:Int):Nat->Int:=if aR then q1z n { q2x st a aR k z t with W:=z0b st.W a 64 } (ofV z) else st.W
theorem x5j (a:Nat) (aR:Bool) (k z t:Int):F9 n st a aR k z t={ q2x st a aR k z t with W:=z2p (z0b (x5i n st a aR k z t) a (Y8 z)) a (B6 a k z) }:=rfl
theorem q7z (h:RfAt w lo hi s n cw co st) (hI:Inv n st) {a:Nat} {aR:Bool} {k z t:Int} (hf:B7 k z=true) (hp:z0n n st z=some (a,aR)) (hl:st.last<9223372036854775807) :
  Kz 119 #[Pq (s 0),Iz (a:Int),.bool aR,Iz k,Iz z,Iz t] w fun e w'=>(∃ v,e=.returned v)/\RfAt w' lo hi s n cw co (F9 n st a aR k z t)/\Out lo hi w w':=by
 have hz:=U3 hf;obtain⟨lU,ha,jD⟩:=q9x hI hz.2.2.1 hz.2.2.2 hp;have h2:=h.n2;have h1:=h.n1;obtain⟨M,hM⟩:∃ M,64*n=M:=⟨_,rfl⟩
 obtain⟨c,hc⟩:∃ c:Int,ofV z=c:=⟨_,rfl⟩
 have HOf:=Q3 (fun w=>z4j z w);have HNb:=Q3 (fun w=>q7x k w);have HMk:=Q3 (fun w=>z9g (a:Int) k z w);have HRm:=Q3 (fun w=>z9h hz.2.2.1 hz.2.2.2 w);rw[hc] at HOf;have a0:(0:Int)<=(a:Int):=by omega
 have a1:(a:Int)<(M:Int):=by omega
 have a2:(M:Int)<=262144:=by omega
 have l0:=hI.last0;obtain⟨rm,hrm⟩:∃ rm,Y8 z=rm:=⟨_,rfl⟩
 obtain⟨hd,hhd⟩:∃ hd,B6 (a:Int) k z=hd:=⟨_,rfl⟩
 rw[hrm] at HRm;rw[hhd] at HMk;have HF:=Q3 (And.intro lU (And.intro ha (And.intro jD (And.intro hM (And.intro hc (And.intro hrm (And.intro hhd (And.intro h1 (And.intro h2 (And.intro hz (And.intro l0 (And.intro hl hI))))))))))));have HH:=Q3 h;have oP:k ≠ 0:=by omega
 clear h hI hf hp hz lU ha jD h1 h2 hM hc hrm hhd l0 hl;go_enter Tryz.func119,Tryz.ntmps119
 go_wp2_with fail;refine Q4 (HOf.out _) ?_;rename_i Q0 KA hKA K0 hK0
 have HKA0:=Q3 hKA;clear hKA;go_wp2_with fail;refine HKA0.out _ _ ?_;clear HKA0;apply wp_seq_k;intro KA2 hKA2;have HKA:Hid (∀ (W:World) (u18 u19 u20 u21 u22 u23 u24 u25 u26 u27 u28 u29 u30 u31 u32 u33 u34 u35:Value),RfAt W lo hi s n cw co { st with S:=z0f st a aR z }->Out lo hi w W->KA2 { tmps:=#[Pq (s 0),Iz (a:Int),.bool aR,Iz k,Iz z,Iz t,undef,undef,undef,undef,undef,undef,Iz c,undef,undef,undef,Iz z,Iz c,u18,u19,u20,u21,u22,u23,u24,u25,u26,u27,u28,u29,u30,u31,u32,u33,u34,u35,undef,undef,undef,undef,undef,undef,undef,undef,undef,undef,undef,undef,undef,undef,undef,undef,undef,undef,undef,undef,undef,undef,undef,undef,undef,undef,undef,undef,undef,undef,undef,undef,undef,undef,undef,undef,undef,undef,undef,undef,undef,undef,undef,undef,undef,undef,undef,undef,undef,undef,undef,undef,undef,undef,undef,undef,undef,undef,undef,undef,undef,undef,undef,undef,undef,undef,undef,undef,undef,undef,undef,undef,undef,undef],defers:=[] } W):=by
  intro W u18 u19 u20 u21 u22 u23 u24 u25 u26 u27 u28 u29 u30 u31 u32 u33 u34 u35 hR hO;apply hKA2;clear hKA2;have hRq:=hR.quiet ((Out.refl 0 0 W).alloc (Ez (a:Int) k z 0 t 81));obtain⟨_,_,_,c3,c4⟩:=hRq.cells;have c4':=c4 3;obtain⟨L,hL⟩:∃ L,st.last=L:=⟨_,rfl⟩
  have l0:=HF.out.2.2.2.2.2.2.2.2.2.2.1;have l1:=HF.out.2.2.2.2.2.2.2.2.2.2.2.1;dsimp only at c3;rw[hL] at c3 l0 l1;have HR:=Q3 (And.intro hR (And.intro hO (And.intro hRq hL)));have fG:s 0 ≠ W.heap.size:=by have:=hR.inn 0 (by omega);have:=hR.top;omega
  clear hR hO hRq c4 hL;go_wp2_with fail;rename_i KB hKB K1 hK1 K2 hK2
  obtain⟨B,hB⟩:∃ B,W.heap.size=B:=⟨_,rfl⟩
  have HBq:Hid (hi<=B):=by have:=HR.out.1.top;show _<=_;omega
  have HKB:Hid (∀ (X:World) (u18 u19 u20 u21 u22 u23 u24 u25 u26 u27 u28 u29 u30 u31 u32 u33 u34 u35 u36 u37 u38 u39 u40 u41 u42 u43 u44 u45 u46 u47 u48 u49 u50 u51 u52 u53 u54:Value),RfAt X lo hi s n cw co { st with S:=z0f st a aR z,last:=z0s st k }->X.heap[B]? = some (Ez (a:Int) k z (Y0 st k) t 81)->Out lo hi w X->KB { tmps:=#[Pq (s 0),Iz (a:Int),.bool aR,Iz k,Iz z,Iz t,undef,undef,undef,undef,undef,undef,Iz c,Pq B,undef,undef,Iz z,Iz c,u18,u19,u20,u21,u22,u23,u24,u25,u26,u27,u28,u29,u30,u31,u32,u33,u34,u35,u36,u37,u38,u39,u40,u41,u42,u43,u44,u45,u46,u47,u48,u49,u50,u51,u52,u53,u54,undef,undef,undef,undef,undef,undef,undef,undef,undef,undef,undef,undef,undef,undef,undef,undef,undef,undef,undef,undef,undef,undef,undef,undef,undef,undef,undef,undef,undef,undef,undef,undef,undef,undef,undef,undef,undef,undef,undef,undef,undef,undef,undef,undef,undef,undef,undef,undef,undef,undef,undef,undef,undef,undef,undef],defers:=[] } X):=by
   intro X u18 u19 u20 u21 u22 u23 u24 u25 u26 u27 u28 u29 u30 u31 u32 u33 u34 u35 u36 u37 u38 u39 u40 u41 u42 u43 u44 u45 u46 u47 u48 u49 u50 u51 u52 u53 u54 hR hBx hO;apply hKB;clear hKB hK1 hK2 K1 K2 c3 c4' HNb;obtain⟨sr,hsr⟩:∃ sr,Y0 st k=sr:=⟨_,rfl⟩
   rw[hsr] at hBx;have HSer:=Q3 hsr;have c2:=hR.cells.2.2.1;rw[HF.out.2.2.2.1] at c2;have hBq:=HBq.out;have h4:=hR.inn 4 (by omega);have hB4:B<s 4\/s 4+1<=B:=.inr (by omega);have b0:cq X B 0=some (Iz (a:Int)):=by simp[World.cell?,hBx]
   have b1:cq X B 1=some (Iz k):=by simp[World.cell?,hBx]
   have b2:cq X B 2=some (Iz z):=by simp[World.cell?,hBx]
   have b3:cq X B 3=some (Iz sr):=by simp[World.cell?,hBx]
   have b4:cq X B 4=some (Iz t):=by simp[World.cell?,hBx]
   have HRX:=Q3 (And.intro hR hBx);clear hR hBx hsr h4 hBq;go_wp2_with fail;refine wp_region_held_drew (S:=fun w'=>cq w' (s 0) 2=some (.slice (some ⟨s 4,0,none⟩) M co)/\cq w' B 0=some (Iz (a:Int))/\cq w' B 1=some (Iz k)/\cq w' B 2=some (Iz z)/\cq w' B 3=some (Iz sr)/\cq w' B 4=some (Iz t)) (by kernel_rfl) ?hS41 (fun aB=>?rest41)
   case hS41=>exact⟨c2,b0,b1,b2,b3,b4⟩
   obtain⟨Z,hZ⟩:∃ Z,X.drew=Z:=⟨_,rfl⟩
   have OZ:Out 0 0 X Z:=by rw[<-hZ];exact(Out.refl 0 0 _).drew
   rw[hZ] at aB ⊢;clear hZ;refine tk 0 ?_;refine tk 1 ?_;refine tk 2 ?_;refine tk 3 ?_;refine tk 4 ?_;refine tk 5 ?_;refine tk 6 ?_;refine rd1 7 fun KK hK=>?_
   simp only[xa,xb,xc];have kV:=HRX.out.1.quiet OZ;have am:=HF.out.2.1;have y0:=kV.ro.cell (i:=a*5) (by omega);have y1:=kV.ro.cell (i:=a*5+1) (by omega);have y2:=kV.ro.cell (i:=a*5+2) (by omega);have y3:=kV.ro.cell (i:=a*5+3) (by omega);have y4:=kV.ro.cell (i:=a*5+4) (by omega);have q0:=kV.ro.frozen (a*5);have q1:=kV.ro.frozen (a*5+1);have q2:=kV.ro.frozen (a*5+2);have q3:=kV.ro.frozen (a*5+3);have q4:=kV.ro.frozen (a*5+4);clear kV am;go_simp;obtain⟨Y,hY⟩:∃ Y,j6z Z (s 4) a (a:Int) k z sr t=Y:=⟨_,rfl⟩
   have oY:Out (s 4) (s 4+1) Z Y:=by rw[<-hY];exact q2s _ _ _ _ _ _ _ _
   have rY:RfAt Y lo hi s n cw co { st with S:=z0f st a aR z,last:=z0s st k,O:=H8 st.O a (k,z,sr,t) }/\Out lo hi Z Y:=by
    rw[<-hY];exact(HRX.out.1.quiet OZ).setO HF.out.2.1 oP
   unfold j6z at hY;rw[hY];clear hY y0 y1 y2 y3 y4 q0 q1 q2 q3 q4;refine hK.out _ _ ⟨oY.cell aB.1 (HRX.out.1.apart (by omega) (by omega) (by omega)),oY.cell aB.2.1 hB4,oY.cell aB.2.2.1 hB4,oY.cell aB.2.2.2.1 hB4,oY.cell aB.2.2.2.2.1 hB4,oY.cell aB.2.2.2.2.2 hB4⟩ fun aB=>?_
   clear hK KK;refine dn ?_;clear aB oY b0 b1 b2 b3 b4 c2;have HY:=Q3 (And.intro rY.1 ((hO.trans (OZ.any lo hi)).trans rY.2));clear rY hO;rename_i K9 hK9
   apply hK9;clear hK9;apply wp_seq_k;intro KC hKC;have HY2:Hid (RfAt Y lo hi s n cw co (q2x st a aR k z t)/\Out lo hi w Y):=by
    refine⟨?_,HY.out.2⟩;unfold q2x;rw[HSer.out];exact HY.out.1
   clear HY HRX HSer OZ;have HKC:Hid (∀ (V:World) (u14 u15 u18 u19 u20 u21 u22 u23 u24 u25 u26 u27 u28 u29 u30 u31 u32 u33 u34 u35 u36 u37 u38 u39 u40 u41 u42 u43 u44 u45 u46 u47 u48 u49 u50 u51 u52 u53 u54 u55 u56 u57 u58 u59 u60 u61 u62 u63 u64 u65 u66 u67 u68 u69 u70 u71 u72 u73 u74 u75 u76 u77 u78 u79 u80 u81 u82 u83 u84 u85 u86 u87 u88 u89 u90 u91 u92 u93 u94:Value),RfAt V lo hi s n cw co { q2x st a aR k z t with W:=x5i n st a aR k z t }->Out lo hi w V->KC { tmps:=#[Pq (s 0),Iz (a:Int),.bool aR,Iz k,Iz z,Iz t,undef,undef,undef,undef,undef,undef,Iz c,Pq B,u14,u15,Iz z,Iz c,u18,u19,u20,u21,u22,u23,u24,u25,u26,u27,u28,u29,u30,u31,u32,u33,u34,u35,u36,u37,u38,u39,u40,u41,u42,u43,u44,u45,u46,u47,u48,u49,u50,u51,u52,u53,u54,u55,u56,u57,u58,u59,u60,u61,u62,u63,u64,u65,u66,u67,u68,u69,u70,u71,u72,u73,u74,u75,u76,u77,u78,u79,u80,u81,u82,u83,u84,u85,u86,u87,u88,u89,u90,u91,u92,u93,u94,undef,undef,undef,undef,undef,undef,undef,undef,undef,undef,undef,undef,undef,undef,undef],defers:=[] } V):=by
    intro V0 u14 u15 u18 u19 u20 u21 u22 u23 u24 u25 u26 u27 u28 u29 u30 u31 u32 u33 u34 u35 u36 u37 u38 u39 u40 u41 u42 u43 u44 u45 u46 u47 u48 u49 u50 u51 u52 u53 u54 u55 u56 u57 u58 u59 u60 u61 u62 u63 u64 u65 u66 u67 u68 u69 u70 u71 u72 u73 u74 u75 u76 u77 u78 u79 u80 u81 u82 u83 u84 u85 u86 u87 u88 u89 u90 u91 u92 u93 u94 hR hO;apply hKC;clear hKC;have HWp:=Q3 (z9i hR (a:=a) (k:=rm) (by have:=HF.out.2.2.2.2.2.1;have:=HF.out.1;omega));have HO:=Q3 hO;clear hR hO;go_wp2_with (first | (go_at_call 169;refine Q4 (HRm.out _) ?_) | (go_at_call 168;refine HWp.out.mono ?_;rintro e V ⟨⟨v,rfl⟩,hRV,hOV⟩;have mZ:=Q3 (And.intro hRV (HO.out.trans hOV));have c0:=hRV.cells.1;rw[HF.out.2.2.2.1] at c0;clear hRV hOV));refine wp_region_held_drew (S:=fun w'=>cq w' (s 0) 0=some (.slice (some ⟨s 1,0,none⟩) M cw)) (by kernel_rfl) ?hS1 (fun aB=>?rest1)
    case hS1=>exact c0
    obtain⟨Z2,hZ⟩:∃ Z,V.drew=Z:=⟨_,rfl⟩
    have OZ:Out 0 0 V Z2:=by rw[<-hZ];exact(Out.refl 0 0 _).drew
    rw[hZ] at aB ⊢;clear hZ;refine tk 0 ?_;refine tk 1 ?_;refine tk 2 ?_;refine tk 3 ?_;refine tk 4 ?_;refine tk 5 ?_;refine tk 6 ?_;refine tk 7 ?_;refine rd1 8 fun KK hK=>?_
    go_simp;refine Q4 (HMk.out _) ?_;refine hK.out _ _ (aB) fun aB=>?_
    clear hK KK;refine tk 9 ?_;refine rd1 10 fun KK hK=>?_
    simp only[xa,xb,xc];have kV:=mZ.out.1.quiet OZ;have am:=HF.out.2.1;have y0:=kV.rw.cell (i:=a) am;have q0:=kV.rw.frozen a;clear am kV;go_simp;obtain⟨Y3,hY3⟩:∃ Y,Z2.setCell ⟨s 1,a,none⟩ (Iz hd)=Y:=⟨_,rfl⟩
    have rY:=(mZ.out.1.quiet OZ).setW HF.out.2.1 hd;have oY:Out (s 1) (s 1+1) Z2 Y3:=by rw[<-hY3];exact(Out.refl _ _ _).setCell (p:=⟨s 1,a,none⟩) Lz _
    rw[hY3] at rY ⊢;clear hY3 y0 q0;refine hK.out _ _ (oY.cell aB (mZ.out.1.apart (by omega) (by omega) (by omega))) fun aB=>?_
    clear hK KK;refine dn ?_;clear aB oY c0;have HE:=Q3 (And.intro rY.1 ((mZ.out.2.trans (OZ.any lo hi)).trans rY.2));clear rY;go_wp2;refine bodyPost_end (results_none Tryz.results119 _ _ _) rfl ⟨⟨_,rfl⟩,?_,HE.out.2⟩;rw[x5j,HF.out.2.2.2.2.2.1,HF.out.2.2.2.2.2.2.1];exact HE.out.1
   clear hKC;cases aR with
   | false=>
    go_wp2_with fail;exact HKC.out _ _ _ _ _ _ _ _ _ _ _ _ _ _ _ _ _ _ _ _ _ _ _ _ _ _ _ _ _ _ _ _ _ _ _ _ _ _ _ _ _ _ _ _ _ _ _ _ _ _ _ _ _ _ _ _ _ _ _ _ _ _ _ _ _ _ _ _ _ _ _ _ _ _ _ _ _ _ _ _ HY2.out.1 HY2.out.2
   | true=>
    obtain⟨z32,a64,p,hpa,kR,hnf⟩:z<=32/\a+64<=64*n/\∃ p,a=64*p/\z0a st.S n 1=some p/\¬ 0<=nf n st (ofV z) 0:=by
     rcases HF.out.2.2.1 with ⟨_,e,_⟩ | ⟨_,e⟩ | ⟨e1,_,e2⟩
     ·cases e
     ·cases e
     ·obtain⟨e3,p,e4,e5,e6⟩:=e2;exact⟨e1,e3,p,e4,e5,by omega⟩
    have hz:=HF.out.2.2.2.2.2.2.2.2.2.1;have hI:=HF.out.2.2.2.2.2.2.2.2.2.2.2.2;have hs:=H7 hz.2.2.1 z32;have hcc:=HF.out.2.2.2.2.1;rw[hcc] at hs hnf;obtain⟨cN,hcN⟩:∃ cN:Nat,c=(cN:Int):=⟨c.toNat,by omega⟩
    obtain⟨Bk,zw,hBk,hzw,hzN,mQ,mP,B1,B2,Bz1,Bz2⟩:=x1q (c:=cN) (by omega);rw[<-hcN] at hBk hzw hzN;have nM:=j1j hI hs.1 hs.2.1 hnf kR (b:=(k,z,Y0 st k,t)) (by unfold Y6;simpa using oP) (z0b st.W a 64) (z0s st k);have gT:(⟨z0b st.W a 64,q2t st.S p c,H8 st.O (64*p) (k,z,Y0 st k,t),z0s st k⟩:Sp)={ q2x st a true k z t with W:=z0b st.W a 64 }:=by
     unfold q2x z0f;rw[if_neg (by omega),if_pos rfl,hcc,hpa,show 64*p / 64=p from by omega]
    rw[gT] at nM;obtain⟨sz,gQ⟩:∃ sz:Sp,{ q2x st a true k z t with W:=z0b st.W a 64 }=sz:=⟨_,rfl⟩
    rw[gQ] at nM;have hpn:=(z0v kR).1;have HG:=Q3 (And.intro nM (And.intro gQ (And.intro hs (And.intro hzN (And.intro Bz1 (And.intro Bz2 (And.intro hpa (And.intro hpn (And.intro a64 (And.intro hzw (And.intro mQ (And.intro mP hcc))))))))))));have nB:=Q3 (fun w=>z3j c w);rw[hBk] at nB;have HSt:=Q3 (fun(i:Int) w=>z7l c i w);have HStV:Hid (∀ i:Nat,i<Bk->z1s c (i:Int)=((i*zw:Nat):Int)):=fun i hi=>by
     unfold z1s;rw[hBk,if_pos ⟨by omega,by omega⟩,hzw];push_cast;rfl
    have b1':(2:Int)<=(Bk:Int):=by omega
    have b2':(Bk:Int)<=32:=by omega
    have HWp:=Q3 (z9i HY2.out.1 (a:=a) (k:=64) a64);rw[show ((64:Nat):Int)=64 from rfl] at HWp;clear nM gT gQ hs hzN Bz1 Bz2 hpa hpn a64 hzw mQ mP hcc hz hI hnf kR hBk hcN z32 B1 B2;go_wp2_with (go_at_call 168;refine HWp.out.mono ?_;rintro e V ⟨⟨v,rfl⟩,hRV,hOV⟩;have HV0:=Q3 (And.intro hRV (HY2.out.2.trans hOV));clear hRV hOV);go_loopw [14] (fun u wr=>∃ i:Nat,u=Iz (i:Int)/\1<=i/\i<=Bk/\RfAt wr lo hi s n cw co { q2x st a true k z t with W:=lkT n sz c (a+i*zw) }/\Out lo hi w wr) (fun u _=>Bk-(intOf u).toNat)
    case atStart=>
     refine⟨1,rfl,Nat.le_refl _,by omega,?_,HV0.out.2⟩;have hG:=HG.out;rw[q4b (fun j hj=>hG.1.first hG.2.2.1.1 hG.2.2.1.2.1 (by omega) j (by rw[hG.2.2.2.1,<-hG.2.2.2.2.2.2.1];exact hj)),<-hG.2.1];exact HV0.out.1
    case round=>
     obtain⟨i,rfl,i1,i2,hR,hO⟩:=hrel;have mZ:=Q3 (And.intro hR hO);have i0:(1:Int)<=(i:Int):=by omega
     by_cases dD:i<Bk
     ·have il:(i:Int)<(Bk:Int):=by omega
      have hG:=HG.out;have c0:=hR.cells.1;rw[HF.out.2.2.2.1] at c0;obtain⟨q,hq⟩:∃ q,i*zw=q:=⟨_,rfl⟩
      have hSi:=fun w=>HSt.out (i:Int) w
      simp only[HStV.out i dD,hq] at hSi;have HSi:=Q3 hSi;have hle:(i+1)*zw<=Bk*zw:=Nat.mul_le_mul_right _ dD;have hsm:(i+1)*zw=i*zw+zw:=Nat.succ_mul i zw;obtain⟨x,hx⟩:∃ x,a+q=x:=⟨_,rfl⟩
      have hNx:=hG.1.next hG.2.2.1.1 hG.2.2.1.2.1 hG.2.2.2.2.2.2.2.1 (B:=Bk) (i:=i) (by rw[hG.2.2.2.1];exact hG.2.2.2.2.1) (by rw[hG.2.2.2.1];exact hG.2.2.2.2.2.1) i1 dD;rw[hG.2.2.2.1,<-hG.2.2.2.2.2.2.1,hq,hx] at hNx;have lE:=q9o (n:=n) (st:=sz) (c:=c) (a:=x) (b:=a+(i+1)*zw) (by omega) (by
       have:=hG.1.all i i1 (by rw[hG.2.2.2.1];omega);rw[hG.2.2.2.1,<-hG.2.2.2.2.2.2.1,hq,hx] at this;exact this) (fun j j1 j2=>z4c hG.2.2.1.1 hG.2.2.1.2.1 (p:=p) (i:=i) (by rw[hG.2.2.2.1];omega) (by rw[hG.2.2.2.1,hq,<-hG.2.2.2.2.2.2.1];omega) (by rw[hG.2.2.2.1,<-hG.2.2.2.2.2.2.1];omega))
      have HXM:Hid (x<64*n):=by show _<_;omega
      rw[hq,hx] at mZ;have xm:(x:Int)<(M:Int):=by have:=HF.out.2.2.2.1;omega
      have x0:(a:Int)+(q:Int)=(x:Int):=by omega
      have q0:(0:Int)<=(q:Int):=by omega
      have q1:(q:Int)<=64:=by omega
      have hwx:IntKind.i64.wrap (x:Int)=(x:Int):=by simp[IntKind.wrap,IntKind.signed,IntKind.bits];omega
      by_cases dC:i+1<Bk
      ·have in1:(i:Int)+1<(Bk:Int):=by omega
       rw[if_pos dC] at hNx;obtain⟨q',hq'⟩:∃ q',(i+1)*zw=q':=⟨_,rfl⟩
       obtain⟨x',hx'⟩:∃ x',a+q'=x':=⟨_,rfl⟩
       have hSn:=fun w=>HSt.out ((i+1:Nat):Int) w
       simp only[HStV.out (i+1) dC,hq'] at hSn;rw[show ((i+1:Nat):Int)=(i:Int)+1 from by omega] at hSn;have HSn:=Q3 hSn;rw[hq',hx'] at hNx;have hle2:(i+1+1)*zw<=Bk*zw:=Nat.mul_le_mul_right _ dC;have hsm2:(i+1+1)*zw=(i+1)*zw+zw:=Nat.succ_mul (i+1) zw;have x0':(a:Int)+(q':Int)=(x':Int):=by omega
       have q2:(q':Int)<=64:=by omega
       have q3:(0:Int)<=(q':Int):=by omega
       have hLk:=fun w=>z3k (x:=(x':Int)) (by omega) (by have:=HF.out.2.2.2.1;omega) w
       rw[hNx] at lE;obtain⟨lk,lW⟩:∃ lk,z0e (x':Int)=lk:=⟨_,rfl⟩
       simp only[lW] at hLk;rw[lW] at lE;have HLk:=Q3 hLk;have HStp:=Q3 lE;clear lE hLk lW hSn hNx hx' hq' hx hq hle hsm hle2 hsm2 hG hR hO hSi;go_wp2_with (first | (go_at_call 151;refine Q4 (nB.out _) ?_) | (go_at_call 152;refine Q4 (HSn.out _) ?_));refine wp_region_held_drew (S:=fun w'=>cq w' (s 0) 0=some (.slice (some ⟨s 1,0,none⟩) M cw)) (by kernel_rfl) ?hS13 (fun aB=>?rest13)
       case hS13=>exact c0
       obtain⟨Z2,hZ⟩:∃ Z,wr.drew=Z:=⟨_,rfl⟩
       have OZ:Out 0 0 wr Z2:=by rw[<-hZ];exact(Out.refl 0 0 _).drew
       rw[hZ] at aB ⊢;clear hZ;refine tk 0 ?_;refine tk 1 ?_;refine tk 2 ?_;refine tk 3 ?_;refine tk 4 ?_;refine tk 5 ?_;refine tk 6 ?_;refine tk 9 ?_;refine rd1 7 fun KK hK=>?_
       go_simp;refine Q4 (HSi.out _) ?_;refine hK.out _ _ (aB) fun aB=>?_
       clear hK KK;refine tk 8 ?_;refine rd1 10 fun KK hK=>?_
       go_simp;refine Q4 (HLk.out _) ?_;refine hK.out _ _ (aB) fun aB=>?_
       clear hK KK;refine tk 11 ?_;refine rd1 12 fun KK hK=>?_
       simp only[xa,xb,xc];have kV:=mZ.out.1.quiet OZ;have y0:=kV.rw.cell (i:=x) HXM.out;have q0:=kV.rw.frozen x;clear kV;go_simp;obtain⟨Y3,hY3⟩:∃ Y,Z2.setCell ⟨s 1,x,none⟩ (Iz lk)=Y:=⟨_,rfl⟩
       have rY:=(mZ.out.1.quiet OZ).setW HXM.out lk;have oY:Out (s 1) (s 1+1) Z2 Y3:=by rw[<-hY3];exact(Out.refl _ _ _).setCell (p:=⟨s 1,x,none⟩) Lz _
       rw[hY3] at rY ⊢;clear hY3 y0 q0;refine hK.out _ _ (oY.cell aB (mZ.out.1.apart (by omega) (by omega) (by omega))) fun aB=>?_
       clear hK KK;refine dn ?_;clear aB oY c0;have HE:=Q3 (And.intro rY.1 ((mZ.out.2.trans (OZ.any lo hi)).trans rY.2));clear rY;go_wp2_with fail;refine⟨⟨i+1,by congr 1,by omega,by omega,?_,HE.out.2⟩,by simp[intOf] <;> omega⟩;have:=HE.out.1;dsimp only at this;rw[HStp.out] at this;exact this
      ·have in1:¬ (i:Int)+1<(Bk:Int):=by omega
       rw[if_neg dC] at hNx;have hLk:=fun w=>z3k (x:=(-1:Int)) (by omega) (by omega) w
       rw[hNx] at lE;obtain⟨lk,lW⟩:∃ lk,z0e (-1:Int)=lk:=⟨_,rfl⟩
       simp only[lW] at hLk;rw[lW] at lE;have HLk:=Q3 hLk;have HStp:=Q3 lE;clear lE hLk lW hNx hx hq hle hsm hG hR hO hSi;go_wp2_with (go_at_call 151;refine Q4 (nB.out _) ?_);refine wp_region_held_drew (S:=fun w'=>cq w' (s 0) 0=some (.slice (some ⟨s 1,0,none⟩) M cw)) (by kernel_rfl) ?hS27 (fun aB=>?rest27)
       case hS27=>exact c0
       obtain⟨Z2,hZ⟩:∃ Z,wr.drew=Z:=⟨_,rfl⟩
       have OZ:Out 0 0 wr Z2:=by rw[<-hZ];exact(Out.refl 0 0 _).drew
       rw[hZ] at aB ⊢;clear hZ;refine tk 0 ?_;refine tk 1 ?_;refine tk 2 ?_;refine tk 3 ?_;refine tk 4 ?_;refine tk 5 ?_;refine tk 6 ?_;refine tk 9 ?_;refine rd1 7 fun KK hK=>?_
       go_simp;refine Q4 (HSi.out _) ?_;refine hK.out _ _ (aB) fun aB=>?_
       clear hK KK;refine tk 8 ?_;refine rd1 10 fun KK hK=>?_
       go_simp;refine Q4 (HLk.out _) ?_;refine hK.out _ _ (aB) fun aB=>?_
       clear hK KK;refine tk 11 ?_;refine rd1 12 fun KK hK=>?_
       simp only[xa,xb,xc];have kV:=mZ.out.1.quiet OZ;have y0:=kV.rw.cell (i:=x) HXM.out;have q0:=kV.rw.frozen x;clear kV;go_simp;obtain⟨Y3,hY3⟩:∃ Y,Z2.setCell ⟨s 1,x,none⟩ (Iz lk)=Y:=⟨_,rfl⟩
       have rY:=(mZ.out.1.quiet OZ).setW HXM.out lk;have oY:Out (s 1) (s 1+1) Z2 Y3:=by rw[<-hY3];exact(Out.refl _ _ _).setCell (p:=⟨s 1,x,none⟩) Lz _
       rw[hY3] at rY ⊢;clear hY3 y0 q0;refine hK.out _ _ (oY.cell aB (mZ.out.1.apart (by omega) (by omega) (by omega))) fun aB=>?_
       clear hK KK;refine dn ?_;clear aB oY c0;have HE:=Q3 (And.intro rY.1 ((mZ.out.2.trans (OZ.any lo hi)).trans rY.2));clear rY;go_wp2_with fail;refine⟨⟨i+1,by congr 1,by omega,by omega,?_,HE.out.2⟩,by simp[intOf] <;> omega⟩;have:=HE.out.1;dsimp only at this;rw[HStp.out] at this;exact this
     ·have e:i=Bk:=by omega
      subst e;clear hR hO;go_wp2_with (go_at_call 151;refine Q4 (nB.out _) ?_);refine HKC.out _ _ _ _ _ _ _ _ _ _ _ _ _ _ _ _ _ _ _ _ _ _ _ _ _ _ _ _ _ _ _ _ _ _ _ _ _ _ _ _ _ _ _ _ _ _ _ _ _ _ _ _ _ _ _ _ _ _ _ _ _ _ _ _ _ _ _ _ _ _ _ _ _ _ _ _ _ _ _ _ ?_ mZ.out.2;have hG:=HG.out;have he:=j5i (n:=n) (st:=sz) (c:=c) (b:=a+i*zw) (fun j hj=>by
       have:=hG.1.last hG.2.2.1.1 hG.2.2.1.2.1 (B:=i) (by rw[hG.2.2.2.1];exact hG.2.2.2.2.1) (by rw[hG.2.2.2.1];exact hG.2.2.2.2.2.1) j hj;rw[hG.2.2.2.1,<-hG.2.2.2.2.2.2.1] at this;exact this)
      have:=mZ.out.1;rw[he] at this;unfold x5i;rw[if_pos rfl,hG.2.1,hG.2.2.2.2.2.2.2.2.2.2.2.2];exact this
  clear hKB;cases hnb:q2d k with
  | false=>
   have HNb':=Q3 (fun w=>HNb.out w);rw[hnb] at HNb';have HSr:Hid (Y0 st k=0/\z0s st k=st.last):=by unfold Y0 z0s;rw[hnb];exact⟨rfl,rfl⟩
   clear hnb;refine Q4 (HNb'.out _) ?_;go_wp2_with fail;(try rw[hB]);refine HKB.out _ _ _ _ _ _ _ _ _ _ _ _ _ _ _ _ _ _ _ _ _ _ _ _ _ _ _ _ _ _ _ _ _ _ _ _ _ _ ?_ ?_ (HR.out.2.1.trans (((Out.refl 0 0 W).alloc _).any lo hi))
   ·rw[HSr.out.2];exact HR.out.2.2.1
   ·rw[HSr.out.1,<-hB];exact heap_alloc_new _ _
  | true=>
   have HNb':=Q3 (fun w=>HNb.out w);rw[hnb] at HNb';have HSr:Hid (Y0 st k=st.last+1/\z0s st k=st.last+1):=by unfold Y0 z0s;rw[hnb];exact⟨rfl,rfl⟩
   clear hnb;refine Q4 (HNb'.out _) ?_;go_wp2_with fail;(try rw[hB]);have hq:=HR.out.2.2.1.setL (L+1);have ob:Out B (B+1) ((W.alloc (Ez (a:Int) k z 0 t 81)).setCell ⟨s 0,3,none⟩ (Iz (L+1))) (((W.alloc (Ez (a:Int) k z 0 t 81)).setCell ⟨s 0,3,none⟩ (Iz (L+1))).setCell ⟨B,3,none⟩ (Iz (L+1))):=(Out.refl _ _ _).setCell (p:=⟨B,3,none⟩) Lz _;have hBq:=HBq.out;refine HKB.out _ _ _ _ _ _ _ _ _ _ _ _ _ _ _ _ _ _ _ _ _ _ _ _ _ _ _ _ _ _ _ _ _ _ _ _ _ _ ?_ ?_ ?_
   ·rw[HSr.out.2,HR.out.2.2.2];exact hq.1.kept ob (.inl hBq)
   ·rw[HSr.out.1,HR.out.2.2.2];have e1:((W.alloc (Ez (a:Int) k z 0 t 81)).setCell ⟨s 0,3,none⟩ (Iz (L+1))).heap[B]? = some (Ez (a:Int) k z 0 t 81):=by
     have mW:=HR.out.1.inn 0 (by omega);have o0:Out (s 0) (s 0+1) (W.alloc (Ez (a:Int) k z 0 t 81)) ((W.alloc (Ez (a:Int) k z 0 t 81)).setCell ⟨s 0,3,none⟩ (Iz (L+1))):=(Out.refl _ _ _).setCell (p:=⟨s 0,3,none⟩) Lz _;refine o0.heap ?_ (.inr (by omega));rw[<-hB];exact heap_alloc_new _ _
    simp[World.setCell,Array.getElem?_modify] at e1 ⊢;rw[e1];exact⟨_,rfl,rfl⟩
   ·have o1:Out lo hi w (W.alloc (Ez (a:Int) k z 0 t 81)):=HR.out.2.1.trans (((Out.refl 0 0 W).alloc _).any lo hi);have:=o1.size;exact(o1.trans hq.2).past ob (by have:=HR.out.2.1.size;omega)
 clear hKA2;rcases HF.out.2.2.1 with ⟨z32,nM,p,hpa,kR⟩ | ⟨z32,nM⟩ | ⟨z32,nM,a64,p,hpa,kR,hnf⟩
 ·have HPa:=Q3 hpa;clear hpa;subst nM;have hc8:c=8:=by have hz:=HF.out.2.2.2.2.2.2.2.2.2.1;rw[<-HF.out.2.2.2.2.1];unfold ofV;(repeat' split) <;> omega
  subst hc8;have c1:=HH.out.cells.2.1;have hz:=HF.out.2.2.2.2.2.2.2.2.2.1;have hkk:=q4w z32 hz.2.2.2;obtain⟨kk,nJ⟩:∃ kk,((z+63) / 64).toNat=kk:=⟨_,rfl⟩
  rw[nJ] at hkk kR;have HPg:Hid (∀ w,Kz 164 #[Iz z] w fun e w'=>e=.returned (Iz (kk:Int))/\w'=w):=fun w=>by
   have:=z4k z w;rw[show B5 z=(kk:Int) from by unfold B5;rw[if_pos (by omega)];omega] at this;exact this
  have HTR:=Q3 (fun W (o:Out 0 0 w W)=>z4l (HH.out.quiet o).rt kk hkk.1 hkk.2.1 p kR);have HKd:=Q3 nJ;have hs3:s 0<s 3\/s 3+1<=s 0:=HH.out.apart (by omega) (by omega) (by omega);clear nJ hkk hz kR;go_wp2_with fail;refine wp_region_held_drew (S:=fun w'=>cq w' (s 0) 1=some (Pq (s 2))) (by kernel_rfl) ?hS50 (fun aB=>?rest50)
  case hS50=>exact c1
  refine tk 0 ?_;refine tk 1 ?_;refine tk 2 ?_;refine tk 3 ?_;refine tk 4 ?_;refine rd1 5 fun KK hK=>?_
  go_simp;refine Q4 (HPg.out _) ?_;refine hK.out _ _ (aB) fun aB=>?_
  clear hK KK;refine rd1 6 fun KK hK=>?_
  go_simp;refine(HTR.out _ (Out.refl 0 0 w).drew).mono ?_;rintro e w1 ⟨rfl,ht,ho⟩;refine hK.out _ _ (ho.cell aB hs3) fun aB=>?_
  clear hK KK;refine dn ?_;clear aB;have HX:=Q3 ((HH.out.quiet (Out.refl 0 0 w).drew).setT ht ho);clear ht ho;go_wp2_with fail;refine HKA.out _ _ _ _ _ _ _ _ _ _ _ _ _ _ _ _ _ _ _ ?_ (((Out.refl 0 0 w).drew.any lo hi).trans HX.out.2);rw[show z0f st a false z=setR st.S p kk from by unfold z0f;rw[if_pos z32,HPa.out,HKd.out,show 64*p / 64=p from by omega]];exact HX.out.1
 ·subst nM;have hc8:(c == 8)=false:=by have:=H7 HF.out.2.2.2.2.2.2.2.2.2.1.2.2.1 z32;have:=HF.out.2.2.2.2.1;simp;omega
  go_wp2_with fail;refine HKA.out _ _ _ _ _ _ _ _ _ _ _ _ _ _ _ _ _ _ _ ?_ (Out.refl _ _ _);rw[show z0f st a false z=st.S from by unfold z0f;rw[if_neg (by omega)];rfl];exact HH.out
 ·have HPa:=Q3 hpa;have HA64:=Q3 a64;clear hpa a64;subst nM;have hc8:(c == 8)=false:=by have:=H7 HF.out.2.2.2.2.2.2.2.2.2.1.2.2.1 z32;have:=HF.out.2.2.2.2.1;simp;omega
  have c1:=HH.out.cells.2.1;have HTc:=Q3 (z3r HH.out.rt c);go_wp2_with (go_at_call 165;refine HTc.out.mono ?_;rintro e w1 ⟨rfl,ht,ho⟩;have HX:=Q3 (HH.out.setT ht ho);clear ht ho);refine HKA.out _ _ _ _ _ _ _ _ _ _ _ _ _ _ _ _ _ _ _ ?_ HX.out.2;have hcc:=HF.out.2.2.2.2.1;have hs:=H7 HF.out.2.2.2.2.2.2.2.2.2.1.2.2.1 z32;rw[show z0f st a true z=tcS st.S n c from by
   unfold z0f tcS;rw[if_neg (by omega),if_pos rfl,show H9 c=true from by unfold H9;simp;omega,if_pos rfl,kR,hcc,HPa.out,show 64*p / 64=p from by omega]]
  exact HX.out.1
end
theorem q1h {n:Nat} {st:Sp} {k z t:Int} {a:Nat} {aR:Bool} (hf:B7 k z=true) (hp:z0n n st z=some (a,aR)):alF n st k z t=if z<=32/\aR=false/\st.W a ≠ z0e (nf n st (ofV z) (a+1)) then (0,21,(a:Int),st) else ((a:Int),0,0,F9 n st a aR k z t):=by
 unfold alF;rw[if_pos hf,hp]
section
variable {w:World} {lo hi n cw co:Nat} {s:Nat->Nat} {st:Sp}
theorem z1j (h:RfAt w lo hi s n cw co st) (hI:Inv n st) (k z t:Int) (z1:-9223372036854775808<=z) (z2:z<=9223372036854775807) (hl:st.last<9223372036854775807) :
  Kz 60 #[Pq (s 0),Iz k,Iz z,Iz t] w fun e w'=>
   e=.returned (.tuple #[Iz (alF n st k z t).1,z7d (alF n st k z t).2.1 (alF n st k z t).2.2.1])/\RfAt w' lo hi s n cw co (alF n st k z t).2.2.2/\Out lo hi w w':=by
 have h2:=h.n2;have o0:Out 0 0 w (w.alloc (Dz 0 0 111)):=(Out.refl 0 0 w).alloc _;have f0:(w.alloc (Dz 0 0 111)).heap[w.heap.size]? = some (Dz 0 0 111):=heap_alloc_new _ _;have HFi:=Q3 (fun w=>z9f k z w z1 z2);obtain⟨F,hF⟩:∃ F,w.heap.size=F:=⟨_,rfl⟩
 have kN:Hid (hi<=F/\w.heap.size=F):=⟨by rw[<-hF];exact h.top,hF⟩
 rw[hF] at f0;have H0:=Q3 (And.intro h (And.intro hI (And.intro o0 f0)));obtain⟨M,hM⟩:∃ M,64*n=M:=⟨_,rfl⟩
 have M2:(M:Int)<=262144:=by omega
 have HM:=Q3 hM;have HLs:=Q3 hl
 -- a fault is laid into its cell,and told
 have HEnd:Hid (∀ (V:World),Out lo hi w V->V.heap[F]? = some (Dz 0 0 111)->∀ (x y:Int),((V.setCell ⟨F,0,none⟩ (Iz x)).setCell ⟨F,1,none⟩ (Iz y)).heap[F]? = some (Dz x y 111)/\Out F (F+1) V ((V.setCell ⟨F,0,none⟩ (Iz x)).setCell ⟨F,1,none⟩ (Iz y))/\Out lo hi w ((V.setCell ⟨F,0,none⟩ (Iz x)).setCell ⟨F,1,none⟩ (Iz y))):=fun V hO hV x y=>by
  have o:Out F (F+1) V ((V.setCell ⟨F,0,none⟩ (Iz x)).setCell ⟨F,1,none⟩ (Iz y)):=(Out.refl _ _ _).zo2 Lz _ _;exact⟨z4w hV _ _,o,hO.past o (by have:=kN.out;omega)⟩
 clear h hI o0 f0 h2 hM hl;go_enter Tryz.func60,Tryz.ntmps60
 go_wp2_with fail;refine(HFi.out _).mono ?_;rintro e w1 ⟨rfl,o1⟩;have bM:=Q3 (H0.out.2.2.1.trans o1);have hF1:=o1.heap H0.out.2.2.2 z0;have pJ:=Q3 hF1;clear o1;cases hfit:B7 k z with
 | false=>
  have fU:alF n st k z t=(0,24,0,st):=by unfold alF;rw[hfit];rfl
  have gI:=Q3 fU;obtain⟨x0,x1,x2,x3⟩:=flt_facts hF1;clear hF1 hfit fU;go_wp2;have hE:=HEnd.out _ (bM.out.any lo hi) pJ.out 24 0;refine j0a (g:=F) Tryz.results60 rfl rfl rfl hE.1 ⟨by rw[gI.out];rfl,?_,hE.2.2⟩;rw[gI.out];exact(H0.out.1.quiet bM.out).kept hE.2.1 (.inl kN.out.1)
 | true=>
  have hz:=U3 hfit;have HPl:=Q3 (q4p (H0.out.1.quiet bM.out) hz.2.2.1 hz.2.2.2);cases oL:z0n n st z with
  | none=>
   have fU:alF n st k z t=(0,20,0,st):=by unfold alF;rw[hfit,oL];rfl
   have gI:=Q3 fU;rw[show j7x n st z = -1 from by unfold j7x;rw[oL],show j7w n st z=false from by unfold j7w;rw[oL]] at HPl;clear hF1 fU oL hfit hz;go_wp2_with (go_at_call 116;refine HPl.out.mono ?_;rintro e w2 ⟨rfl,o2⟩;have aH:=Q3 (bM.out.trans o2);have hF2:=o2.heap pJ.out z0;have eJ:=Q3 hF2;obtain⟨x0,x1,x2,x3⟩:=flt_facts hF2;clear hF2 o2);have hE:=HEnd.out _ (aH.out.any lo hi) eJ.out 20 0;refine j0a (g:=F) Tryz.results60 rfl rfl rfl hE.1 ⟨by rw[gI.out];rfl,?_,hE.2.2⟩;rw[gI.out];exact(H0.out.1.quiet aH.out).kept hE.2.1 (.inl kN.out.1)
  | some pf=>
   obtain⟨a,aR⟩:=pf;rw[show j7x n st z=(a:Int) from by unfold j7x;rw[oL],show j7w n st z=aR from by unfold j7w;rw[oL]] at HPl;have hpi:=q9x H0.out.2.1 hz.2.2.1 hz.2.2.2 oL;have HTk:=Q3 (fun W (o:Out 0 0 w W)=>q7z (H0.out.1.quiet o) H0.out.2.1 (t:=t) hfit oL HLs.out);obtain⟨c,hc⟩:∃ c:Int,ofV z=c:=⟨_,rfl⟩
   have HOf:=Q3 (fun w=>z4j z w);rw[hc] at HOf;have a0:(0:Int)<=(a:Int):=by omega
   have a0':¬ (a:Int)<0:=by omega
   have am:(a:Int)<(M:Int):=by have:=HM.out;omega
   have HG:=Q3 (And.intro hpi (And.intro hz (And.intro hc (And.intro hfit oL))));clear hF1 oL hfit hz hpi hc;go_wp2_with (go_at_call 116;refine HPl.out.mono ?_;rintro e w2 ⟨rfl,o2⟩;have aH:=Q3 (bM.out.trans o2);have eJ:=Q3 (o2.heap pJ.out z0);clear o2);rename_i K6 hK6 K0 hK0
   have H6:=Q3 hK6;clear hK6;refine Q4 (HOf.out _) ?_;go_wp2_with fail;refine H6.out _ _ ?_;clear H6;apply wp_seq_k;intro K9 hK9;have HK9:Hid (∀ (V:World) (u13 u14 u15 u16 u17 u18 u19 u20 u21 u22 u23 u24 u25 u26 u27 u28 u29 u30 u31 u32 u33 u34 u35 u36 u37 u38 u39 u40 u41 u42 u43 u44 u45 u46 u47 u48 u49 u50:Value),Out 0 0 w V->V.heap[F]? = some (Dz 0 0 111)->alF n st k z t=((a:Int),0,0,F9 n st a aR k z t)->K9 { tmps:=#[Pq (s 0),Iz k,Iz z,Iz t,undef,undef,undef,undef,Iz 0,Pq F,Iz (a:Int),.bool aR,Iz c,u13,u14,u15,u16,u17,u18,u19,u20,u21,u22,u23,u24,u25,u26,u27,u28,u29,u30,u31,u32,u33,u34,u35,u36,u37,u38,u39,u40,u41,u42,u43,u44,u45,u46,u47,u48,u49,u50,undef,undef,undef,undef,undef,undef,undef,undef,undef,undef,undef],defers:=[] } V):=by
    intro V u13 u14 u15 u16 u17 u18 u19 u20 u21 u22 u23 u24 u25 u26 u27 u28 u29 u30 u31 u32 u33 u34 u35 u36 u37 u38 u39 u40 u41 u42 u43 u44 u45 u46 u47 u48 u49 u50 hO hFV fU;apply hK9;have HT:=Q3 (HTk.out V hO);have HV:=Q3 (And.intro hO hFV);have gI:=Q3 fU;clear hK9 hO hFV fU HTk HPl HFi HOf;go_wp2_with (go_at_call 119;refine HT.out.mono ?_;rintro e w3 ⟨⟨v,rfl⟩,hR3,o3⟩;have hF3:=o3.heap HV.out.2 (.inr kN.out.1);have H3:=Q3 (And.intro hR3 (And.intro ((HV.out.1.any lo hi).trans o3) hF3));obtain⟨x0,x1,x2,x3⟩:=flt_facts hF3;clear hR3 o3 hF3);have hE:=HEnd.out _ H3.out.2.1 H3.out.2.2 0 0;refine j0a (g:=F) Tryz.results60 rfl rfl rfl hE.1 ⟨by rw[gI.out];rfl,?_,hE.2.2⟩;rw[gI.out];exact H3.out.1.kept hE.2.1 (.inl kN.out.1)
   have HK:=Q3 hK9;clear hK9;have hG:=HG.out;by_cases z32:32<z
   ·have hc8:c=8:=by rw[<-hG.2.2.1];unfold ofV;(repeat' split) <;> omega
    subst hc8;have fU:alF n st k z t=((a:Int),0,0,F9 n st a aR k z t):=by
     rw[q1h hG.2.2.2.1 hG.2.2.2.2,if_neg (fun q=>by omega)]
    have gI:=Q3 fU;clear fU hG;go_wp2_with fail;refine wp_region_held_drew (S:=fun _=>True) (by kernel_rfl) ?hS1 (fun aB=>?rest1)
    case hS1=>trivial
    obtain⟨Z,hZ⟩:∃ Z,w2.drew=Z:=⟨_,rfl⟩
    have OZ:Out 0 0 w2 Z:=by rw[<-hZ];exact(Out.refl 0 0 _).drew
    clear aB;rw[hZ];clear hZ;have aB:(fun(_:World)=>True) Z:=trivial;refine tk 0 ?_;refine tk 1 ?_;refine tk 2 ?_;refine sk 3 ?_;refine sk 4 ?_;refine tk 5 ?_;refine tk 6 ?_;refine sk 7 ?_;refine sk 8 ?_;refine sk 9 ?_;refine sk 10 ?_;refine sk 11 ?_;refine sk 12 ?_;refine sk 13 ?_;refine sk 14 ?_;refine sk 15 ?_;refine sk 16 ?_;refine sk 17 ?_;refine sk 18 ?_;refine sk 19 ?_;refine sk 20 ?_;refine tk 21 ?_;refine dn ?_;clear aB;go_wp2_with fail;exact HK9.out _ _ _ _ _ _ _ _ _ _ _ _ _ _ _ _ _ _ _ _ _ _ _ _ _ _ _ _ _ _ _ _ _ _ _ _ _ _ _ (aH.out.trans OZ) (OZ.heap eJ.out z0) gI.out
   ·have hs:=H7 hG.2.1.2.2.1 (by omega);rw[hG.2.2.1] at hs;obtain⟨cN,rfl⟩:∃ cN:Nat,c=(cN:Int):=⟨c.toNat,by omega⟩
    have c8:decide ((cN:Int)<8)=true:=by simp;omega
    cases nM:aR with
    | true=>
     have fU:alF n st k z t=((a:Int),0,0,F9 n st a true k z t):=by
      rw[q1h hG.2.2.2.1 hG.2.2.2.2,nM,if_neg (fun q=>by cases q.2.1)]
     subst nM;have gI:=Q3 fU;clear fU hG hs;go_wp2_with fail;refine wp_region_held_drew (S:=fun _=>True) (by kernel_rfl) ?hS24 (fun aB=>?rest24)
     case hS24=>trivial
     obtain⟨Z,hZ⟩:∃ Z,w2.drew=Z:=⟨_,rfl⟩
     have OZ:Out 0 0 w2 Z:=by rw[<-hZ];exact(Out.refl 0 0 _).drew
     clear aB;rw[hZ];clear hZ;have aB:(fun(_:World)=>True) Z:=trivial;refine tk 0 ?_;refine tk 1 ?_;refine tk 2 ?_;refine tk 3 ?_;refine tk 4 ?_;refine tk 5 ?_;refine tk 6 ?_;refine sk 7 ?_;refine sk 8 ?_;refine sk 9 ?_;refine sk 10 ?_;refine sk 11 ?_;refine sk 12 ?_;refine sk 13 ?_;refine sk 14 ?_;refine sk 15 ?_;refine sk 16 ?_;refine sk 17 ?_;refine sk 18 ?_;refine sk 19 ?_;refine sk 20 ?_;refine tk 21 ?_;refine dn ?_;clear aB;go_wp2_with fail;exact HK9.out _ _ _ _ _ _ _ _ _ _ _ _ _ _ _ _ _ _ _ _ _ _ _ _ _ _ _ _ _ _ _ _ _ _ _ _ _ _ _ (aH.out.trans OZ) (OZ.heap eJ.out z0) gI.out
    | false=>
     subst nM;have hR2:=H0.out.1.quiet aH.out;have c0:=hR2.cells.1;rw[HM.out] at c0;have d0:=hR2.rw.cell (i:=a) hG.1.2.1;have gK:=Q3 (fun W (o:Out 0 0 w2 W)=>z2b (hR2.quiet o) (c:=cN) (by omega) (f:=a+1) (by have:=hG.1.2.1;omega));obtain⟨x,hx⟩:∃ x,nf n st (cN:Int) (a+1)=x:=⟨_,rfl⟩
     have hxr:-1<=x/\x<=262143:=by
      obtain⟨f',_,hfx,_⟩:=q6x n st (cN:Int) (f:=a+1) (by have:=hG.1.2.1;omega);rw[hx] at hfx;have:=HM.out;rcases hfx with ⟨e,_⟩ | ⟨e,e2,_⟩ <;> omega
     have HLk:=Q3 (fun w=>z3k hxr.1 hxr.2 w);obtain⟨y,hy⟩:∃ y,st.W a=y:=⟨_,rfl⟩
     obtain⟨lk,lW⟩:∃ lk,z0e x=lk:=⟨_,rfl⟩
     rw[hx,show ((a+1:Nat):Int)=(a:Int)+1 from by omega] at gK;rw[lW] at HLk;rw[hy] at d0;have hwa:IntKind.i64.wrap ((a:Int)+1)=(a:Int)+1:=by simp[IntKind.wrap,IntKind.signed,IntKind.bits];omega
     have fU:alF n st k z t=if y ≠ lk then (0,21,(a:Int),st) else ((a:Int),0,0,F9 n st a false k z t):=by
      rw[q1h hG.2.2.2.1 hG.2.2.2.2,hG.2.2.1,hx,lW,hy];by_cases e:y=lk
      ·rw[if_neg (fun q=>q.2.2 e),if_neg (fun q=>q e)]
      ·rw[if_pos ⟨by omega,rfl,e⟩,if_pos e]
     by_cases e:y=lk
     ·rw[if_neg (fun q=>q e)] at fU;have e1:(y != lk)=false:=by simpa using e
      have gI:=Q3 fU;clear fU hG hs hx hxr hy lW hR2 e;go_wp2_with fail;refine wp_region_held_drew (S:=fun w'=>cq w' (s 0) 0=some (.slice (some ⟨s 1,0,none⟩) M cw)/\cq w' (s 1) a=some (Iz y)) (by kernel_rfl) ?hS47 (fun aB=>?rest47)
      case hS47=>exact⟨c0,d0⟩
      obtain⟨Z,hZ⟩:∃ Z,w2.drew=Z:=⟨_,rfl⟩
      have OZ:Out 0 0 w2 Z:=by rw[<-hZ];exact(Out.refl 0 0 _).drew
      rw[hZ] at aB ⊢;clear hZ;refine tk 0 ?_;refine tk 1 ?_;refine tk 2 ?_;refine tk 3 ?_;refine tk 4 ?_;refine tk 5 ?_;refine tk 6 ?_;refine tk 7 ?_;refine tk 8 ?_;refine tk 9 ?_;refine tk 10 ?_;refine tk 11 ?_;refine tk 12 ?_;refine tk 13 ?_;refine tk 14 ?_;refine tk 15 ?_;refine tk 16 ?_;refine tk 17 ?_;refine rd1 18 fun KK hK=>?_
      go_simp;refine Q4 (gK.out _ OZ) ?_;refine hK.out _ _ (aB) fun aB=>?_
      clear hK KK;refine rd1 19 fun KK hK=>?_
      go_simp;refine Q4 (HLk.out _) ?_;refine hK.out _ _ (aB) fun aB=>?_
      clear hK KK;refine tk 20 ?_;refine tk 21 ?_;refine dn ?_;clear aB;go_wp2_with fail;exact HK9.out _ _ _ _ _ _ _ _ _ _ _ _ _ _ _ _ _ _ _ _ _ _ _ _ _ _ _ _ _ _ _ _ _ _ _ _ _ _ _ (aH.out.trans OZ) (OZ.heap eJ.out z0) gI.out
     ·rw[if_pos e] at fU;have e1:(y != lk)=true:=by simpa using e
      have gI:=Q3 fU;obtain⟨x0,x1,x2,x3⟩:=flt_facts eJ.out;clear fU hG hs hx hxr hy lW hR2 e;go_wp2_with fail;refine wp_region_held_drew (S:=fun w'=>cq w' (s 0) 0=some (.slice (some ⟨s 1,0,none⟩) M cw)/\cq w' (s 1) a=some (Iz y)) (by kernel_rfl) ?hS70 (fun aB=>?rest70)
      case hS70=>exact⟨c0,d0⟩
      obtain⟨Z,hZ⟩:∃ Z,w2.drew=Z:=⟨_,rfl⟩
      have OZ:Out 0 0 w2 Z:=by rw[<-hZ];exact(Out.refl 0 0 _).drew
      rw[hZ] at aB ⊢;clear hZ;refine tk 0 ?_;refine tk 1 ?_;refine tk 2 ?_;refine tk 3 ?_;refine tk 4 ?_;refine tk 5 ?_;refine tk 6 ?_;refine tk 7 ?_;refine tk 8 ?_;refine tk 9 ?_;refine tk 10 ?_;refine tk 11 ?_;refine tk 12 ?_;refine tk 13 ?_;refine tk 14 ?_;refine tk 15 ?_;refine tk 16 ?_;refine tk 17 ?_;refine rd1 18 fun KK hK=>?_
      go_simp;refine Q4 (gK.out _ OZ) ?_;refine hK.out _ _ (aB) fun aB=>?_
      clear hK KK;refine rd1 19 fun KK hK=>?_
      go_simp;refine Q4 (HLk.out _) ?_;refine hK.out _ _ (aB) fun aB=>?_
      clear hK KK;refine tk 20 ?_;refine tk 21 ?_;refine dn ?_;clear aB;have y0:=OZ.cell x0 z0;have y1:=OZ.cell x1 z0;have hF4:=OZ.heap eJ.out z0;obtain⟨y0,y1,y2,y3⟩:=flt_facts hF4;have fM:=Q3 hF4;clear hF4 x0 x1 x2 x3 HK HK9 c0 d0;go_wp2;have hE:=HEnd.out _ ((aH.out.trans OZ).any lo hi) fM.out 21 (a:Int);refine j0a (g:=F) Tryz.results60 rfl rfl rfl hE.1 ⟨by rw[gI.out];rfl,?_,hE.2.2⟩;rw[gI.out];exact(H0.out.1.quiet (aH.out.trans OZ)).kept hE.2.1 (.inl kN.out.1)
end
end Go.Proofs.YtjgnogflgoihfaaGreatDoor
