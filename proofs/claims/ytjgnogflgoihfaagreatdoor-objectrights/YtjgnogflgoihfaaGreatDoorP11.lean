import Derived.Test.YtjgnogflgoihfaaGreatDoorP10
namespace Go.Proofs.YtjgnogflgoihfaaGreatDoor
open Go.RowKit
set_option linter.unusedVariables false
set_option maxRecDepth 100000
set_option maxHeartbeats 16000000
set_option linter.unusedSimpArgs false
def z1y (st:Sp) (W:Nat->Int):Sp:={ st with W:=W }
theorem j1k {n:Nat} {st:Sp} (h:Inv n st) (W:Nat->Int):Inv n (z1y st W):=⟨h.n1,h.n2,h.good,h.objs,h.none,h.heads,h.last0,h.ser,h.one⟩
theorem z5t {w:World} {lo hi n cap:Nat} {s:Nat->Nat} {st:Sp} (h:SpAt w lo hi s n cap st) (a v:Int):Calls Tryz.prog 44 #[.pointer (some ⟨s 14,0,none⟩),.int .i64 a,.int .i64 v] w fun e w'=>e=.returned (.bool (inB (64*n) a))/\SpAt w' lo hi s n cap (z1y st (F8 n st.W a v))/\Out lo hi w w':=
 (q3i h.1 a v).mono fun e w' ⟨h1,h2,h3⟩=>⟨h1,⟨h2,j1k h.2 _⟩,h3⟩
def mkF (n:Nat) (a k z:Int) (W:Nat->Int):List Nat->Nat->Int
 | []=>W
 | x :: l=>mkF n a k z (F8 n W (a+x) (z1z (J9 k z x))) l
theorem x4r (n:Nat) (a k z:Int) (l:List Nat) (x:Nat):∀ W,mkF n a k z W (l ++ [x])=F8 n (mkF n a k z W l) (a+x) (z1z (J9 k z x)):=by
 induction l with
 | nil=>intro W;rfl
 | cons y l ih=>intro W;exact ih _
theorem x0q {n:Nat} {a k z:Int} {W:Nat->Int} {l:List Nat} {j x:Nat} (h:l[j]? = some x):mkF n a k z W (l.take (j+1))=F8 n (mkF n a k z W (l.take j)) (a+x) (z1z (J9 k z x)):=by
 rw[List.take_add_one,h];exact x4r n a k z _ x W
theorem x3x {k s:Int} {x:Nat} (h:x ∈ z0l k s):x<=1024:=by
 unfold z0l at h;by_cases c:F4 k s=true
 ·rw[if_pos c] at h;unfold q1i at h;have:=List.mem_range.1 (List.mem_filter.1 h).1;have:=z4m c;omega
 ·rw[if_neg c] at h;exact absurd h (List.not_mem_nil)
theorem j9t (k s:Int):(z0l k s).length<=1024:=by
 unfold z0l;by_cases c:F4 k s=true
 ·rw[if_pos c];have:=q2s k s.toNat;have:=z4m c;omega
 ·rw[if_neg c];simp
theorem j6b {w:World} {v:Value} {base:Nat} {l:List Nat} (h:ListIs_o w base v l) :
  ∃ p cap,v=.slice p l.length cap/\(0<l.length->∃ g,p=some ⟨g,0,none⟩/\base<=g/\∀ (i x:Nat),l[i]? = some x->w.cell? ⟨g,i,none⟩=some (.int .i64 (x:Int))):=by
 obtain⟨cJ,kQ⟩:=h;rcases kQ with ⟨hv,h0⟩ | ⟨g,eD,eT,rfl,hg1,pP,hg3,hg4,hg5,hg6⟩
 ·exact⟨none,0,by rw[hv,h0],fun h=>by omega⟩
 ·refine⟨_,_,rfl,fun _=>⟨g,rfl,hg1,fun i x hx=>?_⟩⟩;have hi:i<l.length:=(List.getElem?_eq_some_iff.1 hx).1;have e:(eT.toList.take (l.length*1))[i]? = (q1l l)[i]? :=by rw[hg6]
  have e2:l[i]=x:=(List.getElem?_eq_some_iff.1 hx).2;simp[q1l,hi,e2] at e;simp[World.cell?,pP,e]
theorem x6v {n:Nat} {st:Sp} (hI:Inv n st):∀ a b,(J0 n st).M a=some b->∃ j:Nat,a=j/\j<64*n:=by
 intro a b h;have h':obM st a=some b:=h;unfold obM at h';by_cases e:0<=a/\Y9 (st.O a.toNat)=true
 ·exact⟨a.toNat,by omega,(hI.objs _ e.2).1⟩
 ·rw[if_neg e] at h';cases h'
theorem x7g {n:Nat} {st:Sp} {a:Nat} {b:Blk} (h:(J0 n st).M (a:Int)=some b):b=st.O a/\Y9 (st.O a)=true:=by
 have h':obM st (a:Int)=some b:=h;unfold obM at h';rw[show ((a:Int)).toNat=a from by omega] at h';by_cases e:(0:Int)<=(a:Int)/\Y9 (st.O a)=true
 ·rw[if_pos e] at h';cases h';exact⟨rfl,e.2⟩
 ·rw[if_neg e] at h';cases h'
theorem H7 {n:Nat} {st:Sp} (hI:Inv n st):U6 n (J0 n st):=by
 intro a b h;obtain⟨j,rfl,hj⟩:=x6v hI a b h;obtain⟨rfl,hh⟩:=x7g h;obtain⟨h1,h2,h3⟩:=hI.objs j hh;have hz:=U7 h2;refine⟨by omega,?_,hz.2.2.1,hz.2.2.2⟩;rcases h3 with ⟨s1,s2,s3⟩ | ⟨s1,s2,s3⟩
 ·have hc:=z0b hz.2.2.1 s1;unfold G1 wN at s3;rw[Bool.and_eq_true] at s3;have s5:j % 64+(Y5 (ofV (st.O j).2.1)).toNat<=64:=by simpa using s3.2
  omega
 ·rcases hI.good (j / 64) (by omega) with e | ⟨c,_,_,e⟩ | ⟨q,q1,q2,q3,e,q4⟩ | ⟨e,_⟩
  ·rw[s3] at e;simp at e
  ·rw[s3] at e;simp at e
  ·rw[s3] at e;have:((st.O j).2.1+63) / 64=(q:Int):=by simpa using e
   omega
  ·rw[s3] at e;simp at e
theorem j7e {a:Int} (h:J2 2 a=true) (w:World):Calls Tryz.prog 47 #[.int .i64 a] w fun e w'=>e=.returned (.agg #[.int .i64 2,.int .i64 a])/\Out 0 0 w w':=by
 refine(j2x a w).mono ?_;rintro e w' ⟨rfl,q⟩;unfold z0z z1a;rw[if_pos h,if_pos h];exact⟨rfl,W8 q⟩
section
variable {w:World} {lo hi hb:Nat} {s:Nat->Nat} {n cap:Nat} {st:Sp}
theorem j3s (h:SpAt w lo hi s n cap st) (hH:cq w hb 0=some (Pq (s 14))) (hout:hb<lo\/hi<=hb) (k nn t:Int) (hk:k=4):Kz 16 #[Pq hb,Iz k,Iz nn,Iz t] w fun e w'=>e=.returned (.tuple #[Vz 0 0,Vz 24 0])/\Out 0 0 w w':=by
 subst hk;have pM:∀ (fn:Fn) (first cap:Array Value) (w:World),(Instr.makeFunc fn first cap).run Tryz.prog w=.ok (.func fn first cap) w:=fun _ _ _ _=>rfl
 have Hh:=Q3 h;have fR:=Q3 (J3 (w:=w) (o:=Dz 0 0 32) (o2:=Dz 0 0 46));have fF:=Q3 (J7 (w:=w) (o:=Dz 0 0 32) (o2:=Dz 0 0 46));have HO:=Q3 (((Out.refl 0 0 w).alloc (Dz 0 0 32)).alloc (Dz 0 0 46));obtain⟨gv,aR⟩:∃ g,w.heap.size=g:=⟨_,rfl⟩
 have bD:=Q3 aR;obtain⟨V1,gX⟩:∃ V,(w.alloc (Dz 0 0 32)).alloc (Dz 0 0 46)=V:=⟨_,rfl⟩
 rw[gX,aR] at fR fF;rw[gX] at HO;have mF:=HO.out.cell hH z0;have HH1:=Q3 mF;have fK:=Q3 hout;clear h hH hout;go_enter_defers Tryz.func16,Tryz.ntmps16
 go_wp2_with fail;(try rw[gX]);(try rw[aR]);clear gX aR;refine(U3 _ _).mono ?_;rintro e w5 ⟨rfl,he⟩;rw[he];clear he w5;go_wp2_with fail;refine(z2z _ _).mono ?_;rintro e w6 ⟨rfl,he⟩;rw[he];clear he w6;simp;refine leaves_cons (f:=38) (args:=#[.pointer (some ⟨gv+1,0,none⟩)]) (by simp) (by simp[go_sem]) ?_;refine(z2w ((Out.refl 0 0 V1).heap fF.out z0)).mono ?_;rintro e u' w9 ⟨rfl,rfl,f9,q9⟩;exact U0 (J4 Tryz.results16 rfl rfl (U5 (q9.heap ((Out.refl 0 0 V1).heap fR.out z0) (.inl (Nat.lt_succ_self _)))) (J8 f9)) ⟨rfl,HO.out.trans' q9 (by have:=bD.out;omega)⟩
theorem j3r (h:SpAt w lo hi s n cap st) (hH:cq w hb 0=some (Pq (s 14))) (hout:hb<lo\/hi<=hb) (k nn t:Int) (hk:k ≠ 4) (hz:U9 k nn=false):Kz 16 #[Pq hb,Iz k,Iz nn,Iz t] w fun e w'=>e=.returned (.tuple #[Vz 0 0,Vz 24 0])/\Out 0 0 w w':=by
 have k4:(k != 4)=true:=by simpa using hk
 clear hk;have pM:∀ (fn:Fn) (first cap:Array Value) (w:World),(Instr.makeFunc fn first cap).run Tryz.prog w=.ok (.func fn first cap) w:=fun _ _ _ _=>rfl
 have Hh:=Q3 h;have fR:=Q3 (J3 (w:=w) (o:=Dz 0 0 32) (o2:=Dz 0 0 46));have fF:=Q3 (J7 (w:=w) (o:=Dz 0 0 32) (o2:=Dz 0 0 46));have HO:=Q3 (((Out.refl 0 0 w).alloc (Dz 0 0 32)).alloc (Dz 0 0 46));obtain⟨gv,aR⟩:∃ g,w.heap.size=g:=⟨_,rfl⟩
 have bD:=Q3 aR;obtain⟨V1,gX⟩:∃ V,(w.alloc (Dz 0 0 32)).alloc (Dz 0 0 46)=V:=⟨_,rfl⟩
 rw[gX,aR] at fR fF;rw[gX] at HO;have mF:=HO.out.cell hH z0;have HH1:=Q3 mF;have fK:=Q3 hout;clear h hH hout;have HTk:=Q3 (q6o (Hh.out.quiet HO.out) mF fK.out k nn t hz);clear hz;go_enter_defers Tryz.func16,Tryz.ntmps16
 go_wp2_with fail;(try rw[gX]);(try rw[aR]);clear gX aR;refine(U3 _ _).mono ?_;rintro e w5 ⟨rfl,he⟩;rw[he];clear he w5;go_wp2_with fail;refine(z0o _ _).mono ?_;rintro e w6 ⟨rfl,he⟩;rw[he];clear he w6;go_wp2_with fail;refine HTk.out.mono ?_;rintro e X3 ⟨rfl,q3⟩;simp;refine leaves_cons (f:=38) (args:=#[.pointer (some ⟨gv+1,0,none⟩)]) (by simp) (by simp[go_sem]) ?_;refine(z2w (q3.heap fF.out z0)).mono ?_;rintro e u' w9 ⟨rfl,rfl,f9,q9⟩;exact U0 (J4 Tryz.results16 rfl rfl (U5 (q9.heap (q3.heap fR.out z0) (.inl (Nat.lt_succ_self _)))) (J8 f9)) ⟨rfl,(HO.out.trans q3).trans' q9 (by have:=bD.out;omega)⟩
theorem j3p (h:SpAt w lo hi s n cap st) (hH:cq w hb 0=some (Pq (s 14))) (hout:hb<lo\/hi<=hb) (k nn t:Int) (hk:k ≠ 4) {z a ec fa:Int} (hz:U9 k nn=true) (hzv:U2 k nn=z) (z1:-9223372036854775808<=z) (z2:z<=9223372036854775807) (hl:st.last<4611686018427387904) (ha:(alF n st k z t).1=a) (he:(alF n st k z t).2.1=ec) (hf:(alF n st k z t).2.2.1=fa) (iF:ec ≠ 0):Kz 16 #[Pq hb,Iz k,Iz nn,Iz t] w fun e w'=>e=.returned (.tuple #[Vz 0 0,Vz ec fa])/\SpAt w' lo hi s n cap (alF n st k z t).2.2.2/\Out lo hi w w':=by
 have k4:(k != 4)=true:=by simpa using hk
 clear hk;have pM:∀ (fn:Fn) (first cap:Array Value) (w:World),(Instr.makeFunc fn first cap).run Tryz.prog w=.ok (.func fn first cap) w:=fun _ _ _ _=>rfl
 have Hh:=Q3 h;have fR:=Q3 (J3 (w:=w) (o:=Dz 0 0 32) (o2:=Dz 0 0 46));have fF:=Q3 (J7 (w:=w) (o:=Dz 0 0 32) (o2:=Dz 0 0 46));have HO:=Q3 (((Out.refl 0 0 w).alloc (Dz 0 0 32)).alloc (Dz 0 0 46));obtain⟨gv,aR⟩:∃ g,w.heap.size=g:=⟨_,rfl⟩
 have bD:=Q3 aR;obtain⟨V1,gX⟩:∃ V,(w.alloc (Dz 0 0 32)).alloc (Dz 0 0 46)=V:=⟨_,rfl⟩
 rw[gX,aR] at fR fF;rw[gX] at HO;have mF:=HO.out.cell hH z0;have HH1:=Q3 mF;have fK:=Q3 hout;clear h hH hout;have HTk:=Q3 (q6n (Hh.out.quiet HO.out) mF fK.out k nn t hz hzv z1 z2 hl ha he hf iF);have HG:=Q3 Hh.out.1.glob;clear hz hzv z1 z2 hl ha he hf iF;go_enter_defers Tryz.func16,Tryz.ntmps16
 go_wp2_with fail;(try rw[gX]);(try rw[aR]);clear gX aR;refine(U3 _ _).mono ?_;rintro e w5 ⟨rfl,he⟩;rw[he];clear he w5;go_wp2_with fail;refine(z0o _ _).mono ?_;rintro e w6 ⟨rfl,he⟩;rw[he];clear he w6;go_wp2_with fail;refine HTk.out.mono ?_;rintro e X3 ⟨rfl,S3,q3⟩;have hd:hi<=gv+1:=by have h1:=Hh.out.1.top;have h2:=bD.out;omega
 have hn:4<=gv+1:=by have h3:=Hh.out.1.glob;have h4:=Hh.out.1.inn 0 (by omega);omega
 simp;refine leaves_cons (f:=38) (args:=#[.pointer (some ⟨gv+1,0,none⟩)]) (by simp) (by simp[go_sem]) ?_;refine(z2w (q3.heap fF.out (.inr (by have h1:=Hh.out.1.top;have h2:=bD.out;omega)))).mono ?_;rintro e u' w9 ⟨rfl,rfl,f9,q9⟩;exact U0 (J4 Tryz.results16 rfl rfl (U5 (q9.heap (q3.heap fR.out (.inr (by have h1:=Hh.out.1.top;have h2:=bD.out;omega))) (.inl (Nat.lt_succ_self _)))) (J8 f9)) ⟨rfl,S3.kept q9 (.inl hd) (.inl hn),((HO.out.any lo hi).trans q3).then q9 (by have:=bD.out;omega)⟩
theorem j3q (h:SpAt w lo hi s n cap st) (hH:cq w hb 0=some (Pq (s 14))) (hout:hb<lo\/hi<=hb) (k nn t:Int) (hk:k ≠ 4) {z a fa:Int} (hz:U9 k nn=true) (hzv:U2 k nn=z) (z1:-9223372036854775808<=z) (z2:z<=9223372036854775807) (hl:st.last<4611686018427387904) (ha:(alF n st k z t).1=a) (he:(alF n st k z t).2.1=0) (hf:(alF n st k z t).2.2.1=fa) {b1 b2 b3 b4:Int} (hM:(J0 n (alF n st k z t).2.2.2).M a=some (b1,b2,b3,b4)):Kz 16 #[Pq hb,Iz k,Iz nn,Iz t] w fun e w'=>e=.returned (.tuple #[Vz 2 a,Vz 0 0])/\SpAt w' lo hi s n cap (z1y (alF n st k z t).2.2.2 (mkF n a b1 b2 (alF n st k z t).2.2.2.W (z0l b1 b2)))/\Out lo hi w w':=by
 have k4:(k != 4)=true:=by simpa using hk
 clear hk;have pM:∀ (fn:Fn) (first cap:Array Value) (w:World),(Instr.makeFunc fn first cap).run Tryz.prog w=.ok (.func fn first cap) w:=fun _ _ _ _=>rfl
 have Hh:=Q3 h;have fR:=Q3 (J3 (w:=w) (o:=Dz 0 0 32) (o2:=Dz 0 0 46));have fF:=Q3 (J7 (w:=w) (o:=Dz 0 0 32) (o2:=Dz 0 0 46));have HO:=Q3 (((Out.refl 0 0 w).alloc (Dz 0 0 32)).alloc (Dz 0 0 46));obtain⟨gv,aR⟩:∃ g,w.heap.size=g:=⟨_,rfl⟩
 have bD:=Q3 aR;obtain⟨V1,gX⟩:∃ V,(w.alloc (Dz 0 0 32)).alloc (Dz 0 0 46)=V:=⟨_,rfl⟩
 rw[gX,aR] at fR fF;rw[gX] at HO;have mF:=HO.out.cell hH z0;have HH1:=Q3 mF;have fK:=Q3 hout;clear h hH hout;have HTk:=Q3 (j8c (Hh.out.quiet HO.out) mF fK.out k nn t hz hzv z1 z2 hl ha he hf hM);have Ha:Hid (∀ V,SpAt V lo hi s n cap (alF n st k z t).2.2.2->0<=a/\a+b2<=64*n/\1<=b2/\b2<=1024/\n<=4096):=fun V hV=>by
  have q:=H7 hV.2 a _ hM;exact⟨q.1,q.2.1,q.2.2.1,q.2.2.2,hV.1.n2⟩
 generalize (alF n st k z t).2.2.2=S2 at *
 clear hz hzv z1 z2 hl ha he hf hM mF;go_enter_defers Tryz.func16,Tryz.ntmps16
 go_wp2_with fail;(try rw[gX]);(try rw[aR]);clear gX aR;refine(U3 _ _).mono ?_;rintro e w5 ⟨rfl,he⟩;rw[he];clear he w5;go_wp2_with fail;refine(z0o _ _).mono ?_;rintro e w6 ⟨rfl,he⟩;rw[he];clear he w6;go_wp2_with fail;refine HTk.out.mono ?_;rintro e X3 ⟨rfl,S3,q3⟩;replace Ha:=Q3 (Ha.out X3 S3);obtain⟨gb,bG⟩:∃ g,X3.heap.size=g:=⟨_,rfl⟩
 obtain⟨V4,cG⟩:∃ V,X3.alloc (Ez a b1 b2 b3 b4 81)=V:=⟨_,rfl⟩
 have o4:Out 0 0 X3 V4:=by rw[<-cG];exact(Out.refl 0 0 _).alloc _
 have f4:V4.heap[gb]? = some (Ez a b1 b2 b3 b4 81):=by rw[<-cG,<-bG];exact heap_alloc_new _ _
 have cU:Hid (hi<=gb):=by have h1:=S3.1.top;rw[<-bG];exact h1
 have nI:=Q3 f4;have HS4:=Q3 (S3.quiet o4);have HQ4:=Q3 (((HO.out.any lo hi).trans q3).trans (o4.any lo hi));have HQ1:=Q3 (q3.trans (o4.any lo hi));obtain⟨y0,y1,y2,y3,y4,y5⟩:=W7 f4;clear S3 q3 o4 f4;go_wp2_with fail;(try rw[cG]);(try rw[bG]);clear cG bG;refine(q4p b1 b2 HS4.out.1.tab (by have:=Ha.out;omega) (by have:=Ha.out;omega)).mono ?_;rintro e X5 ⟨vl,rfl,L5,q5⟩;obtain⟨lp,lc,rfl,hlp⟩:=j6b L5;have Hlp:=Q3 hlp;have HL:=Q3 (j9t b1 b2);have mN:=Q3 (HS4.out.quiet q5);have HQ5:=Q3 (HQ4.out.trans (q5.any lo hi));have HQ15:=Q3 (HQ1.out.trans (q5.any lo hi));have HB5:=Q3 (q5.heap nI.out z0);have HV4:Hid (hi<=V4.heap.size):=HS4.out.1.top;obtain⟨L,hL⟩:∃ L,(z0l b1 b2).length=L:=⟨_,rfl⟩
 rw[hL];rw[hL] at Hlp HL;have HLe:=Q3 hL;have hLi:(L:Int)<=1024:=by have:=HL.out;omega
 clear hL hlp L5 q5 y0 y1 y2 y3 y4 y5;go_wp2_with fail;go_loopw [30] (fun y wr=>∃ j:Nat,j<=L/\y=Iz (j:Int)/\SpAt wr lo hi s n cap (z1y S2 (mkF n a b1 b2 S2.W ((z0l b1 b2).take j)))/\Out lo hi X5 wr) (fun y _=>L-(intOf y).toNat)
 case atStart=>exact⟨0,Nat.zero_le _,rfl,mN.out,Out.refl _ _ _⟩
 case round=>
  obtain⟨j,j1,rfl,hS,hO⟩:=hrel;have dR:=Q3 (And.intro hS hO);obtain⟨y0,y1,y2,y3,y4,y5⟩:=W7 (hO.heap HB5.out (.inr cU.out));clear hS hO;by_cases hj:j<L
  ·have b1':(j:Int)<(L:Int):=by omega
   have b0:(0:Int)<=(j:Int):=by omega
   obtain⟨x,hx⟩:∃ x,(z0l b1 b2)[j]? = some x:=⟨_,List.getElem?_eq_getElem (by have:=HLe.out;omega)⟩
   have Hx:=Q3 hx;obtain⟨g,rfl,hg1,pP⟩:=Hlp.out (by omega);have d0:=dR.out.2.cell (pP j x hx) (.inr (by have h1:=HV4.out;omega));have hxx:x<=1024:=x3x (List.mem_of_getElem? hx);have mD:IntKind.i64.wrap (a+(x:Int))=a+x:=by have h2:=Ha.out;rw[IntKind.wrap_i64];omega
   have y6:=(HQ15.out.trans dR.out.2).cell HH1.out fK.out;clear hx hg1 pP hxx y3 y4 y5;go_wp2_with fail;clear d0;refine wp_region_held_drew (S:=fun w'=>cq w' hb 0=some (Pq (s 14))/\cq w' gb 0=some (Iz a)/\cq w' gb 1=some (Iz b1)/\cq w' gb 2=some (Iz b2)) (by kernel_rfl) ?hS197 (fun aB=>?rest197)
   case hS197=>exact⟨y6,y0,y1,y2⟩
   obtain⟨Z0,hZ⟩:∃ Z,wr.drew=Z:=⟨_,rfl⟩
   have O:Out 0 0 wr Z0:=by rw[<-hZ];exact(Out.refl 0 0 _).drew
   rw[hZ] at aB ⊢;clear hZ;refine wpAnyH_take (i:=0) (v:=?v198) rfl (by kernel_rfl) (by kernel_rfl) (by kernel_rfl) (fun _ _ _ h=>Q6 (Q7 Tryz.results16 (by decide) (by decide) _ _) _ _ _ h) (Or.inl ⟨by rfl,?hy198⟩) (by assumption) ?rest198
   case hy198=>(intro w aW;(try dsimp only at aW);simp only[xa,xb,xc];go_simp;(try with_reducible rfl))
   (try simp only[Act.put,xa,xb,xc,xd,xe,xf]);refine wpAnyH_take (i:=1) (v:=?v199) rfl (by kernel_rfl) (by kernel_rfl) (by kernel_rfl) (fun _ _ _ h=>Q6 (Q7 Tryz.results16 (by decide) (by decide) _ _) _ _ _ h) (Or.inl ⟨by rfl,?hy199⟩) (by assumption) ?rest199
   case hy199=>(intro w aW;(try dsimp only at aW);simp only[xa,xb,xc];go_simp;(try with_reducible rfl))
   (try simp only[Act.put,xa,xb,xc,xd,xe,xf]);refine wpAnyH_take (i:=2) (v:=?v200) rfl (by kernel_rfl) (by kernel_rfl) (by kernel_rfl) (fun _ _ _ h=>Q6 (Q7 Tryz.results16 (by decide) (by decide) _ _) _ _ _ h) (Or.inl ⟨by rfl,?hy200⟩) (by assumption) ?rest200
   case hy200=>(intro w aW;(try dsimp only at aW);simp only[xa,xb,xc];go_simp;(try with_reducible rfl))
   (try simp only[Act.put,xa,xb,xc,xd,xe,xf]);refine wpAnyH_take (i:=3) (v:=?v201) rfl (by kernel_rfl) (by kernel_rfl) (by kernel_rfl) (fun _ _ _ h=>Q6 (Q7 Tryz.results16 (by decide) (by decide) _ _) _ _ _ h) (Or.inl ⟨by rfl,?hy201⟩) (by assumption) ?rest201
   case hy201=>(intro w aW;(try dsimp only at aW);simp only[xa,xb,xc];go_simp;(try with_reducible rfl))
   (try simp only[Act.put,xa,xb,xc,xd,xe,xf]);refine wpAnyH_take (i:=4) (v:=?v202) rfl (by kernel_rfl) (by kernel_rfl) (by kernel_rfl) (fun _ _ _ h=>Q6 (Q7 Tryz.results16 (by decide) (by decide) _ _) _ _ _ h) (Or.inl ⟨by rfl,?hy202⟩) (by assumption) ?rest202
   case hy202=>(intro w aW;(try dsimp only at aW);simp only[xa,xb,xc];go_simp;(try with_reducible rfl))
   (try simp only[Act.put,xa,xb,xc,xd,xe,xf]);refine wpAnyH_take (i:=5) (v:=?v203) rfl (by kernel_rfl) (by kernel_rfl) (by kernel_rfl) (fun _ _ _ h=>Q6 (Q7 Tryz.results16 (by decide) (by decide) _ _) _ _ _ h) (Or.inl ⟨by rfl,?hy203⟩) (by assumption) ?rest203
   case hy203=>(intro w aW;(try dsimp only at aW);simp only[xa,xb,xc];go_simp;(try with_reducible rfl))
   (try simp only[Act.put,xa,xb,xc,xd,xe,xf]);refine wpAnyH_take (i:=6) (v:=?v204) rfl (by kernel_rfl) (by kernel_rfl) (by kernel_rfl) (fun _ _ _ h=>Q6 (Q7 Tryz.results16 (by decide) (by decide) _ _) _ _ _ h) (Or.inl ⟨by rfl,?hy204⟩) (by assumption) ?rest204
   case hy204=>(intro w aW;(try dsimp only at aW);simp only[xa,xb,xc];go_simp;(try with_reducible rfl))
   (try simp only[Act.put,xa,xb,xc,xd,xe,xf]);refine wpAnyH_take (i:=7) (v:=?v205) rfl (by kernel_rfl) (by kernel_rfl) (by kernel_rfl) (fun _ _ _ h=>Q6 (Q7 Tryz.results16 (by decide) (by decide) _ _) _ _ _ h) (Or.inl ⟨by rfl,?hy205⟩) (by assumption) ?rest205
   case hy205=>(intro w aW;(try dsimp only at aW);simp only[xa,xb,xc];go_simp;(try with_reducible rfl))
   (try simp only[Act.put,xa,xb,xc,xd,xe,xf]);refine wpAnyH_take (i:=8) (v:=?v206) rfl (by kernel_rfl) (by kernel_rfl) (by kernel_rfl) (fun _ _ _ h=>Q6 (Q7 Tryz.results16 (by decide) (by decide) _ _) _ _ _ h) (Or.inl ⟨by rfl,?hy206⟩) (by assumption) ?rest206
   case hy206=>(intro w aW;(try dsimp only at aW);simp only[xa,xb,xc];go_simp;(try with_reducible rfl))
   (try simp only[Act.put,xa,xb,xc,xd,xe,xf]);refine wpAnyH_take (i:=9) (v:=?v207) rfl (by kernel_rfl) (by kernel_rfl) (by kernel_rfl) (fun _ _ _ h=>Q6 (Q7 Tryz.results16 (by decide) (by decide) _ _) _ _ _ h) (Or.inl ⟨by rfl,?hy207⟩) (by assumption) ?rest207
   case hy207=>(intro w aW;(try dsimp only at aW);simp only[xa,xb,xc];go_simp;(try with_reducible rfl))
   (try simp only[Act.put,xa,xb,xc,xd,xe,xf]);refine wpAnyH_take (i:=10) (v:=?v208) rfl (by kernel_rfl) (by kernel_rfl) (by kernel_rfl) (fun _ _ _ h=>Q6 (Q7 Tryz.results16 (by decide) (by decide) _ _) _ _ _ h) (Or.inl ⟨by rfl,?hy208⟩) (by assumption) ?rest208
   case hy208=>(intro w aW;(try dsimp only at aW);simp only[xa,xb,xc];go_simp;(try with_reducible rfl))
   (try simp only[Act.put,xa,xb,xc,xd,xe,xf]);refine wpAnyH_take (i:=11) (v:=?v209) rfl (by kernel_rfl) (by kernel_rfl) (by kernel_rfl) (fun _ _ _ h=>Q6 (Q7 Tryz.results16 (by decide) (by decide) _ _) _ _ _ h) (Or.inl ⟨by rfl,?hy209⟩) (by assumption) ?rest209
   case hy209=>(intro w aW;(try dsimp only at aW);simp only[xa,xb,xc];go_simp;(try with_reducible rfl))
   (try simp only[Act.put,xa,xb,xc,xd,xe,xf]);refine wpAnyH_take (i:=12) (v:=?v210) rfl (by kernel_rfl) (by kernel_rfl) (by kernel_rfl) (fun _ _ _ h=>Q6 (Q7 Tryz.results16 (by decide) (by decide) _ _) _ _ _ h) (Or.inl ⟨by rfl,?hy210⟩) (by assumption) ?rest210
   case hy210=>(intro w aW;(try dsimp only at aW);simp only[xa,xb,xc];go_simp;(try with_reducible rfl))
   refine rd1 13 fun KK hK=>?_
   simp only[xa,xb,xc];go_simp;refine(z3i b1 b2 x ((dR.out.1.quiet O).1.tab) (by have:=Ha.out;omega) (by have:=Ha.out;omega)).mono ?_;rintro e w6 ⟨rfl,he⟩;rw[he];clear he w6;refine hK.out _ _ (aB) fun aB=>?_
   clear hK KK;refine rd1 14 fun KK hK=>?_
   simp only[xa,xb,xc];go_simp;refine(j5h _ _).mono ?_;rintro e X7 ⟨rfl,q7⟩;replace O:=O.trans q7;refine hK.out _ _ ⟨q7.cell aB.1 z0,q7.cell aB.2.1 z0,q7.cell aB.2.2.1 z0,q7.cell aB.2.2.2 z0⟩ fun aB=>?_
   clear q7 hK KK;refine rd1 15 fun KK hK=>?_
   simp only[xa,xb,xc];go_simp;refine(z5t (dR.out.1.quiet O) (a+x) (z1z (J9 b1 b2 x))).mono ?_;rintro e X9 ⟨rfl,P9,q9⟩;refine hK.out _ _ ⟨q9.cell aB.1 fK.out,q9.cell aB.2.1 (.inr cU.out),q9.cell aB.2.2.1 (.inr cU.out),q9.cell aB.2.2.2 (.inr cU.out)⟩ fun aB=>?_
   clear hK KK;refine dn ?_;have HP9:Hid (SpAt X9 lo hi s n cap (z1y S2 (mkF n a b1 b2 S2.W ((z0l b1 b2).take (j+1))))):=by
    rw[x0q Hx.out];exact P9
   have HQ9:=Q3 ((dR.out.2.trans (O.any lo hi)).trans q9);clear aB P9 q9 O y0 y1 y2 y6;go_wp2_with fail;go_roundw
   case rel=>exact⟨j+1,by omega,by go_num,HP9.out,HQ9.out⟩
   case measure=>simp[intOf];omega
  ·have b1':¬ (j:Int)<(L:Int):=by omega
   have ej:j=L:=by omega
   subst ej;have HE:=Q3 dR.out.1;rw[show (z0l b1 b2).take j=z0l b1 b2 from List.take_of_length_le (by have:=HLe.out;omega)] at HE;have HVa:Hid (J2 2 a=true):=by
    have h1:=Ha.out;unfold J2;rw[decide_eq_true_eq];exact .inr (.inl ⟨rfl,by omega,by omega⟩)
   go_wp2_with fail;refine(j7e HVa.out _).mono ?_;rintro e X8 ⟨rfl,q8⟩;have HQ8:=Q3 ((HQ15.out.trans dR.out.2).trans (q8.any lo hi));have jB:=Q3 (HQ8.out.heap fR.out (.inr (by have h1:=Hh.out.1.top;have h2:=bD.out;omega)));have eI:=Q3 (HQ8.out.heap fF.out (.inr (by have h1:=Hh.out.1.top;have h2:=bD.out;omega)));have HS8:=Q3 (HE.out.quiet q8);obtain⟨a0,a1,a2,a3⟩:=Q5 jB.out;obtain⟨c0,c1,c2,c3⟩:=flt_facts eI.out;have e1:=G9 (x1:=2) (x2:=a) jB.out;have o1:=(Out.refl gv (gv+1) X8).set2 (b:=gv) (o:=0) (o':=1) Lz (Iz 2) (Iz a);have f1:=o1.heap eI.out (.inr (Nat.le_refl _));have f2:=J5 (x':=0) (y':=0) f1;have o2:=(Out.refl (gv+1) (gv+2) ((X8.setCell ⟨gv,0,none⟩ (Iz 2)).setCell ⟨gv,1,none⟩ (Iz a))).set2 (b:=gv+1) (o:=0) (o':=1) Lz (Iz 0) (Iz 0);have e2:=o2.heap e1 (.inl (Nat.lt_succ_self _));have hd:hi<=gv:=by have h1:=Hh.out.1.top;have h2:=bD.out;omega
   have hn:4<=gv:=by have h3:=Hh.out.1.glob;have h4:=Hh.out.1.inn 0 (by omega);omega
   have P9:=(HS8.out.kept o1 (.inl hd) (.inl hn)).kept o2 (.inl (by omega)) (.inl (by omega));have Q9:=(((HO.out.any lo hi).trans HQ8.out).then o1 (by have:=bD.out;omega)).then o2 (by have:=bD.out;omega);have kN:=Q3 (And.intro e2 (And.intro f2 (And.intro P9 Q9)));clear q8 e1 o1 f1 f2 o2 e2 P9 Q9 y0 y1 y2 y3 y4 y5;go_wp2;refine leaves_cons (f:=38) (args:=#[.pointer (some ⟨gv+1,0,none⟩)]) (by simp) (by simp[go_sem]) ?_;refine(q0r kN.out.2.1).mono ?_;rintro e u' w9 ⟨rfl,rfl,f9,q9⟩;exact U0 (J4 Tryz.results16 rfl rfl (U5 (q9.heap kN.out.1 (.inl (Nat.lt_succ_self _)))) (J8 f9)) ⟨rfl,kN.out.2.2.1.kept q9 (.inl (by omega)) (.inl (by omega)),kN.out.2.2.2.then q9 (by have:=bD.out;omega)⟩
end
theorem NewS {w:World} (hT:Tab w) (n:Nat) (h1:1<=n) (h2:n<=4096) :
  Calls Tryz.prog 15 #[.int .i64 n] w fun e w'=>∃ s cap hi hb,e=.returned (.tuple #[.pointer (some ⟨hb,0,none⟩),.int .i64 0])/\SpAt w' w.heap.size hi s n cap newSp/\hi<=hb/\w'.cell? ⟨hb,0,none⟩=some (.pointer (some ⟨s 14,0,none⟩))/\Out 0 0 w w':=by
 refine(x3d hT n h1 h2).mono ?_;rintro e w' ⟨s,cap,hi,hb,rfl,hr,h3,h4,h5⟩;refine⟨s,cap,hi,hb,rfl,⟨?_,x4g h1 h2⟩,h3,h4,h5⟩;rw[<-x5e];exact hr
theorem al1:(alF 1 newSp 1 3 0).1=0/\(alF 1 newSp 1 3 0).2.1=0/\(alF 1 newSp 1 3 0).2.2.1=0:=by decide +kernel
theorem al2:(J0 1 (alF 1 newSp 1 3 0).2.2.2).M 0=some (1,3,1,0):=by decide +kernel
theorem al4:G3 (J9 1 3 1)=true/\J2 1 5=true/\U9 1 0=true/\U2 1 0=3:=by decide +kernel
theorem q9v {w:World} {lo hi hb n cap:Nat} {s:Nat->Nat} {st:Sp} (h:SpAt w lo hi s n cap st) (hH:w.cell? ⟨hb,0,none⟩=some (.pointer (some ⟨s 14,0,none⟩))) (hout:hb<lo\/hi<=hb) (k m i xk xn:Int) {t1 t2 t3 t4:Int} (hM:(J0 n st).M m=some (t1,t2,t3,t4)) (dX:opE (J0 n st) k m=0) (hf:G3 (J9 t1 t2 i)=true) (hx:J2 xk xn=true) (hg:rgB (J0 n st) m (t1,t2,t3,t4) (J9 t1 t2 i) (xn*8+(xk-1))=true) :
  Calls Tryz.prog 17 #[.pointer (some ⟨hb,0,none⟩),.agg #[.int .i64 k,.int .i64 m],.int .i64 i,.agg #[.int .i64 xk,.int .i64 xn]] w fun e w'=>e=.returned (.agg #[.int .i64 0,.int .i64 0])/\SpAt w' lo hi s n cap (z1y st (F8 n st.W (m+i) (xn*8+(xk-1))))/\Out lo hi w w':=
 (x3f h.1 (H7 h.2) hH k m i xk xn hM dX hf hx hg hout).mono fun e w' ⟨h1,h2,h3⟩=>⟨h1,⟨h2,j1k h.2 _⟩,h3⟩
theorem x6c:∃ dC dA st3,(alF 1 newSp 1 3 0).2.2.2=dC/\z1y dC (mkF 1 0 1 3 dC.W (z0l 1 3))=dA/\z1y dA (F8 1 dA.W (0+1) (5*8+(1-1)))=st3/\(J0 1 dC).M 0=some (1,3,1,0)/\(J0 1 dA).M 0=some (1,3,1,0)/\(J0 1 st3).M 0=some (1,3,1,0) ∧
  opE (J0 1 dA) 2 0=0/\opE (J0 1 st3) 2 0=0/\rgB (J0 1 dA) 0 (1,3,1,0) (J9 1 3 1) (5*8+(1-1))=true/\z3f 1 (J0 1 st3).W (0+1)=40/\rgB (J0 1 st3) 0 (1,3,1,0) (J9 1 3 1) (z3f 1 (J0 1 st3).W (0+1))=true:=
 ⟨_,_,_,rfl,rfl,rfl,by decide +kernel,by decide +kernel,by decide +kernel,by decide +kernel,by decide +kernel,by decide +kernel,by decide +kernel,by decide +kernel⟩
theorem z9b {w:World} (hT:Tab w):Kz 9 #[] w fun e w'=>e=.returned (.bool true)/\Out 0 0 w w':=by
 obtain⟨dC,dA,st3,e1,e2,e3,m1,m2,m3,p2,p3,g2,pk,g3⟩:=x6c;have HN:=Q3 (NewS hT 1 (Nat.le_refl 1) (by omega));rw[show ((1:Nat):Int)=1 from rfl] at HN;have HA:=Q3 (And.intro e1 (And.intro e2 (And.intro e3 (And.intro m1 (And.intro m2 (And.intro m3 (And.intro p2 (And.intro p3 (And.intro g2 (And.intro pk g3))))))))));clear hT e1 e2 e3 m1 m2 m3 p2 p3 g2 pk g3;go_enter Tryz.func9,Tryz.ntmps9
 go_wp2_with fail;refine HN.out.mono ?_;rintro e X1 ⟨s,cap,hi,hb,rfl,S1,hh,hc,o1⟩;obtain⟨lo,hlo⟩:∃ lo,w.heap.size=lo:=⟨_,rfl⟩
 have HLo:=Q3 (Nat.le_of_eq hlo);rw[hlo] at S1;have HM:=Q3 (j3q S1 hc (.inr hh) 1 0 0 (by decide) (z:=3) (a:=0) (fa:=0) al4.2.2.1 al4.2.2.2 (by decide) (by decide) (by decide) al1.1 al1.2.1 al1.2.2 al2);have bK:=Q3 o1;clear HN hlo;go_wp2_with fail;refine HM.out.mono ?_;rintro e X2 ⟨rfl,S2,o2⟩;go_wp2_with fail;have fA:=Q3 (V5 (w:=X2) (o:=Dz 2 0 32) (o2:=Dz 0 0 46) (o3:=Dz 1 5 32));have fF:=Q3 (X0 (w:=X2) (o:=Dz 2 0 32) (o2:=Dz 0 0 46) (o3:=Dz 1 5 32));have f5:=Q3 (K4 (w:=X2) (o:=Dz 2 0 32) (o2:=Dz 0 0 46) (o3:=Dz 1 5 32));have o3:=(((Out.refl 0 0 X2).alloc (Dz 2 0 32)).alloc (Dz 0 0 46)).alloc (Dz 1 5 32);obtain⟨ga,hga⟩:∃ g,X2.heap.size=g:=⟨_,rfl⟩
 obtain⟨V3,hV3⟩:∃ V,((X2.alloc (Dz 2 0 32)).alloc (Dz 0 0 46)).alloc (Dz 1 5 32)=V:=⟨_,rfl⟩
 rw[hV3,hga] at fA fF f5;rw[hV3] at o3;have Hga:Hid (hi<=ga):=by rw[<-hga];exact S2.1.top
 have hc3:=o3.cell (o2.cell hc (.inr hh)) z0;have HS:=Q3 (q9v (S2.quiet o3) hc3 (.inr hh) 2 0 1 1 5 (by rw[HA.out.1,HA.out.2.1];exact HA.out.2.2.2.2.1) (by rw[HA.out.1,HA.out.2.1];exact HA.out.2.2.2.2.2.2.1) al4.1 al4.2.1 (by rw[HA.out.1,HA.out.2.1];exact HA.out.2.2.2.2.2.2.2.2.1));rw[HA.out.1,HA.out.2.1,HA.out.2.2.1] at HS;have bQ:=Q3 ((bK.out.then o2 HLo.out).trans o3);have Hhc:=Q3 hc3;rw[hV3,hga];clear hV3 hga S2 o2 o3 hc hc3;refine HS.out.mono ?_;rintro e X4 ⟨rfl,S4,o4⟩;have o5:=(Out.refl 0 0 X4).alloc (Dz 0 0 46);have fA5:=o5.heap (o4.heap fA.out (.inr Hga.out)) z0;have iL:=o5.heap (o4.heap fF.out (.inr (Nat.le_succ_of_le Hga.out))) z0;have f55:=o5.heap (o4.heap f5.out (.inr (Nat.le_succ_of_le (Nat.le_succ_of_le Hga.out)))) z0;have fG5:=heap_alloc_new X4 (Dz 0 0 46);obtain⟨a0,a1,a2,a3⟩:=Q5 fA5;have HF:=Q3 (And.intro iL (And.intro f55 fG5));have HG:=Q3 (j3n (S4.quiet o5).1 (H7 S4.2) (S4.quiet o5).1.tab (o5.cell (o4.cell Hhc.out (.inr hh)) z0) 2 0 1 HA.out.2.2.2.2.2.1 HA.out.2.2.2.2.2.2.2.1 (by omega) al4.1 HA.out.2.2.2.2.2.2.2.2.2.2);rw[HA.out.2.2.2.2.2.2.2.2.2.1,show (40:Int) % 8+1=1 from rfl,show (40:Int) / 8=5 from rfl] at HG;have bJ:=Q3 ((bQ.out.then o4 HLo.out).trans o5);clear S4 o4 o5 fA5 iL f55 fG5;go_wp2_with fail;refine HG.out.mono ?_;rintro e X6 ⟨rfl,o6⟩;clear a0 a1 a2 a3;have o7:=((Out.refl 0 0 X6).alloc (Dz 1 5 32)).alloc (Dz 0 0 46);have o67:=o6.trans o7;obtain⟨b0,b1,b2,b3⟩:=flt_facts (o67.heap HF.out.1 z0);obtain⟨c0,c1,c2,c3⟩:=Q5 (o67.heap HF.out.2.1 z0);obtain⟨d0,d1,d2,d3⟩:=flt_facts (o67.heap HF.out.2.2 z0);have hE:∀ W,(binOp .eql 32 (Vz 1 5) (Vz 1 5)).run Tryz.prog W=.ok (.bool true) W:=fun W=>eqv 1 5 1 5 W
 have HE:=Q3 (bJ.out.trans o67);clear o6 o7 o67;go_wp2;go_ret;exact⟨rfl,HE.out⟩
def drR (n:Nat) (r:Raw) (a:Nat) (z x:Int):Raw:=
 { r with S:=if 32<z then gvS r.S n ((a / 64:Nat):Int) else r.S,P:=upd r.P a false,M:=fun i=>if i=(a:Int) then none else r.M i,R:=fun i=>if i=x then none else r.R i }
section
variable {w:World} {lo hi n cap:Nat} {s:Nat->Nat} {r:Raw}
theorem x0m (M:Int->Option Blk) (a:Int):(fun y=>if y=a then none else z7u M y)=z7u (fun i=>if i=a then none else M i):=by
 funext y
 unfold z7u;by_cases e:y=a
 ·subst e;simp
 ·simp[e]
theorem x0o (R:Int->Option Int) (a:Int):(fun y=>if y=a then none else j8n R y)=j8n (fun i=>if i=a then none else R i):=by
 funext y
 unfold j8n;by_cases e:y=a
 ·subst e;simp
 ·simp[e]
theorem j9m (h:RawAt w lo hi s n cap r) {a:Nat} {k z x t:Int} (z1:1<=z) (z2:z<=1024) (ha:a<64*n) :
  Kz 139 #[Pq (s 14),Wz (a:Int) k z x t] w fun e w'=>(∃ v,e=.returned v)/\RawAt w' lo hi s n cap (drR n r a z x)/\Out lo hi w w':=by
 have h0:Out 0 0 w (w.alloc (bo (a:Int) k z x t)):=(Out.refl 0 0 w).alloc _;have hq:=h.quiet h0;have HQ:=Q3 hq;have H0:=Q3 h0;have HBX:Hid ((w.alloc (bo (a:Int) k z x t)).heap[w.heap.size]? = some (bo (a:Int) k z x t)):=heap_alloc_new _ _;have HD:Hid (hi<=w.heap.size/\4<=w.heap.size/\n<=4096/\(s 12<hi/\s 13<hi/\s 10<hi/\s 8+2<=hi/\s 14<hi)/\(s 14<s 12\/s 12+1<=s 14)/\(s 14<s 13\/s 13+1<=s 14)/\(s 14<s 10\/s 10+1<=s 14)/\(s 14<s 8\/s 8+2<=s 14)):=by
  have i12:=h.inn 12 (by omega);have i13:=h.inn 13 (by omega);have i11:=h.inn 10 (by omega);have i8:=h.inn 8 (by omega);have i14:=h.inn 14 (by omega);have a12:=h.apart 12 14 (by omega) (by omega) (by omega);have a13:=h.apart 13 14 (by omega) (by omega) (by omega);have a11:=h.apart 10 14 (by omega) (by omega) (by omega);have a8:=h.apart 8 14 (by omega) (by omega) (by omega);simp[ln] at i12 i13 i11 i8 i14 a12 a13 a11 a8;exact⟨h.top,h.tab.lt,h.n2,by omega,by omega,by omega,by omega,by omega⟩
 have HA:=Q3 ha;have HPg:=Q3 (fun w'=>z0w (q0a z w') (Out.refl 0 0 w'));have b0:(0:Int)<=(a:Int):=by omega
 obtain⟨d0,d1,d2,d3,d4,d5⟩:=hq.cells;obtain⟨q0,q1,q2,q3,q4⟩:=F7 HBX.out;have hqd:=hq.quiet ((Out.refl 0 0 _).drew);obtain⟨wM,hmu,hmM,qO⟩:=x2r (ty:=0) Tryz.underlying136 Tryz.underlying3 hqd.objs (a:Int);have HRM:=Q3 (hqd.setM (M':=fun i=>if i=(a:Int) then none else r.M i) qO (by rw[<-x0m];exact hmM));unfold bo at *;clear h h0 hq hqd ha hmM;go_enter Tryz.func139,Tryz.ntmps139
 go_wp2_with fail;refine wp_region_held_drew (S:=fun w'=>cq w' (s 14) 2=some (.map (some (s 12)))/\cq w' w.heap.size 0=some (Iz (a:Int))/\cq w' w.heap.size 1=some (Iz k)/\cq w' w.heap.size 2=some (Iz z)/\cq w' w.heap.size 3=some (Iz x)/\cq w' w.heap.size 4=some (Iz t)) (by kernel_rfl) ?hS1 (fun aB=>?rest1)
 case hS1=>exact⟨d2,q0,q1,q2,q3,q4⟩
 refine tk 0 ?_;refine tk 1 ?_;refine tk 2 ?_;refine tk 3 ?_;refine tk 4 ?_;refine tk 5 ?_;refine rd1 6 fun KK hK=>?_
 simp only[xa,xb,xc];go_simp;refine hK.out _ _ ⟨qO.cell aB.1 (by have:=HD.out;omega),qO.cell aB.2.1 (by have:=HD.out;omega),qO.cell aB.2.2.1 (by have:=HD.out;omega),qO.cell aB.2.2.2.1 (by have:=HD.out;omega),qO.cell aB.2.2.2.2.1 (by have:=HD.out;omega),qO.cell aB.2.2.2.2.2 (by have:=HD.out;omega)⟩ fun aB=>?_
 clear hK KK;refine dn ?_;clear aB;have jD:Out lo hi (w.alloc (Ez (a:Int) k z x t 81)) wM:=(((Out.refl 0 0 _).drew).any lo hi).trans (HQ.out.quiet ((Out.refl 0 0 _).drew) |>.wide (i:=12) (by omega) qO);have bK:=Q3 jD;have HBM:=Q3 (jD.heap HBX.out (.inr HD.out.1));clear d0 d1 d2 d3 d4 d5 q0 q1 q2 q3 q4 hmu qO jD;obtain⟨d0,d1,d2,d3,d4,d5⟩:=HRM.out.cells;obtain⟨q0,q1,q2,q3,q4⟩:=F7 HBM.out;have hqd:=HRM.out.quiet ((Out.refl 0 0 _).drew);obtain⟨w2,hmu,hmR,qN⟩:=x2r (ty:=0) Tryz.underlying139 Tryz.underlying3 hqd.sers x;have eH:=Q3 (hqd.setR (R':=fun i=>if i=x then none else r.R i) qN (by rw[<-x0o];exact hmR));have gN:=bK.out.trans ((((Out.refl 0 0 wM).drew).any lo hi).trans (hqd.wide (i:=13) (by omega) qN));have aI:=Q3 gN;have lB:=Q3 (gN.heap HBX.out (.inr HD.out.1));have rB:=Q3 (eH.out.quiet ((Out.refl 0 0 _).drew));clear hqd hmR gN;go_wp2_with fail;refine wp_region_held_drew (S:=fun w'=>cq w' (s 14) 12=some (.map (some (s 13)))/\cq w' w.heap.size 0=some (Iz (a:Int))/\cq w' w.heap.size 1=some (Iz k)/\cq w' w.heap.size 2=some (Iz z)/\cq w' w.heap.size 3=some (Iz x)/\cq w' w.heap.size 4=some (Iz t)) (by kernel_rfl) ?hS9 (fun aB=>?rest9)
 case hS9=>exact⟨d4,q0,q1,q2,q3,q4⟩
 refine tk 0 ?_;refine tk 1 ?_;refine tk 2 ?_;refine tk 3 ?_;refine tk 4 ?_;refine tk 5 ?_;refine rd1 6 fun KK hK=>?_
 simp only[xa,xb,xc];go_simp;refine hK.out _ _ ⟨qN.cell aB.1 (by have:=HD.out;omega),qN.cell aB.2.1 (by have:=HD.out;omega),qN.cell aB.2.2.1 (by have:=HD.out;omega),qN.cell aB.2.2.2.1 (by have:=HD.out;omega),qN.cell aB.2.2.2.2.1 (by have:=HD.out;omega),qN.cell aB.2.2.2.2.2 (by have:=HD.out;omega)⟩ fun aB=>?_
 clear hK KK;refine dn ?_;clear aB d0 d1 d2 d3 d4 d5 q0 q1 q2 q3 q4 hmu qN;obtain⟨d0,d1,d2,d3,d4,d5⟩:=eH.out.cells;obtain⟨q0,q1,q2,q3,q4⟩:=F7 lB.out;go_wp2_with fail;refine wp_region_held_drew (S:=fun w'=>cq w' (s 14) 3=some (.pointer (some ⟨s 8+1,0,none⟩))/\cq w' w.heap.size 0=some (Iz (a:Int))/\cq w' w.heap.size 1=some (Iz k)/\cq w' w.heap.size 2=some (Iz z)/\cq w' w.heap.size 3=some (Iz x)/\cq w' w.heap.size 4=some (Iz t)) (by kernel_rfl) ?hS17 (fun aB=>?rest17)
 case hS17=>exact⟨d3,q0,q1,q2,q3,q4⟩
 refine tk 0 ?_;refine tk 1 ?_;refine tk 2 ?_;refine tk 3 ?_;refine tk 4 ?_;refine tk 5 ?_;refine rd1 6 fun KK hK=>?_
 simp only[xa,xb,xc];go_simp;refine(z9i rB.out.places (a:Int)).mono ?_;rintro e w3 ⟨rfl,hmp,dX⟩;refine hK.out _ _ ⟨dX.cell aB.1 (by have:=HD.out;omega),dX.cell aB.2.1 (by have:=HD.out;omega),dX.cell aB.2.2.1 (by have:=HD.out;omega),dX.cell aB.2.2.2.1 (by have:=HD.out;omega),dX.cell aB.2.2.2.2.1 (by have:=HD.out;omega),dX.cell aB.2.2.2.2.2 (by have:=HD.out;omega)⟩ fun aB=>?_
 clear hK KK;refine dn ?_;clear aB;have fJ:=aI.out.trans ((((Out.refl 0 0 w2).drew).any lo hi).trans (rB.out.wide (i:=8) (by omega) dX));have iR:=Q3 (rB.out.setP dX hmp);have bQ:=Q3 fJ;have HB3:=Q3 (fJ.heap HBX.out (.inr HD.out.1));have hPe:Hid (q6c r.P (64*n) (a:Int) false=upd r.P a false):=by
  show _=_
  unfold q6c;rw[if_pos (show inB (64*n) (a:Int)=true from by unfold inB;simp;have:=HA.out;omega)];rfl
 clear d0 d1 d2 d3 d4 d5 q0 q1 q2 q3 q4 hmp dX fJ;obtain⟨d0,d1,d2,d3,d4,d5⟩:=iR.out.cells;obtain⟨q0,q1,q2,q3,q4⟩:=F7 HB3.out;by_cases hz:32<z
 ·have hpz:0<B9 z:=by unfold B9;rw[if_pos ⟨hz,z2⟩];omega
  have HZ:=Q3 hz;have hPv:=Q3 hpz;generalize B9 z=pv at *
  go_wp2_with (refine(HPg.out _).mono ?_;rintro e w4 ⟨rfl,fI⟩);have fM:=Q3 (iR.out.quiet fI);have HR4d:=Q3 ((iR.out.quiet fI).quiet ((Out.refl 0 0 _).drew));have nI:=Q3 (fI.heap HB3.out z0);have bN:=Q3 (bQ.out.trans (fI.any lo hi));clear d0 d1 d2 d3 d4 d5 q0 q1 q2 q3 q4 fI;obtain⟨d0,d1,d2,d3,d4,d5⟩:=fM.out.cells;obtain⟨q0,q1,q2,q3,q4⟩:=F7 nI.out;have HQ64:Hid (IntKind.i64.wrap ((a:Int) / 64)=((a / 64:Nat):Int)):=by
   show _=_
   have:=HA.out;have:=HD.out.2.2.1;simp[IntKind.wrap,IntKind.signed,IntKind.bits];omega
  go_wp2_with fail;refine wp_region_held_drew (S:=fun w'=>cq w' (s 14) 1=some (Pq (s 9))/\cq w' w.heap.size 0=some (Iz (a:Int))/\cq w' w.heap.size 1=some (Iz k)/\cq w' w.heap.size 2=some (Iz z)/\cq w' w.heap.size 3=some (Iz x)/\cq w' w.heap.size 4=some (Iz t)) (by kernel_rfl) ?hS25 (fun aB=>?rest25)
  case hS25=>exact⟨d1,q0,q1,q2,q3,q4⟩
  refine tk 0 ?_;refine tk 1 ?_;refine tk 2 ?_;refine tk 3 ?_;refine tk 4 ?_;refine tk 5 ?_;refine tk 6 ?_;refine rd1 7 fun KK hK=>?_
  simp only[xa,xb,xc];go_simp;(try rw[HQ64.out]);refine(j0e HR4d.out.tbl HR4d.out.tab ((a / 64:Nat):Int)).mono ?_;rintro e w5 ⟨rfl,hmt,hot⟩;refine hK.out _ _ ⟨hot.cell aB.1 (by have:=HD.out;omega),hot.cell aB.2.1 (by have:=HD.out;omega),hot.cell aB.2.2.1 (by have:=HD.out;omega),hot.cell aB.2.2.2.1 (by have:=HD.out;omega),hot.cell aB.2.2.2.2.1 (by have:=HD.out;omega),hot.cell aB.2.2.2.2.2 (by have:=HD.out;omega)⟩ fun aB=>?_
  clear hK KK;refine dn ?_;clear aB;go_wp2;have gY:=HR4d.out.setT hot hmt;refine bodyPost_end (results_none Tryz.results139 _ _ _) rfl ⟨⟨_,rfl⟩,gY.congr ?_,((H0.out.any lo hi).trans bN.out).trans ((((Out.refl 0 0 _).drew).any lo hi).trans (HR4d.out.wide (i:=10) (by omega) hot))⟩;refine Raw.eq rfl ?_ rfl ?_ rfl rfl rfl
  ·show _=if 32<z then _ else _;rw[if_pos HZ.out]
  ·exact hPe.out
 ·have hpz:B9 z=0:=by unfold B9;rw[if_neg (by omega)]
  have HZ:=Q3 hz;rw[hpz] at HPg;clear hpz hz;go_wp2_with (refine(HPg.out _).mono ?_;rintro e w4 ⟨rfl,fI⟩);go_wp2;refine bodyPost_end (results_none Tryz.results139 _ _ _) rfl ⟨⟨_,rfl⟩,(iR.out.quiet fI).congr ?_,((H0.out.any lo hi).trans bQ.out).trans (fI.any lo hi)⟩;refine Raw.eq rfl ?_ rfl ?_ rfl rfl rfl
  ·show _=if 32<z then _ else _;rw[if_neg (by have:=HZ.out;omega)]
  ·exact hPe.out
end
section
variable {w:World} {lo hi n cap:Nat} {s:Nat->Nat} {r:Raw}
theorem j5b (h:RawAt w lo hi s n cap r) {p:Nat} (hp:p<n) :
  Kz 189 #[Pq (s 14),Iz (p:Int)] w fun e w'=>e=.returned (.bool (z8k r.P (64*p) (64*p+64) == 0))/\Out 0 0 w w':=by
 have HD:Hid (n<=4096/\p<n):=⟨h.n2,hp⟩
 obtain⟨d0,d1,d2,d3,d4,d5⟩:=h.cells;have HP:=Q3 h.places;have HW1:Hid (wrap64 ((p:Int)*64)=((64*p:Nat):Int)):=by show _=_;have:=HD.out;unfold wrap64;omega
 have HW2:Hid (wrap64 (((64*p:Nat):Int)+64)=((64*p+64:Nat):Int)):=by show _=_;have:=HD.out;unfold wrap64;omega
 have HC:=Q3 (q0u HP.out ((64*p:Nat):Int) ((64*p+64:Nat):Int) (by have:=HD.out;omega));have HE:Hid (z8k r.P (((64*p:Nat):Int)).toNat (min ((64*p+64:Nat):Int) ((64*n:Nat):Int)).toNat=z8k r.P (64*p) (64*p+64)):=by
  show _=_
  congr 1
  have:=HD.out;omega
 clear h hp;go_enter Tryz.func189,Tryz.ntmps189
 go_wp2_with (rw[HW1.out,HW2.out];refine HC.out.mono ?_;rintro e w2 ⟨rfl,ho⟩;rw[HE.out]);go_ret;exact⟨B7 (by rw[Bool.eq_iff_iff];simp),ho⟩
end
end Go.Proofs.YtjgnogflgoihfaaGreatDoor
namespace Go.Proofs.YtjgnogflgoihfaaGreatDoor
open Go.RowKit
attribute [local go_sem] Oper.semAt_some
set_option linter.unusedVariables false
set_option maxRecDepth 100000
set_option maxHeartbeats 16000000
set_option linter.unusedSimpArgs false
theorem MapAt.one {w:World} {lo hi b n lo' bV:Nat} {S S':Nat->Bool} (h:MapAt w lo hi b n S) (h':MapAt w lo' bV b n S'):S=S':=by
 obtain⟨bw,cap,hb,h1,h2,h3,h4,h5,h6,h7,h8,l1,l2,l3,hr⟩:=h;obtain⟨bw',eD,kW,k1,k2,k3,k4,k5,k6,k7,k8,m1,m2,m3,hr'⟩:=h';rw[hb] at kW;have e:bw=bw':=by simp at kW;exact kW.1
 subst e;funext j
 by_cases hj:j<n
 ·have a:=hr.cell (z7g hj);have b:=hr'.cell (z7g hj);rw[a] at b;simp at b;have e1:=z2k S (j / 64) (j % 64);have e2:=z2k S' (j / 64) (j % 64);rw[show pk S (j / 64)=pk S' (j / 64) from by omega,e2,show 64*(j / 64)+j % 64=j from by omega,show decide (j % 64<64)=true from by simp;omega] at e1;simpa using e1.symm
 ·rw[h7 j (by omega),k7 j (by omega)]
theorem q0l (b:Nat) (w:World) :
  Kz 137 #[Pq b] w fun e w'=>e=.returned (.func (.func 184) #[] #[Pq w.heap.size])/\w'=w.alloc (.cells #[Pq b] 76):=by
 go_enter Tryz.func137,Tryz.ntmps137
 go_wp2;go_ret;exact⟨rfl,rfl⟩
theorem q2b {e:Ending} {p a b:Prop} (h:p/\((e=.returned (.bool true)/\a)\/(e=.returned (.bool false)/\b))):∃ bb:Bool,e=.returned (.bool bb)/\p/\(bb=true->a)/\(bb=false->b):=by
 rcases h with ⟨hp,⟨he,ha⟩ | ⟨he,hb⟩⟩
 ·exact⟨true,he,hp,fun _=>ha,(fun e=>by cases e)⟩
 ·exact⟨false,he,hp,(fun e=>by cases e),fun _=>hb⟩
def q2e (r:Raw):Prop:=∀ a:Nat,r.P a=true->∃ b,r.M (a:Int)=some b
def Sv (B m:Nat) (w w':World):Prop:=∀ k o,B<=k->k<B+m->w.heap[k]? = some o->w'.heap[k]? = some o
theorem Sv.heap {B m k:Nat} {w w':World} {o:Obj} (h:Sv B m w w') (hk:w.heap[k]? = some o) (h1:B<=k) (h2:k<B+m):w'.heap[k]? = some o:=h k o h1 h2 hk
theorem Out.sv {B m:Nat} {w w':World} (h:Out 0 B w w'):Sv B m w w':=fun _ _ h1 _ hk=>h.heap hk (.inr h1)
theorem q9a {lo hi n cap g l:Nat} {s:Nat->Nat} (I:Nat->World->Prop) (J Jx:World->Prop) {w:World}
  (hm:∀ p w,I p w->p<=64*n/\∃ r,RawAt w lo hi s n cap r/\q2e r/\Box w g 76 (.pointer (some ⟨s 14,0,none⟩)))
  (hq:∀ p w1 w2 x y,I p w1->Out x y w1 w2->((w.heap.size<=x/\y<=w.heap.size+4)\/y=0)->I p w2)
  (hqJ:∀ w1 w2 x y,J w1->Out x y w1 w2->w.heap.size<=x/\y<=w.heap.size+4->J w2) (hqX:∀ w1 w2 x y,Jx w1->Out x y w1 w2->w.heap.size<=x/\y<=w.heap.size+4->Jx w2)
  (hy:∀ p w1 r (k:Nat) b,I p w1->RawAt w1 lo hi s n cap r->nxr r.P (64*n) p=k->r.M (k:Int)=some b->YieldAt Fence.wide 0 Tryz.prog l #[j1q k b] w1 fun e w'=>Sv w.heap.size 4 w1 w'/\((e=.returned (.bool true)/\I (k+1) w')\/(e=.returned (.bool false)/\Jx w')))
  (he:∀ p w1 r,I p w1->RawAt w1 lo hi s n cap r->nxr r.P (64*n) p = -1->J w1) (h0:I 0 w) :
  Calls Tryz.prog 184 #[.func (.yield l) #[] #[],.pointer (some ⟨g,0,none⟩)] w fun e w'=>(∃ v,e=.returned v)/\(J w'\/Jx w'):=by
 obtain⟨_,r0,lE,_,iG⟩:=hm 0 w h0;have kY:Out 0 0 w (w.alloc (.cells #[.func (.yield l) #[] #[]] 203)):=(Out.refl 0 0 w).alloc _;have kD:=lE.quiet kY;have c0:=(iG.kept kY z0).cell;obtain⟨d0,d1,d2,d3,d4,d5⟩:=kD.cells;have HM:=Q3 hm;have HQ:=Q3 hq;have HQJ:=Q3 hqJ;have HQX:=Q3 hqX;have HY:=Q3 hy;have HE:=Q3 he;have HI:=Q3 h0;have HG:Hid (g<w.heap.size):=iG.lt;have HT:Hid (hi<=w.heap.size/\4<=w.heap.size):=⟨lE.top,lE.tab.lt⟩
 clear hm hq hy he h0 iG lE kD hqJ hqX kY;refine(callsIn_wide (n:=0)).1 ?_;refine callsIn_of_wp_marks Tryz.func184 rfl trivial ?_ rfl;simp only[Tryz.ntmps184,List.size_toArray,List.length_cons,List.length_nil,Nat.reduceAdd,Nat.reduceSub,Array.replicate_succ,Array.replicate_zero,List.push_toArray,List.append_toArray,List.nil_append,List.cons_append];gi_wp2_with (first
  | (refine⟨trivial,rfl,?_⟩;gi_at_call 85;refine(callsIn_wide.2 (z2t _ _)).mono ?_;rintro e w1 ⟨rfl,rfl⟩)
  | (refine⟨trivial,rfl,?_⟩;gi_at_call 185;refine(callsIn_wide.2 (q2h _ _)).mono ?_;rintro e w1 ⟨rfl,rfl⟩))
 obtain⟨W1,cZ⟩:∃ W1,(w.alloc (.cells #[.func (.yield l) #[] #[]] 203)).alloc (.cells #[.pointer (some ⟨s 8+1,0,none⟩)] 137)=W1:=⟨_,rfl⟩
 have hs1:W1.heap.size=w.heap.size+2:=by rw[<-cZ];simp
 have jD:Out 0 0 w W1:=by rw[<-cZ];exact((Out.refl 0 0 w).alloc _).alloc _
 have hy1:Box W1 w.heap.size 203 (.func (.yield l) #[] #[]):=by rw[<-cZ];exact J3
 have nG:Box W1 (w.heap.size+1) 137 (.pointer (some ⟨s 8+1,0,none⟩)):=by rw[<-cZ];exact heap_alloc2_new _ _ _
 rw[cZ];clear c0 d0 d1 d2 d3 d4 d5 cZ;have bK:=Q3 jD;have HY1:=Q3 hy1;have HX1:=Q3 nG;have mG:=Q3 hs1;clear jD hy1 nG;refine z3h (gf:=205) (lb:=#[.pointer (some ⟨w.heap.size+1,0,none⟩)]) rfl (enters_of Tryz.func205 (by kernel_rfl) rfl) J (fun c W=>c=.ret/\Jx W) ?H ?done ?stop
 case H=>
  intro eJ gV W2 kX;rw[hs1];have HR:=Q3 gV;have gN:Out 0 0 W1 W2:=by rw[kX];exact((Out.refl 0 0 W1).alloc _).alloc _
  have mV:W2.heap[w.heap.size+2]? = some (.deferred (some [])):=by rw[kX,<-hs1];exact J3
  have nN:W2.heap[w.heap.size+2+1]? = some (.loop (eJ .ready none)):=by rw[kX,<-hs1];exact heap_alloc2_new _ _ _
  refine(z6w (lo:=s 8) (hi:=s 8+2) (b:=s 8+1) (n:=64*n) (g:=w.heap.size+1) (l:=w.heap.size+2+1)
   (fun p W=>I p W/\Box W w.heap.size 203 (.func (.yield l) #[] #[])/\Box W (w.heap.size+1) 137 (.pointer (some ⟨s 8+1,0,none⟩))/\W.heap[w.heap.size+2]? = some (.deferred (some []))/\W.heap[w.heap.size+2+1]? = some (.loop (eJ .ready none)))
   (fun W=>J W/\W.heap[w.heap.size+2]? = some (.deferred (some []))/\W.heap[w.heap.size+2+1]? = some (.loop (eJ .ready none)))
   (fun W=>Jx W/\W.heap[w.heap.size+2]? = some (.deferred (some []))/\W.heap[w.heap.size+2+1]? = some (.loop (eJ .done (some .ret)))) ?hm1 ?hq1 ?hy1 ?he1 (w:=W2) ?hz1).mono ?_
  case hm1=>
   rintro p W ⟨a1,a2,a3,a4,a5⟩;obtain⟨b1,r,b2,b3,b4⟩:=HM.out p W a1;exact⟨b1,r.P,b2.places,a3⟩
  case hq1=>
   rintro p W W' ⟨a1,a2,a3,a4,a5⟩ o;exact⟨HQ.out p W W' 0 0 a1 o (.inr rfl),a2.kept o z0,a3.kept o z0,o.heap a4 z0,o.heap a5 z0⟩
  case hz1=>exact⟨HQ.out 0 W1 W2 0 0 (HQ.out 0 w W1 0 0 HI.out bK.out (.inr rfl)) gN (.inr rfl),HY1.out.kept gN z0,HX1.out.kept gN z0,mV,nN⟩
  case he1=>
   rintro p W S ⟨a1,a2,a3,a4,a5⟩ hS hn;obtain⟨b1,r,b2,b3,b4⟩:=HM.out p W a1;rw[hS.one b2.places] at hn;exact⟨HE.out p W r a1 b2 hn,a4,a5⟩
  case hy1=>
   rintro p W S k ⟨a1,a2,a3,a4,a5⟩ hS hn;obtain⟨b1,r,b2,b3,b4⟩:=HM.out p W a1;rw[hS.one b2.places] at hn;have hk:r.P k=true:=by
    rcases U8 r.P (64*n) p with ⟨e1,_⟩ | ⟨i,e1,_,_,e3,_⟩
    ·omega
    ·rw[show k=i from by omega];exact e3
   obtain⟨⟨kd,sz,se,tg⟩,hb⟩:=b3 k hk;have HYY:=Q3 (fun W' (o:Out (w.heap.size+2+1) (w.heap.size+2+1+1) W W')=>HY.out p W' r k _ (HQ.out p W W' _ _ a1 o (.inl (by omega))) (b2.kept o (.inl (by have:=HT.out;omega)) (.inl (by have:=HT.out;omega))) hn hb);have A:=Q3 (And.intro a2 (And.intro a4 b4));have AX:=Q3 a3;have B2:=Q3 b2;have HB:=Q3 hb;have HL5:=Q3 a5;have qQ:(0:Int)<=(k:Int):=by omega
   refine z3j HR.out a5 rfl ?_;clear a1 a2 a3 a4 a5 b1 b2 b3 b4 hS hn hk hb;gi_wp2;refine⟨HL5.out,?_⟩;intro W3 fJ hl3;have fI:Out (w.heap.size+2+1) (w.heap.size+2+1+1) W W3.drew:=fJ.drew;have B3:=B2.out.kept fI (.inl (by have:=HT.out;omega)) (.inl (by have:=HT.out;omega));obtain⟨d0,d1,d2,d3,d4,d5⟩:=B3.cells;have c0:=(A.out.1.kept fI (.inl (by omega))).cell;have c1:=(A.out.2.2.kept fI (.inl (by have:=A.out.2.2.lt;have:=B2.out.top;have:=HT.out;have:=HG.out;omega))).cell;have nM:=B3.look false (k:Int);rw[show z7u r.M (k:Int)=some (.agg #[.int .i64 (k:Int),.int .i64 kd,.int .i64 sz,.int .i64 se,.int .i64 tg]) from by unfold z7u;rw[HB.out];rfl] at nM;simp only[Option.getD_some,Bool.false_eq_true,if_false] at nM;obtain⟨fn,tmps,assign,body,hy,hR⟩:=HYY.out W3.drew fI;have rB:=Q3 ((z1s (m:=0) hR).mono (R':=fun e W4=>∃ bb:Bool,e=.returned (.bool bb)/\Sv w.heap.size 4 W3.drew W4/\(bb=true->I (k+1) W4)/\(bb=false->Jx W4)) (fun e W4 h=>q2b h));have hmx:Tryz.prog.follows .mixedOrders=true:=by kernel_rfl
   have bN:=Q3 fI;have HL3:=Q3 hl3;unfold j1q at hy;clear hR fJ fI B3 hl3;gi_wp2_with fail;gi_region_with_o (first | (refine⟨rfl,?_⟩;refine RoundIn.mono (F:=Fence.wide.inRound (w.heap.size+2+1)) rB.out ?_;rintro e W4 ⟨bb,rfl,kO,hI4,hx4⟩))
   all_goals
    have bJ:=Q3 (kO);have cV:=Q3 (And.intro hI4 hx4);clear kO hI4 hx4;cases bb
    ·gi_wp2;refine⟨bJ.out.heap HL3.out (by omega) (by omega),?_⟩;intro W5 eL hl6;exact .inr ⟨rfl,HQX.out _ _ _ _ (cV.out.2 (by first | rfl | trivial)) eL (by omega),eL.heap (bJ.out.heap ((bN.out.heap A.out.2.1 (.inl (by omega)))) (by omega) (by omega)) (.inl (by omega)),hl6⟩
    ·gi_wp2;refine⟨bJ.out.heap HL3.out (by omega) (by omega),?_⟩;intro W5 eL hl6;exact .inl ⟨rfl,HQ.out _ _ _ _ _ (cV.out.1 (by first | rfl | trivial)) eL (.inl (by omega)),(eL.heap (bJ.out.heap (A.out.1.kept bN.out (.inl (by omega))) (by omega) (by omega)) (.inl (by omega))),(eL.heap (bJ.out.heap (AX.out.kept bN.out (.inl (by omega))) (by omega) (by omega)) (.inl (by omega))),eL.heap (bJ.out.heap ((bN.out.heap A.out.2.1 (.inl (by omega)))) (by omega) (by omega)) (.inl (by omega)),hl6⟩
  ·rintro e W ⟨hv,⟨a1,a2,a3⟩ | ⟨a1,a2,a3⟩⟩
   ·exact⟨hv,a2,.inl ⟨a1,a3⟩⟩
   ·exact⟨hv,a2,.inr ⟨.ret,⟨rfl,a1⟩,a3⟩⟩
 case done=>
  intro W W' hJ ho hd;have HJ:=Q3 (HQJ.out W W' _ _ hJ ho (by omega));have HD:=Q3 hd;clear hJ ho hd;gi_wp2;refine⟨by simp,.inl ⟨_,_,rfl,run_takeDeferred HD.out,?_⟩⟩;exact⟨_,results_none rfl _ _ _,⟨_,rfl⟩,.inl (HQJ.out _ _ _ _ HJ.out (Y0 _ _ _) (by omega))⟩
 case stop=>
  rintro c W W' ⟨rfl,hJ⟩ ho hd;have HJ:=Q3 (HQX.out W W' _ _ hJ ho (by omega));have HD:=Q3 hd;clear hJ ho hd;gi_wp2;refine⟨by simp,.inl ⟨_,_,rfl,run_takeDeferred HD.out,?_⟩⟩;exact⟨_,results_none rfl _ _ _,⟨_,rfl⟩,.inr (HQX.out _ _ _ _ HJ.out (Y0 _ _ _) (by omega))⟩
theorem j3d {lo hi n cap g l:Nat} {s:Nat->Nat} (I:Nat->World->Prop) (J Jx:World->Prop) {w:World}
  (hm:∀ p w,I p w->p<=64*n/\∃ r,RawAt w lo hi s n cap r/\q2e r/\Box w g 76 (.pointer (some ⟨s 14,0,none⟩)))
  (hq:∀ p w1 w2 x y,I p w1->Out x y w1 w2->(w.heap.size<=x\/y=0)->I p w2)
  (hqJ:∀ w1 w2 x y,J w1->Out x y w1 w2->w.heap.size<=x->J w2) (hqX:∀ w1 w2 x y,Jx w1->Out x y w1 w2->w.heap.size<=x->Jx w2)
  (hy:∀ p w1 r (k:Nat) b,I p w1->RawAt w1 lo hi s n cap r->nxr r.P (64*n) p=k->r.M (k:Int)=some b->YieldAt Fence.wide 0 Tryz.prog l #[j1q k b] w1 fun e w'=>Out 0 w.heap.size w1 w'/\((e=.returned (.bool true)/\I (k+1) w')\/(e=.returned (.bool false)/\Jx w')))
  (he:∀ p w1 r,I p w1->RawAt w1 lo hi s n cap r->nxr r.P (64*n) p = -1->J w1) (h0:I 0 w) :
  Calls Tryz.prog 184 #[.func (.yield l) #[] #[],.pointer (some ⟨g,0,none⟩)] w fun e w'=>(∃ v,e=.returned v)/\(J w'\/Jx w'):=
 q9a I J Jx hm (fun p w1 w2 x y h o hx=>hq p w1 w2 x y h o (by omega)) (fun w1 w2 x y h o hx=>hqJ w1 w2 x y h o (by omega)) (fun w1 w2 x y h o hx=>hqX w1 w2 x y h o (by omega))
  (fun p w1 r k b h1 h2 h3 h4=>by
   obtain⟨fn,tmps,assign,body,h5,h6⟩:=hy p w1 r k b h1 h2 h3 h4;exact⟨fn,tmps,assign,body,h5,h6.mono fun e w' h=>⟨h.1.sv,h.2⟩⟩) he h0
end Go.Proofs.YtjgnogflgoihfaaGreatDoor
