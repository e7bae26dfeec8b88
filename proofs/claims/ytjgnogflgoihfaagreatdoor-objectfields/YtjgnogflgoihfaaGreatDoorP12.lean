import Derived.Test.YtjgnogflgoihfaaGreatDoorP11
set_option linter.unusedSimpArgs false
set_option linter.unusedVariables false
set_option maxHeartbeats 16000000
set_option maxRecDepth 100000
namespace Go.Proofs.YtjgnogflgoihfaaGreatDoor
open Go.RowKit
def z1q (st:Sp) (W:Nat->Int):Sp:={ st with W:=W }
theorem j0o {n:Nat} {st:Sp} (h:Inv n st) (W:Nat->Int):Inv n (z1q st W):=⟨h.n1,h.n2,h.good,h.objs,h.none,h.heads,h.last0,h.ser,h.one⟩
theorem z5d {w:World} {lo hi n cap:Nat} {s:Nat->Nat} {st:Sp} (h:SpAt w lo hi s n cap st) (a v:Int):Calls Tryz.prog 44 #[.pointer (some ⟨s 14,0,none⟩),.int .i64 a,.int .i64 v] w fun e w'=>e=.returned (.bool (inB (64*n) a))/\SpAt w' lo hi s n cap (z1q st (F3 n st.W a v))/\Out lo hi w w':=
 (q2j h.1 a v).mono fun e w' ⟨h1,h2,h3⟩=>⟨h1,⟨h2,j0o h.2 _⟩,h3⟩
def mkF (n:Nat) (a k z:Int) (W:Nat->Int):List Nat->Nat->Int
 | []=>W
 | x :: l=>mkF n a k z (F3 n W (a+x) (z1r (J6 k z x))) l
theorem x4e (n:Nat) (a k z:Int) (l:List Nat) (x:Nat):∀ W,mkF n a k z W (l ++ [x])=F3 n (mkF n a k z W l) (a+x) (z1r (J6 k z x)):=by
 induction l with
 | nil=>intro W;rfl
 | cons y l ih=>intro W;exact ih _
theorem j9z {n:Nat} {a k z:Int} {W:Nat->Int} {l:List Nat} {j x:Nat} (h:l[j]? = some x):mkF n a k z W (l.take (j+1))=F3 n (mkF n a k z W (l.take j)) (a+x) (z1r (J6 k z x)):=by
 rw[List.take_add_one,h];exact x4e n a k z _ x W
theorem x3l {k s:Int} {x:Nat} (h:x ∈ z0i k s):x<=1024:=by
 unfold z0i at h;by_cases c:B7 k s=true
 ·rw[if_pos c] at h;unfold q0l at h;have:=List.mem_range.1 (List.mem_filter.1 h).1;have:=z4b c;omega
 ·rw[if_neg c] at h;exact absurd h (List.not_mem_nil)
theorem j9d (k s:Int):(z0i k s).length<=1024:=by
 unfold z0i;by_cases c:B7 k s=true
 ·rw[if_pos c];have:=q1v k s.toNat;have:=z4b c;omega
 ·rw[if_neg c];simp
theorem j5h {w:World} {v:Value} {base:Nat} {l:List Nat} (h:ListIs_o w base v l) :
  ∃ p cap,v=.slice p l.length cap/\(0<l.length->∃ g,p=some ⟨g,0,none⟩/\base<=g/\∀ (i x:Nat),l[i]? = some x->w.cell? ⟨g,i,none⟩=some (.int .i64 (x:Int))):=by
 obtain⟨bZ,jD⟩:=h;rcases jD with ⟨hv,h0⟩ | ⟨g,cT,dI,rfl,hg1,nL,hg3,hg4,hg5,hg6⟩
 ·exact⟨none,0,by rw[hv,h0],fun h=>by omega⟩
 ·refine⟨_,_,rfl,fun _=>⟨g,rfl,hg1,fun i x hx=>?_⟩⟩;have hi:i<l.length:=(List.getElem?_eq_some_iff.1 hx).1;have e:(dI.toList.take (l.length*1))[i]? = (q0o l)[i]? :=by rw[hg6]
  have e2:l[i]=x:=(List.getElem?_eq_some_iff.1 hx).2;simp[q0o,hi,e2] at e;simp[World.cell?,nL,e]
theorem x6n {n:Nat} {st:Sp} (hI:Inv n st):∀ a b,(Q6 n st).M a=some b->∃ j:Nat,a=j/\j<64*n:=by
 intro a b h;have h':obM st a=some b:=h;unfold obM at h';by_cases e:0<=a/\Y6 (st.O a.toNat)=true
 ·exact⟨a.toNat,by omega,(hI.objs _ e.2).1⟩
 ·rw[if_neg e] at h';cases h'
theorem x6y {n:Nat} {st:Sp} {a:Nat} {b:Blk} (h:(Q6 n st).M (a:Int)=some b):b=st.O a/\Y6 (st.O a)=true:=by
 have h':obM st (a:Int)=some b:=h;unfold obM at h';rw[show ((a:Int)).toNat=a from by omega] at h';by_cases e:(0:Int)<=(a:Int)/\Y6 (st.O a)=true
 ·rw[if_pos e] at h';cases h';exact⟨rfl,e.2⟩
 ·rw[if_neg e] at h';cases h'
theorem G6 {n:Nat} {st:Sp} (hI:Inv n st):U7 n (Q6 n st):=by
 intro a b h;obtain⟨j,rfl,hj⟩:=x6n hI a b h;obtain⟨rfl,hh⟩:=x6y h;obtain⟨h1,h2,h3⟩:=hI.objs j hh;have hz:=U3 h2;refine⟨by omega,?_,hz.2.2.1,hz.2.2.2⟩;rcases h3 with ⟨s1,s2,s3⟩ | ⟨s1,s2,s3⟩
 ·have hc:=H7 hz.2.2.1 s1;unfold F6 wN at s3;rw[Bool.and_eq_true] at s3;have s5:j % 64+(W8 (ofV (st.O j).2.1)).toNat<=64:=by simpa using s3.2
  omega
 ·rcases hI.good (j / 64) (by omega) with e | ⟨c,_,_,e⟩ | ⟨q,q1,q2,q3,e,q4⟩ | ⟨e,_⟩
  ·rw[s3] at e;simp at e
  ·rw[s3] at e;simp at e
  ·rw[s3] at e;have:((st.O j).2.1+63) / 64=(q:Int):=by simpa using e
   omega
  ·rw[s3] at e;simp at e
theorem j6l {a:Int} (h:Q8 2 a=true) (w:World):Calls Tryz.prog 47 #[.int .i64 a] w fun e w'=>e=.returned (.agg #[.int .i64 2,.int .i64 a])/\Out 0 0 w w':=by
 refine(j2a a w).mono ?_;rintro e w' ⟨rfl,q⟩;unfold z0t z0u;rw[if_pos h,if_pos h];exact⟨rfl,K8 q⟩
section
variable {w:World} {lo hi hb:Nat} {s:Nat->Nat} {n cap:Nat} {st:Sp}
theorem j2w (h:SpAt w lo hi s n cap st) (hH:cq w hb 0=some (Pq (s 14))) (hout:hb<lo\/hi<=hb) (k nn t:Int) (hk:k=4):Kz 16 #[Pq hb,Iz k,Iz nn,Iz t] w fun e w'=>e=.returned (.tuple #[Vz 0 0,Vz 24 0])/\Out 0 0 w w':=by
 subst hk;have nI:∀ (fn:Fn) (first cap:Array Value) (w:World),(Instr.makeFunc fn first cap).run Tryz.prog w=.ok (.func fn first cap) w:=fun _ _ _ _=>rfl
 have Hh:=Q3 h;have fR:=Q3 (J0 (w:=w) (o:=Dz 0 0 32) (o2:=Dz 0 0 46));have fF:=Q3 (J4 (w:=w) (o:=Dz 0 0 32) (o2:=Dz 0 0 46));have HO:=Q3 (((Out.refl 0 0 w).alloc (Dz 0 0 32)).alloc (Dz 0 0 46));obtain⟨gv,aN⟩:∃ g,w.heap.size=g:=⟨_,rfl⟩
 have aW:=Q3 aN;obtain⟨V1,eQ⟩:∃ V,(w.alloc (Dz 0 0 32)).alloc (Dz 0 0 46)=V:=⟨_,rfl⟩
 rw[eQ,aN] at fR fF;rw[eQ] at HO;have kP:=HO.out.cell hH z0;have HH1:=Q3 kP;have dX:=Q3 hout;clear h hH hout;go_enter_defers Tryz.func16,Tryz.ntmps16
 go_wp2_with fail;(try rw[eQ]);(try rw[aN]);clear eQ aN;refine(U2 _ _).mono ?_;rintro e w5 ⟨rfl,he⟩;rw[he];clear he w5;go_wp2_with fail;refine(z2o _ _).mono ?_;rintro e w6 ⟨rfl,he⟩;rw[he];clear he w6;simp;refine leaves_cons (f:=38) (args:=#[.pointer (some ⟨gv+1,0,none⟩)]) (by simp) (by simp[go_sem]) ?_;refine(z2k ((Out.refl 0 0 V1).heap fF.out z0)).mono ?_;rintro e u' w9 ⟨rfl,rfl,f9,q9⟩;exact Y7 (J2 Tryz.results16 rfl rfl (U1 (q9.heap ((Out.refl 0 0 V1).heap fR.out z0) (.inl (Nat.lt_succ_self _)))) (J5 f9)) ⟨rfl,HO.out.trans' q9 (by have:=aW.out;omega)⟩
theorem j2v (h:SpAt w lo hi s n cap st) (hH:cq w hb 0=some (Pq (s 14))) (hout:hb<lo\/hi<=hb) (k nn t:Int) (hk:k ≠ 4) (hz:U5 k nn=false):Kz 16 #[Pq hb,Iz k,Iz nn,Iz t] w fun e w'=>e=.returned (.tuple #[Vz 0 0,Vz 24 0])/\Out 0 0 w w':=by
 have k4:(k != 4)=true:=by simpa using hk
 clear hk;have nI:∀ (fn:Fn) (first cap:Array Value) (w:World),(Instr.makeFunc fn first cap).run Tryz.prog w=.ok (.func fn first cap) w:=fun _ _ _ _=>rfl
 have Hh:=Q3 h;have fR:=Q3 (J0 (w:=w) (o:=Dz 0 0 32) (o2:=Dz 0 0 46));have fF:=Q3 (J4 (w:=w) (o:=Dz 0 0 32) (o2:=Dz 0 0 46));have HO:=Q3 (((Out.refl 0 0 w).alloc (Dz 0 0 32)).alloc (Dz 0 0 46));obtain⟨gv,aN⟩:∃ g,w.heap.size=g:=⟨_,rfl⟩
 have aW:=Q3 aN;obtain⟨V1,eQ⟩:∃ V,(w.alloc (Dz 0 0 32)).alloc (Dz 0 0 46)=V:=⟨_,rfl⟩
 rw[eQ,aN] at fR fF;rw[eQ] at HO;have kP:=HO.out.cell hH z0;have HH1:=Q3 kP;have dX:=Q3 hout;clear h hH hout;have HTk:=Q3 (q5o (Hh.out.quiet HO.out) kP dX.out k nn t hz);clear hz;go_enter_defers Tryz.func16,Tryz.ntmps16
 go_wp2_with fail;(try rw[eQ]);(try rw[aN]);clear eQ aN;refine(U2 _ _).mono ?_;rintro e w5 ⟨rfl,he⟩;rw[he];clear he w5;go_wp2_with fail;refine(z0k _ _).mono ?_;rintro e w6 ⟨rfl,he⟩;rw[he];clear he w6;go_wp2_with fail;refine HTk.out.mono ?_;rintro e X3 ⟨rfl,q3⟩;simp;refine leaves_cons (f:=38) (args:=#[.pointer (some ⟨gv+1,0,none⟩)]) (by simp) (by simp[go_sem]) ?_;refine(z2k (q3.heap fF.out z0)).mono ?_;rintro e u' w9 ⟨rfl,rfl,f9,q9⟩;exact Y7 (J2 Tryz.results16 rfl rfl (U1 (q9.heap (q3.heap fR.out z0) (.inl (Nat.lt_succ_self _)))) (J5 f9)) ⟨rfl,(HO.out.trans q3).trans' q9 (by have:=aW.out;omega)⟩
theorem j2t (h:SpAt w lo hi s n cap st) (hH:cq w hb 0=some (Pq (s 14))) (hout:hb<lo\/hi<=hb) (k nn t:Int) (hk:k ≠ 4) {z a ec fa:Int} (hz:U5 k nn=true) (hzv:Y9 k nn=z) (z1:-9223372036854775808<=z) (z2:z<=9223372036854775807) (hl:st.last<4611686018427387904) (ha:(alF n st k z t).1=a) (he:(alF n st k z t).2.1=ec) (hf:(alF n st k z t).2.2.1=fa) (fG:ec ≠ 0):Kz 16 #[Pq hb,Iz k,Iz nn,Iz t] w fun e w'=>e=.returned (.tuple #[Vz 0 0,Vz ec fa])/\SpAt w' lo hi s n cap (alF n st k z t).2.2.2/\Out lo hi w w':=by
 have k4:(k != 4)=true:=by simpa using hk
 clear hk;have nI:∀ (fn:Fn) (first cap:Array Value) (w:World),(Instr.makeFunc fn first cap).run Tryz.prog w=.ok (.func fn first cap) w:=fun _ _ _ _=>rfl
 have Hh:=Q3 h;have fR:=Q3 (J0 (w:=w) (o:=Dz 0 0 32) (o2:=Dz 0 0 46));have fF:=Q3 (J4 (w:=w) (o:=Dz 0 0 32) (o2:=Dz 0 0 46));have HO:=Q3 (((Out.refl 0 0 w).alloc (Dz 0 0 32)).alloc (Dz 0 0 46));obtain⟨gv,aN⟩:∃ g,w.heap.size=g:=⟨_,rfl⟩
 have aW:=Q3 aN;obtain⟨V1,eQ⟩:∃ V,(w.alloc (Dz 0 0 32)).alloc (Dz 0 0 46)=V:=⟨_,rfl⟩
 rw[eQ,aN] at fR fF;rw[eQ] at HO;have kP:=HO.out.cell hH z0;have HH1:=Q3 kP;have dX:=Q3 hout;clear h hH hout;have HTk:=Q3 (q5n (Hh.out.quiet HO.out) kP dX.out k nn t hz hzv z1 z2 hl ha he hf fG);have HG:=Q3 Hh.out.1.glob;clear hz hzv z1 z2 hl ha he hf fG;go_enter_defers Tryz.func16,Tryz.ntmps16
 go_wp2_with fail;(try rw[eQ]);(try rw[aN]);clear eQ aN;refine(U2 _ _).mono ?_;rintro e w5 ⟨rfl,he⟩;rw[he];clear he w5;go_wp2_with fail;refine(z0k _ _).mono ?_;rintro e w6 ⟨rfl,he⟩;rw[he];clear he w6;go_wp2_with fail;refine HTk.out.mono ?_;rintro e X3 ⟨rfl,S3,q3⟩;have hd:hi<=gv+1:=by have h1:=Hh.out.1.top;have h2:=aW.out;omega
 have hn:4<=gv+1:=by have h3:=Hh.out.1.glob;have h4:=Hh.out.1.inn 0 (by omega);omega
 simp;refine leaves_cons (f:=38) (args:=#[.pointer (some ⟨gv+1,0,none⟩)]) (by simp) (by simp[go_sem]) ?_;refine(z2k (q3.heap fF.out (.inr (by have h1:=Hh.out.1.top;have h2:=aW.out;omega)))).mono ?_;rintro e u' w9 ⟨rfl,rfl,f9,q9⟩;exact Y7 (J2 Tryz.results16 rfl rfl (U1 (q9.heap (q3.heap fR.out (.inr (by have h1:=Hh.out.1.top;have h2:=aW.out;omega))) (.inl (Nat.lt_succ_self _)))) (J5 f9)) ⟨rfl,S3.kept q9 (.inl hd) (.inl hn),((HO.out.any lo hi).trans q3).then q9 (by have:=aW.out;omega)⟩
theorem j2u (h:SpAt w lo hi s n cap st) (hH:cq w hb 0=some (Pq (s 14))) (hout:hb<lo\/hi<=hb) (k nn t:Int) (hk:k ≠ 4) {z a fa:Int} (hz:U5 k nn=true) (hzv:Y9 k nn=z) (z1:-9223372036854775808<=z) (z2:z<=9223372036854775807) (hl:st.last<4611686018427387904) (ha:(alF n st k z t).1=a) (he:(alF n st k z t).2.1=0) (hf:(alF n st k z t).2.2.1=fa) {b1 b2 b3 b4:Int} (hM:(Q6 n (alF n st k z t).2.2.2).M a=some (b1,b2,b3,b4)):Kz 16 #[Pq hb,Iz k,Iz nn,Iz t] w fun e w'=>e=.returned (.tuple #[Vz 2 a,Vz 0 0])/\SpAt w' lo hi s n cap (z1q (alF n st k z t).2.2.2 (mkF n a b1 b2 (alF n st k z t).2.2.2.W (z0i b1 b2)))/\Out lo hi w w':=by
 have k4:(k != 4)=true:=by simpa using hk
 clear hk;have nI:∀ (fn:Fn) (first cap:Array Value) (w:World),(Instr.makeFunc fn first cap).run Tryz.prog w=.ok (.func fn first cap) w:=fun _ _ _ _=>rfl
 have Hh:=Q3 h;have fR:=Q3 (J0 (w:=w) (o:=Dz 0 0 32) (o2:=Dz 0 0 46));have fF:=Q3 (J4 (w:=w) (o:=Dz 0 0 32) (o2:=Dz 0 0 46));have HO:=Q3 (((Out.refl 0 0 w).alloc (Dz 0 0 32)).alloc (Dz 0 0 46));obtain⟨gv,aN⟩:∃ g,w.heap.size=g:=⟨_,rfl⟩
 have aW:=Q3 aN;obtain⟨V1,eQ⟩:∃ V,(w.alloc (Dz 0 0 32)).alloc (Dz 0 0 46)=V:=⟨_,rfl⟩
 rw[eQ,aN] at fR fF;rw[eQ] at HO;have kP:=HO.out.cell hH z0;have HH1:=Q3 kP;have dX:=Q3 hout;clear h hH hout;have HTk:=Q3 (j7j (Hh.out.quiet HO.out) kP dX.out k nn t hz hzv z1 z2 hl ha he hf hM);have Ha:Hid (∀ V,SpAt V lo hi s n cap (alF n st k z t).2.2.2->0<=a/\a+b2<=64*n/\1<=b2/\b2<=1024/\n<=4096):=fun V hV=>by
  have q:=G6 hV.2 a _ hM;exact⟨q.1,q.2.1,q.2.2.1,q.2.2.2,hV.1.n2⟩
 generalize (alF n st k z t).2.2.2=S2 at *
 clear hz hzv z1 z2 hl ha he hf hM kP;go_enter_defers Tryz.func16,Tryz.ntmps16
 go_wp2_with fail;(try rw[eQ]);(try rw[aN]);clear eQ aN;refine(U2 _ _).mono ?_;rintro e w5 ⟨rfl,he⟩;rw[he];clear he w5;go_wp2_with fail;refine(z0k _ _).mono ?_;rintro e w6 ⟨rfl,he⟩;rw[he];clear he w6;go_wp2_with fail;refine HTk.out.mono ?_;rintro e X3 ⟨rfl,S3,q3⟩;replace Ha:=Q3 (Ha.out X3 S3);obtain⟨gb,V4,bD,bV,o4,f4⟩:=alz X3 (Ez a b1 b2 b3 b4 81)
 have bX:Hid (hi<=gb):=by have h1:=S3.1.top;rw[<-bD];exact h1
 have lT:=Q3 f4;have HS4:=Q3 (S3.quiet o4);have HQ4:=Q3 (((HO.out.any lo hi).trans q3).trans (o4.any lo hi));have HQ1:=Q3 (q3.trans (o4.any lo hi));obtain⟨y0,y1,y2,y3,y4,y5⟩:=K7 f4;clear S3 q3 o4 f4;go_wp2_with fail;(try rw[bV]);(try rw[bD]);clear bV bD;refine(q3n b1 b2 HS4.out.1.tab (by have:=Ha.out;omega) (by have:=Ha.out;omega)).mono ?_;rintro e X5 ⟨vl,rfl,L5,q5⟩;obtain⟨lp,lc,rfl,hlp⟩:=j5h L5;have Hlp:=Q3 hlp;have HL:=Q3 (j9d b1 b2);have kX:=Q3 (HS4.out.quiet q5);have HQ5:=Q3 (HQ4.out.trans (q5.any lo hi));have HQ15:=Q3 (HQ1.out.trans (q5.any lo hi));have HB5:=Q3 (q5.heap lT.out z0);have HV4:Hid (hi<=V4.heap.size):=HS4.out.1.top;obtain⟨L,hL⟩:∃ L,(z0i b1 b2).length=L:=⟨_,rfl⟩
 rw[hL];rw[hL] at Hlp HL;have HLe:=Q3 hL;have hLi:(L:Int)<=1024:=by have:=HL.out;omega
 clear hL hlp L5 q5 y0 y1 y2 y3 y4 y5;go_wp2_with fail;go_loopw [30] (fun y wr=>∃ j:Nat,j<=L/\y=Iz (j:Int)/\SpAt wr lo hi s n cap (z1q S2 (mkF n a b1 b2 S2.W ((z0i b1 b2).take j)))/\Out lo hi X5 wr) (fun y _=>L-(intOf y).toNat)
 case atStart=>exact⟨0,Nat.zero_le _,rfl,kX.out,Out.refl _ _ _⟩
 case round=>
  obtain⟨j,j1,rfl,hS,hO⟩:=hrel;have cH:=Q3 (And.intro hS hO);obtain⟨y0,y1,y2,y3,y4,y5⟩:=K7 (hO.heap HB5.out (.inr bX.out));clear hS hO;by_cases hj:j<L
  ·have b1':(j:Int)<(L:Int):=by omega
   have b0:(0:Int)<=(j:Int):=by omega
   obtain⟨x,hx⟩:∃ x,(z0i b1 b2)[j]? = some x:=⟨_,List.getElem?_eq_getElem (by have:=HLe.out;omega)⟩
   have Hx:=Q3 hx;obtain⟨g,rfl,hg1,nL⟩:=Hlp.out (by omega);have d0:=cH.out.2.cell (nL j x hx) (.inr (by have h1:=HV4.out;omega));have hxx:x<=1024:=x3l (List.mem_of_getElem? hx);have kO:IntKind.i64.wrap (a+(x:Int))=a+x:=by have h2:=Ha.out;rw[IntKind.wrap_i64];omega
   have y6:=(HQ15.out.trans cH.out.2).cell HH1.out dX.out;clear hx hg1 nL hxx y3 y4 y5;go_wp2_with fail;clear d0;refine wp_region_held_drew (S:=fun w'=>cq w' hb 0=some (Pq (s 14))/\cq w' gb 0=some (Iz a)/\cq w' gb 1=some (Iz b1)/\cq w' gb 2=some (Iz b2)) (by kernel_rfl) ?hS197 (fun aB=>?rest197)
   case hS197=>exact⟨y6,y0,y1,y2⟩
   obtain⟨Z0,hZ⟩:∃ Z,wr.drew=Z:=⟨_,rfl⟩
   have O:Out 0 0 wr Z0:=by rw[<-hZ];exact(Out.refl 0 0 _).drew
   rw[hZ] at aB ⊢;clear hZ;refine tq Tryz.results16 0 ?_;refine tq Tryz.results16 1 ?_;refine tq Tryz.results16 2 ?_;refine tq Tryz.results16 3 ?_;refine tq Tryz.results16 4 ?_;refine tq Tryz.results16 5 ?_;refine tq Tryz.results16 6 ?_;refine tq Tryz.results16 7 ?_;refine tq Tryz.results16 8 ?_;refine tq Tryz.results16 9 ?_;refine tq Tryz.results16 10 ?_;refine tq Tryz.results16 11 ?_;refine tq Tryz.results16 12 ?_;refine rd1 13 fun KK hK=>?_
   go_simp;refine(z4n b1 b2 x ((cH.out.1.quiet O).1.tab) (by have:=Ha.out;omega) (by have:=Ha.out;omega)).mono ?_;rintro e w6 ⟨rfl,he⟩;rw[he];clear he w6;refine hK.out _ _ (aB) fun aB=>?_
   clear hK KK;refine rd1 14 fun KK hK=>?_
   go_simp;refine(j4n _ _).mono ?_;rintro e X7 ⟨rfl,q7⟩;replace O:=O.trans q7;refine hK.out _ _ ⟨q7.cell aB.1 z0,q7.cell aB.2.1 z0,q7.cell aB.2.2.1 z0,q7.cell aB.2.2.2 z0⟩ fun aB=>?_
   clear q7 hK KK;refine rd1 15 fun KK hK=>?_
   go_simp;refine(z5d (cH.out.1.quiet O) (a+x) (z1r (J6 b1 b2 x))).mono ?_;rintro e X9 ⟨rfl,P9,q9⟩;refine hK.out _ _ ⟨q9.cell aB.1 dX.out,q9.cell aB.2.1 (.inr bX.out),q9.cell aB.2.2.1 (.inr bX.out),q9.cell aB.2.2.2 (.inr bX.out)⟩ fun aB=>?_
   clear hK KK;refine dn ?_;have HP9:Hid (SpAt X9 lo hi s n cap (z1q S2 (mkF n a b1 b2 S2.W ((z0i b1 b2).take (j+1))))):=by
    rw[j9z Hx.out];exact P9
   have HQ9:=Q3 ((cH.out.2.trans (O.any lo hi)).trans q9);clear aB P9 q9 O y0 y1 y2 y6;go_wp2_with fail;go_roundw
   case rel=>exact⟨j+1,by omega,by go_num,HP9.out,HQ9.out⟩
   case measure=>simp[intOf];omega
  ·have b1':¬ (j:Int)<(L:Int):=by omega
   have ej:j=L:=by omega
   subst ej;have HE:=Q3 cH.out.1;rw[show (z0i b1 b2).take j=z0i b1 b2 from List.take_of_length_le (by have:=HLe.out;omega)] at HE;have HVa:Hid (Q8 2 a=true):=by
    have h1:=Ha.out;unfold Q8;rw[decide_eq_true_eq];exact .inr (.inl ⟨rfl,by omega,by omega⟩)
   go_wp2_with fail;refine(j6l HVa.out _).mono ?_;rintro e X8 ⟨rfl,q8⟩;have HQ8:=Q3 ((HQ15.out.trans cH.out.2).trans (q8.any lo hi));have gG:=Q3 (HQ8.out.heap fR.out (.inr (by have h1:=Hh.out.1.top;have h2:=aW.out;omega)));have cW:=Q3 (HQ8.out.heap fF.out (.inr (by have h1:=Hh.out.1.top;have h2:=aW.out;omega)));have HS8:=Q3 (HE.out.quiet q8);obtain⟨a0,a1,a2,a3⟩:=Q5 gG.out;obtain⟨c0,c1,c2,c3⟩:=flt_facts cW.out;have e1:=G5 (x1:=2) (x2:=a) gG.out;have o1:=(Out.refl gv (gv+1) X8).set2 (b:=gv) (o:=0) (o':=1) Lz (Iz 2) (Iz a);have f1:=o1.heap cW.out (.inr (Nat.le_refl _));have f2:=J3 (x':=0) (y':=0) f1;have o2:=(Out.refl (gv+1) (gv+2) ((X8.setCell ⟨gv,0,none⟩ (Iz 2)).setCell ⟨gv,1,none⟩ (Iz a))).set2 (b:=gv+1) (o:=0) (o':=1) Lz (Iz 0) (Iz 0);have e2:=o2.heap e1 (.inl (Nat.lt_succ_self _));have hd:hi<=gv:=by have h1:=Hh.out.1.top;have h2:=aW.out;omega
   have hn:4<=gv:=by have h3:=Hh.out.1.glob;have h4:=Hh.out.1.inn 0 (by omega);omega
   have P9:=(HS8.out.kept o1 (.inl hd) (.inl hn)).kept o2 (.inl (by omega)) (.inl (by omega));have Q9:=(((HO.out.any lo hi).trans HQ8.out).then o1 (by have:=aW.out;omega)).then o2 (by have:=aW.out;omega);have jA:=Q3 (And.intro e2 (And.intro f2 (And.intro P9 Q9)));clear q8 e1 o1 f1 f2 o2 e2 P9 Q9 y0 y1 y2 y3 y4 y5;go_wp2;refine leaves_cons (f:=38) (args:=#[.pointer (some ⟨gv+1,0,none⟩)]) (by simp) (by simp[go_sem]) ?_;refine(z9t jA.out.2.1).mono ?_;rintro e u' w9 ⟨rfl,rfl,f9,q9⟩;exact Y7 (J2 Tryz.results16 rfl rfl (U1 (q9.heap jA.out.1 (.inl (Nat.lt_succ_self _)))) (J5 f9)) ⟨rfl,jA.out.2.2.1.kept q9 (.inl (by omega)) (.inl (by omega)),jA.out.2.2.2.then q9 (by have:=aW.out;omega)⟩
end
theorem NewS {w:World} (hT:Tab w) (n:Nat) (h1:1<=n) (h2:n<=4096) :
  Calls Tryz.prog 15 #[.int .i64 n] w fun e w'=>∃ s cap hi hb,e=.returned (.tuple #[.pointer (some ⟨hb,0,none⟩),.int .i64 0])/\SpAt w' w.heap.size hi s n cap newSp/\hi<=hb/\w'.cell? ⟨hb,0,none⟩=some (.pointer (some ⟨s 14,0,none⟩))/\Out 0 0 w w':=by
 refine(x2q hT n h1 h2).mono ?_;rintro e w' ⟨s,cap,hi,hb,rfl,hr,h3,h4,h5⟩;refine⟨s,cap,hi,hb,rfl,⟨?_,x3u h1 h2⟩,h3,h4,h5⟩;rw[<-x4r];exact hr
theorem al1:(alF 1 newSp 1 3 0).1=0/\(alF 1 newSp 1 3 0).2.1=0/\(alF 1 newSp 1 3 0).2.2.1=0:=by decide +kernel
theorem al2:(Q6 1 (alF 1 newSp 1 3 0).2.2.2).M 0=some (1,3,1,0):=by decide +kernel
theorem al4:F8 (J6 1 3 1)=true/\Q8 1 5=true/\U5 1 0=true/\Y9 1 0=3:=by decide +kernel
theorem q8v {w:World} {lo hi hb n cap:Nat} {s:Nat->Nat} {st:Sp} (h:SpAt w lo hi s n cap st) (hH:w.cell? ⟨hb,0,none⟩=some (.pointer (some ⟨s 14,0,none⟩))) (hout:hb<lo\/hi<=hb) (k m i xk xn:Int) {t1 t2 t3 t4:Int} (hM:(Q6 n st).M m=some (t1,t2,t3,t4)) (cL:opE (Q6 n st) k m=0) (hf:F8 (J6 t1 t2 i)=true) (hx:Q8 xk xn=true) (hg:rgB (Q6 n st) m (t1,t2,t3,t4) (J6 t1 t2 i) (xn*8+(xk-1))=true) :
  Calls Tryz.prog 17 #[.pointer (some ⟨hb,0,none⟩),.agg #[.int .i64 k,.int .i64 m],.int .i64 i,.agg #[.int .i64 xk,.int .i64 xn]] w fun e w'=>e=.returned (.agg #[.int .i64 0,.int .i64 0])/\SpAt w' lo hi s n cap (z1q st (F3 n st.W (m+i) (xn*8+(xk-1))))/\Out lo hi w w':=
 (x2s h.1 (G6 h.2) hH k m i xk xn hM cL hf hx hg hout).mono fun e w' ⟨h1,h2,h3⟩=>⟨h1,⟨h2,j0o h.2 _⟩,h3⟩
theorem x5v:∃ eU eT st3,(alF 1 newSp 1 3 0).2.2.2=eU/\z1q eU (mkF 1 0 1 3 eU.W (z0i 1 3))=eT/\z1q eT (F3 1 eT.W (0+1) (5*8+(1-1)))=st3/\(Q6 1 eU).M 0=some (1,3,1,0)/\(Q6 1 eT).M 0=some (1,3,1,0)/\(Q6 1 st3).M 0=some (1,3,1,0) ∧
  opE (Q6 1 eT) 2 0=0/\opE (Q6 1 st3) 2 0=0/\rgB (Q6 1 eT) 0 (1,3,1,0) (J6 1 3 1) (5*8+(1-1))=true/\z2u 1 (Q6 1 st3).W (0+1)=40/\rgB (Q6 1 st3) 0 (1,3,1,0) (J6 1 3 1) (z2u 1 (Q6 1 st3).W (0+1))=true:=
 ⟨_,_,_,rfl,rfl,rfl,by decide +kernel,by decide +kernel,by decide +kernel,by decide +kernel,by decide +kernel,by decide +kernel,by decide +kernel,by decide +kernel⟩
theorem j3b {w:World} (hT:Tab w):Kz 9 #[] w fun e w'=>e=.returned (.bool true)/\Out 0 0 w w':=by
 obtain⟨eU,eT,st3,e1,e2,e3,m1,m2,m3,p2,p3,g2,pk,g3⟩:=x5v;have HN:=Q3 (NewS hT 1 (Nat.le_refl 1) (by omega));rw[show ((1:Nat):Int)=1 from rfl] at HN;have HA:=Q3 (And.intro e1 (And.intro e2 (And.intro e3 (And.intro m1 (And.intro m2 (And.intro m3 (And.intro p2 (And.intro p3 (And.intro g2 (And.intro pk g3))))))))));clear hT e1 e2 e3 m1 m2 m3 p2 p3 g2 pk g3;go_enter Tryz.func9,Tryz.ntmps9
 go_wp2_with fail;refine HN.out.mono ?_;rintro e X1 ⟨s,cap,hi,hb,rfl,S1,hh,hc,o1⟩;obtain⟨lo,hlo⟩:∃ lo,w.heap.size=lo:=⟨_,rfl⟩
 have HLo:=Q3 (Nat.le_of_eq hlo);rw[hlo] at S1;have HM:=Q3 (j2u S1 hc (.inr hh) 1 0 0 (by decide) (z:=3) (a:=0) (fa:=0) al4.2.2.1 al4.2.2.2 (by decide) (by decide) (by decide) al1.1 al1.2.1 al1.2.2 al2);have bM:=Q3 o1;clear HN hlo;go_wp2_with fail;refine HM.out.mono ?_;rintro e X2 ⟨rfl,S2,o2⟩;go_wp2_with fail;have fA:=Q3 (J8 (w:=X2) (o:=Dz 2 0 32) (o2:=Dz 0 0 46) (o3:=Dz 1 5 32));have fF:=Q3 (J7 (w:=X2) (o:=Dz 2 0 32) (o2:=Dz 0 0 46) (o3:=Dz 1 5 32));have f5:=Q3 (J9 (w:=X2) (o:=Dz 2 0 32) (o2:=Dz 0 0 46) (o3:=Dz 1 5 32));have o3:=(((Out.refl 0 0 X2).alloc (Dz 2 0 32)).alloc (Dz 0 0 46)).alloc (Dz 1 5 32);obtain⟨ga,hga⟩:∃ g,X2.heap.size=g:=⟨_,rfl⟩
 obtain⟨V3,hV3⟩:∃ V,((X2.alloc (Dz 2 0 32)).alloc (Dz 0 0 46)).alloc (Dz 1 5 32)=V:=⟨_,rfl⟩
 rw[hV3,hga] at fA fF f5;rw[hV3] at o3;have Hga:Hid (hi<=ga):=by rw[<-hga];exact S2.1.top
 have hc3:=o3.cell (o2.cell hc (.inr hh)) z0;have HS:=Q3 (q8v (S2.quiet o3) hc3 (.inr hh) 2 0 1 1 5 (by rw[HA.out.1,HA.out.2.1];exact HA.out.2.2.2.2.1) (by rw[HA.out.1,HA.out.2.1];exact HA.out.2.2.2.2.2.2.1) al4.1 al4.2.1 (by rw[HA.out.1,HA.out.2.1];exact HA.out.2.2.2.2.2.2.2.2.1));rw[HA.out.1,HA.out.2.1,HA.out.2.2.1] at HS;have bU:=Q3 ((bM.out.then o2 HLo.out).trans o3);have Hhc:=Q3 hc3;rw[hV3,hga];clear hV3 hga S2 o2 o3 hc hc3;refine HS.out.mono ?_;rintro e X4 ⟨rfl,S4,o4⟩;have o5:=(Out.refl 0 0 X4).alloc (Dz 0 0 46);have fA5:=o5.heap (o4.heap fA.out (.inr Hga.out)) z0;have fK:=o5.heap (o4.heap fF.out (.inr (Nat.le_succ_of_le Hga.out))) z0;have f55:=o5.heap (o4.heap f5.out (.inr (Nat.le_succ_of_le (Nat.le_succ_of_le Hga.out)))) z0;have fG5:=heap_alloc_new X4 (Dz 0 0 46);obtain⟨a0,a1,a2,a3⟩:=Q5 fA5;have HF:=Q3 (And.intro fK (And.intro f55 fG5));have HG:=Q3 (j2r (S4.quiet o5).1 (G6 S4.2) (S4.quiet o5).1.tab (o5.cell (o4.cell Hhc.out (.inr hh)) z0) 2 0 1 HA.out.2.2.2.2.2.1 HA.out.2.2.2.2.2.2.2.1 (by omega) al4.1 HA.out.2.2.2.2.2.2.2.2.2.2);rw[HA.out.2.2.2.2.2.2.2.2.2.1,show (40:Int) % 8+1=1 from rfl,show (40:Int) / 8=5 from rfl] at HG;have bL:=Q3 ((bU.out.then o4 HLo.out).trans o5);clear S4 o4 o5 fA5 fK f55 fG5;go_wp2_with fail;refine HG.out.mono ?_;rintro e X6 ⟨rfl,o6⟩;clear a0 a1 a2 a3;have o7:=((Out.refl 0 0 X6).alloc (Dz 1 5 32)).alloc (Dz 0 0 46);have o67:=o6.trans o7;obtain⟨b0,b1,b2,b3⟩:=flt_facts (o67.heap HF.out.1 z0);obtain⟨c0,c1,c2,c3⟩:=Q5 (o67.heap HF.out.2.1 z0);obtain⟨d0,d1,d2,d3⟩:=flt_facts (o67.heap HF.out.2.2 z0);have hE:∀ W,(binOp .eql 32 (Vz 1 5) (Vz 1 5)).run Tryz.prog W=.ok (.bool true) W:=fun W=>eqv 1 5 1 5 W
 have HE:=Q3 (bL.out.trans o67);clear o6 o7 o67;go_wp2;go_ret;exact⟨rfl,HE.out⟩
def drR (n:Nat) (r:Raw) (a:Nat) (z x:Int):Raw:=
 { r with S:=if 32<z then gvS r.S n ((a / 64:Nat):Int) else r.S,P:=upd r.P a false,M:=fun i=>if i=(a:Int) then none else r.M i,R:=fun i=>if i=x then none else r.R i }
section
variable {w:World} {lo hi n cap:Nat} {s:Nat->Nat} {r:Raw}
theorem j9v (M:Int->Option Blk) (a:Int):(fun y=>if y=a then none else z7f M y)=z7f (fun i=>if i=a then none else M i):=by
 funext y
 unfold z7f;by_cases e:y=a
 ·subst e;simp
 ·simp[e]
theorem j9x (R:Int->Option Int) (a:Int):(fun y=>if y=a then none else j7v R y)=j7v (fun i=>if i=a then none else R i):=by
 funext y
 unfold j7v;by_cases e:y=a
 ·subst e;simp
 ·simp[e]
theorem j8v (h:RawAt w lo hi s n cap r) {a:Nat} {k z x t:Int} (z1:1<=z) (z2:z<=1024) (ha:a<64*n) :
  Kz 139 #[Pq (s 14),Wz (a:Int) k z x t] w fun e w'=>(∃ v,e=.returned v)/\RawAt w' lo hi s n cap (drR n r a z x)/\Out lo hi w w':=by
 have h0:Out 0 0 w (w.alloc (bo (a:Int) k z x t)):=(Out.refl 0 0 w).alloc _;have hq:=h.quiet h0;have HQ:=Q3 hq;have H0:=Q3 h0;have HBX:Hid ((w.alloc (bo (a:Int) k z x t)).heap[w.heap.size]? = some (bo (a:Int) k z x t)):=heap_alloc_new _ _;have HD:Hid (hi<=w.heap.size/\4<=w.heap.size/\n<=4096/\(s 12<hi/\s 13<hi/\s 10<hi/\s 8+2<=hi/\s 14<hi)/\(s 14<s 12\/s 12+1<=s 14)/\(s 14<s 13\/s 13+1<=s 14)/\(s 14<s 10\/s 10+1<=s 14)/\(s 14<s 8\/s 8+2<=s 14)):=by
  have i12:=h.inn 12 (by omega);have i13:=h.inn 13 (by omega);have i11:=h.inn 10 (by omega);have i8:=h.inn 8 (by omega);have i14:=h.inn 14 (by omega);have a12:=h.apart 12 14 (by omega) (by omega) (by omega);have a13:=h.apart 13 14 (by omega) (by omega) (by omega);have a11:=h.apart 10 14 (by omega) (by omega) (by omega);have a8:=h.apart 8 14 (by omega) (by omega) (by omega);simp[ln] at i12 i13 i11 i8 i14 a12 a13 a11 a8;exact⟨h.top,h.tab.lt,h.n2,by omega,by omega,by omega,by omega,by omega⟩
 have HA:=Q3 ha;have HPg:=Q3 (fun w'=>z0q (z9c z w') (Out.refl 0 0 w'));have b0:(0:Int)<=(a:Int):=by omega
 obtain⟨d0,d1,d2,d3,d4,d5⟩:=hq.cells;obtain⟨q0,q1,q2,q3,q4⟩:=F0 HBX.out;have hqd:=hq.quiet ((Out.refl 0 0 _).drew);obtain⟨wM,hmu,hmM,oN⟩:=x2e (ty:=0) Tryz.underlying136 Tryz.underlying3 hqd.objs (a:Int);have HRM:=Q3 (hqd.setM (M':=fun i=>if i=(a:Int) then none else r.M i) oN (by rw[<-j9v];exact hmM));unfold bo at *;clear h h0 hq hqd ha hmM;go_enter Tryz.func139,Tryz.ntmps139
 go_wp2_with fail;refine wp_region_held_drew (S:=fun w'=>cq w' (s 14) 2=some (.map (some (s 12)))/\cq w' w.heap.size 0=some (Iz (a:Int))/\cq w' w.heap.size 1=some (Iz k)/\cq w' w.heap.size 2=some (Iz z)/\cq w' w.heap.size 3=some (Iz x)/\cq w' w.heap.size 4=some (Iz t)) (by kernel_rfl) ?hS1 (fun aB=>?rest1)
 case hS1=>exact⟨d2,q0,q1,q2,q3,q4⟩
 refine tk 0 ?_;refine tk 1 ?_;refine tk 2 ?_;refine tk 3 ?_;refine tk 4 ?_;refine tk 5 ?_;refine rd1 6 fun KK hK=>?_
 go_simp;refine hK.out _ _ ⟨oN.cell aB.1 (by have:=HD.out;omega),oN.cell aB.2.1 (by have:=HD.out;omega),oN.cell aB.2.2.1 (by have:=HD.out;omega),oN.cell aB.2.2.2.1 (by have:=HD.out;omega),oN.cell aB.2.2.2.2.1 (by have:=HD.out;omega),oN.cell aB.2.2.2.2.2 (by have:=HD.out;omega)⟩ fun aB=>?_
 clear hK KK;refine dn ?_;clear aB;have gJ:Out lo hi (w.alloc (Ez (a:Int) k z x t 81)) wM:=(((Out.refl 0 0 _).drew).any lo hi).trans (HQ.out.quiet ((Out.refl 0 0 _).drew) |>.wide (i:=12) (by omega) oN);have bM:=Q3 gJ;have HBM:=Q3 (gJ.heap HBX.out (.inr HD.out.1));clear d0 d1 d2 d3 d4 d5 q0 q1 q2 q3 q4 hmu oN gJ;obtain⟨d0,d1,d2,d3,d4,d5⟩:=HRM.out.cells;obtain⟨q0,q1,q2,q3,q4⟩:=F0 HBM.out;have hqd:=HRM.out.quiet ((Out.refl 0 0 _).drew);obtain⟨w2,hmu,hmR,oM⟩:=x2e (ty:=0) Tryz.underlying139 Tryz.underlying3 hqd.sers x;have cV:=Q3 (hqd.setR (R':=fun i=>if i=x then none else r.R i) oM (by rw[<-j9x];exact hmR));have eH:=bM.out.trans ((((Out.refl 0 0 wM).drew).any lo hi).trans (hqd.wide (i:=13) (by omega) oM));have aH:=Q3 eH;have jN:=Q3 (eH.heap HBX.out (.inr HD.out.1));have pI:=Q3 (cV.out.quiet ((Out.refl 0 0 _).drew));clear hqd hmR eH;go_wp2_with fail;refine wp_region_held_drew (S:=fun w'=>cq w' (s 14) 12=some (.map (some (s 13)))/\cq w' w.heap.size 0=some (Iz (a:Int))/\cq w' w.heap.size 1=some (Iz k)/\cq w' w.heap.size 2=some (Iz z)/\cq w' w.heap.size 3=some (Iz x)/\cq w' w.heap.size 4=some (Iz t)) (by kernel_rfl) ?hS9 (fun aB=>?rest9)
 case hS9=>exact⟨d4,q0,q1,q2,q3,q4⟩
 refine tk 0 ?_;refine tk 1 ?_;refine tk 2 ?_;refine tk 3 ?_;refine tk 4 ?_;refine tk 5 ?_;refine rd1 6 fun KK hK=>?_
 go_simp;refine hK.out _ _ ⟨oM.cell aB.1 (by have:=HD.out;omega),oM.cell aB.2.1 (by have:=HD.out;omega),oM.cell aB.2.2.1 (by have:=HD.out;omega),oM.cell aB.2.2.2.1 (by have:=HD.out;omega),oM.cell aB.2.2.2.2.1 (by have:=HD.out;omega),oM.cell aB.2.2.2.2.2 (by have:=HD.out;omega)⟩ fun aB=>?_
 clear hK KK;refine dn ?_;clear aB d0 d1 d2 d3 d4 d5 q0 q1 q2 q3 q4 hmu oM;obtain⟨d0,d1,d2,d3,d4,d5⟩:=cV.out.cells;obtain⟨q0,q1,q2,q3,q4⟩:=F0 jN.out;go_wp2_with fail;refine wp_region_held_drew (S:=fun w'=>cq w' (s 14) 3=some (.pointer (some ⟨s 8+1,0,none⟩))/\cq w' w.heap.size 0=some (Iz (a:Int))/\cq w' w.heap.size 1=some (Iz k)/\cq w' w.heap.size 2=some (Iz z)/\cq w' w.heap.size 3=some (Iz x)/\cq w' w.heap.size 4=some (Iz t)) (by kernel_rfl) ?hS17 (fun aB=>?rest17)
 case hS17=>exact⟨d3,q0,q1,q2,q3,q4⟩
 refine tk 0 ?_;refine tk 1 ?_;refine tk 2 ?_;refine tk 3 ?_;refine tk 4 ?_;refine tk 5 ?_;refine rd1 6 fun KK hK=>?_
 go_simp;refine(z8o pI.out.places (a:Int)).mono ?_;rintro e w3 ⟨rfl,hmp,cL⟩;refine hK.out _ _ ⟨cL.cell aB.1 (by have:=HD.out;omega),cL.cell aB.2.1 (by have:=HD.out;omega),cL.cell aB.2.2.1 (by have:=HD.out;omega),cL.cell aB.2.2.2.1 (by have:=HD.out;omega),cL.cell aB.2.2.2.2.1 (by have:=HD.out;omega),cL.cell aB.2.2.2.2.2 (by have:=HD.out;omega)⟩ fun aB=>?_
 clear hK KK;refine dn ?_;clear aB;have dU:=aH.out.trans ((((Out.refl 0 0 w2).drew).any lo hi).trans (pI.out.wide (i:=8) (by omega) cL));have fY:=Q3 (pI.out.setP cL hmp);have bU:=Q3 dU;have HB3:=Q3 (dU.heap HBX.out (.inr HD.out.1));have hPe:Hid (q5c r.P (64*n) (a:Int) false=upd r.P a false):=by
  show _=_
  unfold q5c;rw[if_pos (show inB (64*n) (a:Int)=true from by unfold inB;simp;have:=HA.out;omega)];rfl
 clear d0 d1 d2 d3 d4 d5 q0 q1 q2 q3 q4 hmp cL dU;obtain⟨d0,d1,d2,d3,d4,d5⟩:=fY.out.cells;obtain⟨q0,q1,q2,q3,q4⟩:=F0 HB3.out;by_cases hz:32<z
 ·have hpz:0<B5 z:=by unfold B5;rw[if_pos ⟨hz,z2⟩];omega
  have HZ:=Q3 hz;have hPv:=Q3 hpz;generalize B5 z=pv at *
  go_wp2_with (refine(HPg.out _).mono ?_;rintro e w4 ⟨rfl,dR⟩);have dY:=Q3 (fY.out.quiet dR);have HR4d:=Q3 ((fY.out.quiet dR).quiet ((Out.refl 0 0 _).drew));have lT:=Q3 (dR.heap HB3.out z0);have bJ:=Q3 (bU.out.trans (dR.any lo hi));clear d0 d1 d2 d3 d4 d5 q0 q1 q2 q3 q4 dR;obtain⟨d0,d1,d2,d3,d4,d5⟩:=dY.out.cells;obtain⟨q0,q1,q2,q3,q4⟩:=F0 lT.out;have HQ64:Hid (IntKind.i64.wrap ((a:Int) / 64)=((a / 64:Nat):Int)):=by
   show _=_
   have:=HA.out;have:=HD.out.2.2.1;simp[IntKind.wrap,IntKind.signed,IntKind.bits];omega
  go_wp2_with fail;refine wp_region_held_drew (S:=fun w'=>cq w' (s 14) 1=some (Pq (s 9))/\cq w' w.heap.size 0=some (Iz (a:Int))/\cq w' w.heap.size 1=some (Iz k)/\cq w' w.heap.size 2=some (Iz z)/\cq w' w.heap.size 3=some (Iz x)/\cq w' w.heap.size 4=some (Iz t)) (by kernel_rfl) ?hS25 (fun aB=>?rest25)
  case hS25=>exact⟨d1,q0,q1,q2,q3,q4⟩
  refine tk 0 ?_;refine tk 1 ?_;refine tk 2 ?_;refine tk 3 ?_;refine tk 4 ?_;refine tk 5 ?_;refine tk 6 ?_;refine rd1 7 fun KK hK=>?_
  go_simp;(try rw[HQ64.out]);refine(q9f HR4d.out.tbl HR4d.out.tab ((a / 64:Nat):Int)).mono ?_;rintro e w5 ⟨rfl,hmt,hot⟩;refine hK.out _ _ ⟨hot.cell aB.1 (by have:=HD.out;omega),hot.cell aB.2.1 (by have:=HD.out;omega),hot.cell aB.2.2.1 (by have:=HD.out;omega),hot.cell aB.2.2.2.1 (by have:=HD.out;omega),hot.cell aB.2.2.2.2.1 (by have:=HD.out;omega),hot.cell aB.2.2.2.2.2 (by have:=HD.out;omega)⟩ fun aB=>?_
  clear hK KK;refine dn ?_;clear aB;go_wp2;have eR:=HR4d.out.setT hot hmt;refine bodyPost_end (results_none Tryz.results139 _ _ _) rfl ⟨⟨_,rfl⟩,eR.congr ?_,((H0.out.any lo hi).trans bJ.out).trans ((((Out.refl 0 0 _).drew).any lo hi).trans (HR4d.out.wide (i:=10) (by omega) hot))⟩;refine Raw.eq rfl ?_ rfl ?_ rfl rfl rfl
  ·show _=if 32<z then _ else _;rw[if_pos HZ.out]
  ·exact hPe.out
 ·have hpz:B5 z=0:=by unfold B5;rw[if_neg (by omega)]
  have HZ:=Q3 hz;rw[hpz] at HPg;clear hpz hz;go_wp2_with (refine(HPg.out _).mono ?_;rintro e w4 ⟨rfl,dR⟩);go_wp2;refine bodyPost_end (results_none Tryz.results139 _ _ _) rfl ⟨⟨_,rfl⟩,(fY.out.quiet dR).congr ?_,((H0.out.any lo hi).trans bU.out).trans (dR.any lo hi)⟩;refine Raw.eq rfl ?_ rfl ?_ rfl rfl rfl
  ·show _=if 32<z then _ else _;rw[if_neg (by have:=HZ.out;omega)]
  ·exact hPe.out
end
section
variable {w:World} {lo hi n cap:Nat} {s:Nat->Nat} {r:Raw}
theorem j4h (h:RawAt w lo hi s n cap r) {p:Nat} (hp:p<n) :
  Kz 189 #[Pq (s 14),Iz (p:Int)] w fun e w'=>e=.returned (.bool (z7u r.P (64*p) (64*p+64) == 0))/\Out 0 0 w w':=by
 have HD:Hid (n<=4096/\p<n):=⟨h.n2,hp⟩
 obtain⟨d0,d1,d2,d3,d4,d5⟩:=h.cells;have HP:=Q3 h.places;have HW1:Hid (wrap64 ((p:Int)*64)=((64*p:Nat):Int)):=by show _=_;have:=HD.out;unfold wrap64;omega
 have HW2:Hid (wrap64 (((64*p:Nat):Int)+64)=((64*p+64:Nat):Int)):=by show _=_;have:=HD.out;unfold wrap64;omega
 have HC:=Q3 (z9w HP.out ((64*p:Nat):Int) ((64*p+64:Nat):Int) (by have:=HD.out;omega));have HE:Hid (z7u r.P (((64*p:Nat):Int)).toNat (min ((64*p+64:Nat):Int) ((64*n:Nat):Int)).toNat=z7u r.P (64*p) (64*p+64)):=by
  show _=_
  congr 1
  have:=HD.out;omega
 clear h hp;go_enter Tryz.func189,Tryz.ntmps189
 go_wp2_with (rw[HW1.out,HW2.out];refine HC.out.mono ?_;rintro e w2 ⟨rfl,ho⟩;rw[HE.out]);go_ret;exact⟨U9 (by rw[Bool.eq_iff_iff];simp),ho⟩
end
end Go.Proofs.YtjgnogflgoihfaaGreatDoor
