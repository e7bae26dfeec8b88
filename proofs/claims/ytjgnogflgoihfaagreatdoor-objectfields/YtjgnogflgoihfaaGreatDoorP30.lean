import Derived.Test.YtjgnogflgoihfaaGreatDoorP29
set_option linter.unusedSimpArgs false
set_option linter.unusedVariables false
set_option maxHeartbeats 16000000
set_option maxRecDepth 100000
namespace Go.Proofs.YtjgnogflgoihfaaGreatDoor
open Go.RowKit
theorem z4u {k nn:Int} (h:U5 k nn=true):-9223372036854775808<=Y9 k nn/\Y9 k nn<=9223372036854775807:=by
 unfold Y9;rw[if_pos h];unfold U5 at h;simp only[Bool.and_eq_true,decide_eq_true_eq] at h;obtain⟨⟨⟨h1,h2⟩,h3⟩,h4⟩:=h;obtain⟨j,rfl,j1,j2⟩:=z2s h1;rcases q1y j1 j2 with rfl | rfl | rfl | rfl | rfl | rfl | rfl | rfl | rfl | rfl | rfl | rfl | rfl <;> (unfold z3f;simp[wd,mo] at *;omega)
theorem j8e {n:Nat} {st:Sp} {k z t:Int} (h:(alF n st k z t).2.1=0):B7 k z=true/\∃ a aR,z0n n st z=some (a,aR)/\alF n st k z t=((a:Int),0,0,F9 n st a aR k z t):=by
 unfold alF at h ⊢;cases hf:B7 k z
 ·rw[hf,if_neg (by simp)] at h;exact absurd (show (24:Int)=0 from h) (by decide)
 ·rw[hf,if_pos rfl] at h;rw[if_pos rfl];refine⟨rfl,?_⟩;cases hp:z0n n st z with
  | none=>rw[hp] at h;exact absurd (show (20:Int)=0 from h) (by decide)
  | some q=>
   obtain⟨a,aR⟩:=q;rw[hp] at h;dsimp only at h ⊢;split at h
   ·exact absurd (show (21:Int)=0 from h) (by decide)
   ·rename_i c
    rw[if_neg c];exact⟨a,aR,rfl,rfl⟩
def maQ (n:Nat) (st:Sp) (k nn t:Int):(Int × Int) × (Int × Int) × Sp:=
 if k=4\/U5 k nn=false then ((0,0),(24,0),st) else
 if (alF n st k (Y9 k nn) t).2.1=0 then ((2,(alF n st k (Y9 k nn) t).1),(0,0),z1q (alF n st k (Y9 k nn) t).2.2.2 (mkF n (alF n st k (Y9 k nn) t).1 k (Y9 k nn) (alF n st k (Y9 k nn) t).2.2.2.W (z0i k (Y9 k nn))))
 else ((0,0),((alF n st k (Y9 k nn) t).2.1,(alF n st k (Y9 k nn) t).2.2.1),(alF n st k (Y9 k nn) t).2.2.2)
theorem j0i {n a:Nat} {st:Sp} {aR:Bool} {k z t:Int} (hf:B7 k z=true):(Q6 n (F9 n st a aR k z t)).M (a:Int)=some (k,z,Y0 st k,t):=by
 have hO:(F9 n st a aR k z t).O a=(k,z,Y0 st k,t):=j6g;have hk:Y6 (k,z,Y0 st k,t)=true:=by
  have:=(U3 hf).1;unfold Y6;simp;omega
 rw[x2k (by rw[hO];exact hk),hO]
theorem j5x {w:World} {lo hi hb n cap:Nat} {s:Nat->Nat} {st:Sp} (h:SpAt w lo hi s n cap st) (hH:w.cell? ⟨hb,0,none⟩=some (.pointer (some ⟨s 14,0,none⟩))) (hout:hb<lo\/hi<=hb) (hl:st.last<4611686018427387904) (k nn t:Int) {v1 v2 e0 a0:Int} {st':Sp} (hq:maQ n st k nn t=((v1,v2),(e0,a0),st')):Calls Tryz.prog 16 #[.pointer (some ⟨hb,0,none⟩),.int .i64 k,.int .i64 nn,.int .i64 t] w fun e w'=>e=.returned (.tuple #[.agg #[.int .i64 v1,.int .i64 v2],.agg #[.int .i64 e0,.int .i64 a0]])/\SpAt w' lo hi s n cap st'/\Out lo hi w w':=by
 unfold maQ at hq;by_cases dE:k=4\/U5 k nn=false
 ·rw[if_pos dE] at hq;cases hq;by_cases hk:k=4
  ·exact(j2w h hH hout k nn t hk).mono fun e w' ⟨e1,e2⟩=>⟨e1,h.quiet e2,e2.any lo hi⟩
  ·exact(j2v h hH hout k nn t hk (dE.resolve_left hk)).mono fun e w' ⟨e1,e2⟩=>⟨e1,h.quiet e2,e2.any lo hi⟩
 ·rw[if_neg dE] at hq;have hk:k ≠ 4:=fun e=>dE (.inl e)
  have hz:U5 k nn=true:=by
   cases c:U5 k nn
   ·exact absurd (.inr c) dE
   ·rfl
  have oK:=z4u hz;by_cases he:(alF n st k (Y9 k nn) t).2.1=0
  ·rw[if_pos he] at hq;obtain⟨hf,a,aR,_,fU⟩:=j8e he;cases hq;have ha:(alF n st k (Y9 k nn) t).1=(a:Int):=by rw[fU]
   have hS:(alF n st k (Y9 k nn) t).2.2.2=F9 n st a aR k (Y9 k nn) t:=by rw[fU]
   have hfa:(alF n st k (Y9 k nn) t).2.2.1=0:=by rw[fU]
   have q:=j2u h hH hout k nn t hk hz rfl oK.1 oK.2 hl ha he hfa (by rw[hS];exact j0i hf);rw[<-ha] at q;exact q
  ·rw[if_neg he] at hq;cases hq;exact j2t h hH hout k nn t hk hz rfl oK.1 oK.2 hl rfl rfl rfl he
theorem j3u {w:World} {lo hi rb cw co n:Nat} {s:Nat->Nat} {st:Sp} (h:RfAt w lo hi s n cw co st) (hI:Inv n st) (hI2:∀ k z t,Inv n (alF n st k z t).2.2.2) (hR:w.cell? ⟨rb,0,none⟩=some (.pointer (some ⟨s 0,0,none⟩))) (hro:rb<lo\/hi<=rb) (hl:st.last<4611686018427387904) (k nn t:Int) {v1 v2 e0 a0:Int} {st':Sp} (hq:maQ n st k nn t=((v1,v2),(e0,a0),st')):Calls Tryz.prog 22 #[.pointer (some ⟨rb,0,none⟩),.int .i64 k,.int .i64 nn,.int .i64 t] w fun e w'=>e=.returned (.tuple #[.agg #[.int .i64 v1,.int .i64 v2],.agg #[.int .i64 e0,.int .i64 a0]])/\RfAt w' lo hi s n cw co st'/\Out lo hi w w':=by
 unfold maQ at hq;by_cases dE:k=4\/U5 k nn=false
 ·rw[if_pos dE] at hq;cases hq;have hbad:k=4\/(k ≠ 4/\U5 k nn=false):=by
   by_cases hk:k=4
   ·exact .inl hk
   ·exact .inr ⟨hk,dE.resolve_left hk⟩
  exact(q6k k nn t hbad).mono fun e w' ⟨e1,e2⟩=>⟨e1,h.quiet e2,e2.any lo hi⟩
 ·rw[if_neg dE] at hq;have hk:k ≠ 4:=fun e=>dE (.inl e)
  have hz:U5 k nn=true:=by
   cases c:U5 k nn
   ·exact absurd (.inr c) dE
   ·rfl
  have oK:=z4u hz;by_cases he:(alF n st k (Y9 k nn) t).2.1=0
  ·rw[if_pos he] at hq;obtain⟨hf,a,aR,_,fU⟩:=j8e he;cases hq;have ha:(alF n st k (Y9 k nn) t).1=(a:Int):=by rw[fU]
   have hS:(alF n st k (Y9 k nn) t).2.2.2=F9 n st a aR k (Y9 k nn) t:=by rw[fU]
   have hfa:(alF n st k (Y9 k nn) t).2.2.1=0:=by rw[fU]
   have nO:=G6 (hI2 k (Y9 k nn) t) a _ (by rw[hS];exact j0i hf);dsimp only at nO;have q:=j8p h hI hR hro k nn t hk hz rfl oK.1 oK.2 hl ha he hfa ⟨nO.2.2.1,nO.2.2.2,nO.2.1⟩;rw[x5y hf nO.2.1] at q;rw[<-ha] at q;exact q
  ·rw[if_neg he] at hq;cases hq;exact j0z h hI hR hro k nn t hk hz rfl oK.1 oK.2 hl rfl rfl rfl he
section
variable {w:World} {lo hi hb:Nat} {s:Nat->Nat} {n cap:Nat} {st:Sp}
theorem q1f (h:SpAt w lo hi s n cap st) (hH:cq w hb 0=some (Pq (s 14))) (hout:hb<lo\/hi<=hb) {p:Option Addr} {bl:Nat} {cb:Nat} (hz:U5 4 bl=false):Kz 64 #[Pq hb,.slice p bl cb] w fun e w'=>e=.returned (.tuple #[Vz 0 0,Vz 24 0])/\Out 0 0 w w':=by
 have nI:∀ (fn:Fn) (first cap:Array Value) (w:World),(Instr.makeFunc fn first cap).run Tryz.prog w=.ok (.func fn first cap) w:=fun _ _ _ _=>rfl
 have Hh:=Q3 h;have fR:=Q3 (J0 (w:=w) (o:=Dz 0 0 32) (o2:=Dz 0 0 46));have fF:=Q3 (J4 (w:=w) (o:=Dz 0 0 32) (o2:=Dz 0 0 46));have HO:=Q3 (((Out.refl 0 0 w).alloc (Dz 0 0 32)).alloc (Dz 0 0 46));obtain⟨gv,aN⟩:∃ g,w.heap.size=g:=⟨_,rfl⟩
 have aW:=Q3 aN;obtain⟨V1,eQ⟩:∃ V,(w.alloc (Dz 0 0 32)).alloc (Dz 0 0 46)=V:=⟨_,rfl⟩
 rw[eQ,aN] at fR fF;rw[eQ] at HO;have kP:=HO.out.cell hH z0;have HH1:=Q3 kP;have dX:=Q3 hout;clear h hH hout;have HTk:=Q3 (q5o (Hh.out.quiet HO.out) kP dX.out 4 bl 0 hz);clear hz;go_enter_defers Tryz.func64,Tryz.ntmps64
 go_wp2_with fail;(try rw[eQ]);(try rw[aN]);clear eQ aN;refine(U2 _ _).mono ?_;rintro e w5 ⟨rfl,he⟩;rw[he];clear he w5;go_wp2_with fail;refine HTk.out.mono ?_;rintro e X3 ⟨rfl,q3⟩;simp;refine leaves_cons (f:=120) (args:=#[.pointer (some ⟨gv+1,0,none⟩)]) (by simp) (by simp[go_sem]) ?_;refine(z2f (q3.heap fF.out z0)).mono ?_;rintro e u' w9 ⟨rfl,rfl,f9,q9⟩;exact Y7 (J2 Tryz.results64 rfl rfl (U1 (q9.heap (q3.heap fR.out z0) (.inl (Nat.lt_succ_self _)))) (J5 f9)) ⟨rfl,(HO.out.trans q3).trans' q9 (by have:=aW.out;omega)⟩
theorem q1e (h:SpAt w lo hi s n cap st) (hH:cq w hb 0=some (Pq (s 14))) (hout:hb<lo\/hi<=hb) {p:Option Addr} {bl:Nat} {cb:Nat} {z a ec fa:Int} (hz:U5 4 bl=true) (hzv:Y9 4 bl=z) (z1:-9223372036854775808<=z) (z2:z<=9223372036854775807) (hl:st.last<4611686018427387904) (ha:(alF n st 4 z 0).1=a) (he:(alF n st 4 z 0).2.1=ec) (hf:(alF n st 4 z 0).2.2.1=fa) (fG:ec ≠ 0):Kz 64 #[Pq hb,.slice p bl cb] w fun e w'=>e=.returned (.tuple #[Vz 0 0,Vz ec fa])/\SpAt w' lo hi s n cap (alF n st 4 z 0).2.2.2/\Out lo hi w w':=by
 have nI:∀ (fn:Fn) (first cap:Array Value) (w:World),(Instr.makeFunc fn first cap).run Tryz.prog w=.ok (.func fn first cap) w:=fun _ _ _ _=>rfl
 have Hh:=Q3 h;have fR:=Q3 (J0 (w:=w) (o:=Dz 0 0 32) (o2:=Dz 0 0 46));have fF:=Q3 (J4 (w:=w) (o:=Dz 0 0 32) (o2:=Dz 0 0 46));have HO:=Q3 (((Out.refl 0 0 w).alloc (Dz 0 0 32)).alloc (Dz 0 0 46));obtain⟨gv,aN⟩:∃ g,w.heap.size=g:=⟨_,rfl⟩
 have aW:=Q3 aN;obtain⟨V1,eQ⟩:∃ V,(w.alloc (Dz 0 0 32)).alloc (Dz 0 0 46)=V:=⟨_,rfl⟩
 rw[eQ,aN] at fR fF;rw[eQ] at HO;have kP:=HO.out.cell hH z0;have HH1:=Q3 kP;have dX:=Q3 hout;clear h hH hout;have HTk:=Q3 (q5n (Hh.out.quiet HO.out) kP dX.out 4 bl 0 hz hzv z1 z2 hl ha he hf fG);have HG:=Q3 Hh.out.1.glob;clear hz hzv z1 z2 hl ha he hf fG;go_enter_defers Tryz.func64,Tryz.ntmps64
 go_wp2_with fail;(try rw[eQ]);(try rw[aN]);clear eQ aN;refine(U2 _ _).mono ?_;rintro e w5 ⟨rfl,he⟩;rw[he];clear he w5;go_wp2_with fail;refine HTk.out.mono ?_;rintro e X3 ⟨rfl,S3,q3⟩;have hd:hi<=gv+1:=by have h1:=Hh.out.1.top;have h2:=aW.out;omega
 have hn:4<=gv+1:=by have h3:=Hh.out.1.glob;have h4:=Hh.out.1.inn 0 (by omega);omega
 simp;refine leaves_cons (f:=120) (args:=#[.pointer (some ⟨gv+1,0,none⟩)]) (by simp) (by simp[go_sem]) ?_;refine(z2f (q3.heap fF.out (.inr (by have h1:=Hh.out.1.top;have h2:=aW.out;omega)))).mono ?_;rintro e u' w9 ⟨rfl,rfl,f9,q9⟩;exact Y7 (J2 Tryz.results64 rfl rfl (U1 (q9.heap (q3.heap fR.out (.inr (by have h1:=Hh.out.1.top;have h2:=aW.out;omega))) (.inl (Nat.lt_succ_self _)))) (J5 f9)) ⟨rfl,S3.kept q9 (.inl hd) (.inl hn),((HO.out.any lo hi).trans q3).then q9 (by have:=aW.out;omega)⟩
end
theorem take_zero {n a i:Nat} {st:Sp} {aR:Bool} {k z t:Int} (hf:B7 k z=true) (h1:a<i) (h2:(i:Int)<(a:Int)+z):(F9 n st a aR k z t).W i=0:=by
 have hz:=U3 hf;have hg:=x4u hz.2.2.1 hz.2.2.2
 show z2p (z0b _ a (Y8 z)) a (B6 a k z) i=0
 unfold z2p;rw[if_neg (by omega)];unfold z0b;rw[if_pos (by omega)]
theorem q5p {bl:Nat} (h:U5 4 bl=true):bl<=4096/\Y9 4 bl=2+((bl+7) / 8:Nat):=by
 have h':=sizeB_iff.1 h;have m1:mo 4=4096:=rfl;rw[m1] at h';refine⟨by omega,?_⟩;unfold Y9;rw[if_pos h,q4m];have m2:wd 4=2:=rfl;rw[m2];omega
def mtQ (n:Nat) (st:Sp) (bs:List Int):(Int × Int) × (Int × Int) × Sp:=
 if U5 4 bs.length=false then ((0,0),(24,0),st) else
 if (alF n st 4 (Y9 4 bs.length) 0).2.1=0 then ((2,(alF n st 4 (Y9 4 bs.length) 0).1),(0,0),z1q (alF n st 4 (Y9 4 bs.length) 0).2.2.2 (mtW n (alF n st 4 (Y9 4 bs.length) 0).1 (alF n st 4 (Y9 4 bs.length) 0).2.2.2.W bs))
 else ((0,0),((alF n st 4 (Y9 4 bs.length) 0).2.1,(alF n st 4 (Y9 4 bs.length) 0).2.2.1),(alF n st 4 (Y9 4 bs.length) 0).2.2.2)
theorem q2h {w:World} {lo hi hb n cap:Nat} {s:Nat->Nat} {st:Sp} (h:SpAt w lo hi s n cap st) (hH:w.cell? ⟨hb,0,none⟩=some (.pointer (some ⟨s 14,0,none⟩))) (hout:hb<lo\/hi<=hb) (hl:st.last<4611686018427387904) {p:Option Addr} {bs:List Int} {cb:Nat} (hB:z1m w p bs) (hcb:bs.length<=cb) (hpo:∀ g cK,p=some ⟨g,cK,none⟩->g<lo\/hi<=g) {v1 v2 e0 a0:Int} {st':Sp} (hq:mtQ n st bs=((v1,v2),(e0,a0),st')):Calls Tryz.prog 64 #[.pointer (some ⟨hb,0,none⟩),.slice p bs.length cb] w fun e w'=>e=.returned (.tuple #[.agg #[.int .i64 v1,.int .i64 v2],.agg #[.int .i64 e0,.int .i64 a0]])/\SpAt w' lo hi s n cap st'/\Out lo hi w w':=by
 unfold mtQ at hq;cases hz:U5 4 bs.length
 ·rw[hz,if_pos rfl] at hq;cases hq;exact(q1f h hH hout hz).mono fun e w' ⟨e1,e2⟩=>⟨e1,h.quiet e2,e2.any lo hi⟩
 ·rw[hz,if_neg (by simp)] at hq;have oK:=z4u hz;by_cases he:(alF n st 4 (Y9 4 bs.length) 0).2.1=0
  ·rw[if_pos he] at hq;obtain⟨hf,a,aR,_,fU⟩:=j8e he;cases hq;have ha:(alF n st 4 (Y9 4 bs.length) 0).1=(a:Int):=by rw[fU]
   have hS:(alF n st 4 (Y9 4 bs.length) 0).2.2.2=F9 n st a aR 4 (Y9 4 bs.length) 0:=by rw[fU]
   have hfa:(alF n st 4 (Y9 4 bs.length) 0).2.2.1=0:=by rw[fU]
   have q:=q5v h hH hout hB hcb hpo (q5p hz).1 hz rfl oK.1 oK.2 hl ha he hfa (by rw[hS];exact j0i hf);rw[<-ha] at q;exact q
  ·rw[if_neg he] at hq;cases hq;exact q1e h hH hout hz rfl oK.1 oK.2 hl rfl rfl rfl he
theorem q1q {w:World} {lo hi rb cw co n:Nat} {s:Nat->Nat} {st:Sp} (h:RfAt w lo hi s n cw co st) (hI:Inv n st) (hI2:∀ k z t,Inv n (alF n st k z t).2.2.2) (hR:w.cell? ⟨rb,0,none⟩=some (.pointer (some ⟨s 0,0,none⟩))) (hro:rb<lo\/hi<=rb) (hl:st.last<4611686018427387904) {p:Option Addr} {bs:List Int} {cb:Nat} (hB:z1m w p bs) (hpo:bs ≠ []->∀ g cK,p=some ⟨g,cK,none⟩->g<lo\/hi<=g) {v1 v2 e0 a0:Int} {st':Sp} (hq:mtQ n st bs=((v1,v2),(e0,a0),st')):Calls Tryz.prog 65 #[.pointer (some ⟨rb,0,none⟩),.slice p bs.length cb] w fun e w'=>e=.returned (.tuple #[.agg #[.int .i64 v1,.int .i64 v2],.agg #[.int .i64 e0,.int .i64 a0]])/\RfAt w' lo hi s n cw co st'/\Out lo hi w w':=by
 unfold mtQ at hq;cases hz:U5 4 bs.length
 ·rw[hz,if_pos rfl] at hq;cases hq;exact(z8q hz).mono fun e w' ⟨e1,e2⟩=>⟨e1,h.quiet e2,e2.any lo hi⟩
 ·rw[hz,if_neg (by simp)] at hq;have oK:=z4u hz;by_cases he:(alF n st 4 (Y9 4 bs.length) 0).2.1=0
  ·rw[if_pos he] at hq;obtain⟨hf,a,aR,_,fU⟩:=j8e he;cases hq;have ha:(alF n st 4 (Y9 4 bs.length) 0).1=(a:Int):=by rw[fU]
   have hS:(alF n st 4 (Y9 4 bs.length) 0).2.2.2=F9 n st a aR 4 (Y9 4 bs.length) 0:=by rw[fU]
   have hfa:(alF n st 4 (Y9 4 bs.length) 0).2.2.1=0:=by rw[fU]
   have nO:=G6 (hI2 4 (Y9 4 bs.length) 0) a _ (by rw[hS];exact j0i hf);dsimp only at nO;have hts:=q5p hz;rw[hts.2] at nO;have q:=q3g (cb:=cb) h hI hR hro hB hpo hz rfl oK.1 oK.2 hl ha he hfa hts.1 (by omega) (fun i h1 h2=>by rw[hS];exact take_zero hf (by omega) (by rw[hts.2];omega));rw[<-ha] at q;exact q
  ·rw[if_neg he] at hq;cases hq;exact z9x h hI hR hro hz rfl oK.1 oK.2 hl rfl rfl rfl he
theorem z4t (a b c d:Int) (w:World):Kz 23 #[Vz a b,Vz c d] w fun e w'=>e=.returned (.bool (a == c && b == d))/\Out 0 0 w w':=by
 have f1:=J0 (w:=w) (o:=Dz a b 46) (o2:=Dz c d 46);have f2:=J4 (w:=w) (o:=Dz a b 46) (o2:=Dz c d 46);have H:=Q3 (((Out.refl 0 0 w).alloc (Dz a b 46)).alloc (Dz c d 46));obtain⟨x0,x1,_,_⟩:=flt_facts f1;obtain⟨y0,y1,_,_⟩:=flt_facts f2;have hE:=eqf a b c d;clear f1 f2;go_enter Tryz.func23,Tryz.ntmps23
 go_wp2;go_ret;exact⟨rfl,H.out⟩
theorem x2z (n:Int) (h:q9p n=false) (w:World):Kz 19 #[Iz n] w fun e w'=>e=.returned (.tuple #[.pointer none,Iz 1])/\w'=w:=by
 have HN:=Q3 (j1y n h w);clear h;go_enter Tryz.func19,Tryz.ntmps19
 go_wp2_with fail;refine HN.out.mono ?_;rintro e w1 ⟨rfl,he⟩;rw[he];clear he;go_wp2;go_ret2;exact⟨rfl,rfl⟩
theorem j8q {w:World} (hg:4<=w.heap.size) (n:Nat) (h1:1<=n) (h2:n<=4096):Kz 19 #[Iz (n:Int)] w fun e w'=>∃ s hi rb,e=.returned (.tuple #[Pq rb,Iz 0])/\RfAt w' w.heap.size hi s n (64*n) (64*n) newSp/\hi<=rb/\cq w' rb 0=some (Pq (s 0))/\Out 0 0 w w':=by
 have HN:=Q3 (q7w hg n h1 h2);clear hg h1 h2;go_enter Tryz.func19,Tryz.ntmps19
 go_wp2_with fail;refine HN.out.mono ?_;rintro e w1 ⟨s,rfl,hR,o1⟩;have f2:=heap_alloc_new w1 (.cells #[Pq (s 0)] 63);have o2:=(Out.refl 0 0 w1).alloc (.cells #[Pq (s 0)] 63);have hc:(w1.alloc (.cells #[Pq (s 0)] 63)).cell? ⟨w1.heap.size,0,none⟩=some (Pq (s 0)):=by
  unfold World.cell?;rw[show (⟨w1.heap.size,0,none⟩:Addr).block=w1.heap.size from rfl,f2];rfl
 have H:=Q3 (And.intro (hR.quiet o2) (And.intro hc (o1.trans o2)));clear hR o1 f2 o2 hc HN;go_wp2;go_ret2;exact⟨s,w1.heap.size,w1.heap.size,rfl,H.out.1,Nat.le_refl _,H.out.2.1,H.out.2.2⟩
def ivl (l:List Int):List Value:=l.map fun x=>.int .i64 x
theorem q9k:(Tryz.prog.info? 3).map (fun i=>(i.zero,i.size,i.bytes))=some (some (.int .i64 0),1,8):=by kernel_rfl
def IRow (w:World) (base:Nat) (v:Value) (l:List Int):Prop:=w.ownsRow base 3 1 v l.length (ivl l)
theorem IRow.nil (w:World) (base:Nat):IRow w base (.slice none 0 0) []:=World.ownsRow_nil _ _ _ _
theorem IRow.kept {w w':World} {base x y:Nat} {v:Value} {l:List Int} (h:IRow w base v l) (o:Out x y w w') (hy:y<=base):IRow w' base v l:=by
 obtain⟨h1,h2⟩:=h;refine⟨h1,?_⟩;rcases h2 with h2 | ⟨g,cap,dI,rfl,h3,h4,h5⟩
 ·exact .inl h2
 ·exact .inr ⟨g,cap,dI,rfl,h3,o.heap h4 (.inr (by omega)),h5⟩
theorem IRow.at {w:World} {base:Nat} {v:Value} {l:List Int} (h:IRow w base v l):∃ po pc,v=.slice po l.length pc/\∀ (j:Nat) (a:Int),l[j]? = some a->∃ g,po=some ⟨g,0,none⟩/\base<=g/\g<w.heap.size/\w.cell? ⟨g,j,none⟩=some (.int .i64 a):=by
 obtain⟨h1,h2⟩:=h;rcases h2 with ⟨e1,h2⟩ | ⟨g,cap,dI,rfl,h3,h4,h5,h6,h7,h8⟩
 ·refine⟨none,0,by rw[e1,h2],fun j a hj=>?_⟩;rw[List.eq_nil_of_length_eq_zero h2] at hj;simp at hj
 refine⟨some ⟨g,0,none⟩,cap,rfl,fun j a hj=>⟨g,rfl,h3,Q7 h4,?_⟩⟩;have lC:=(List.getElem?_eq_some_iff.1 hj).1;have e8:(dI.toList.take (l.length*1))[j]? = (ivl l)[j]? :=by rw[h8]
 unfold ivl at e8;rw[List.getElem?_take,if_pos (by omega),List.getElem?_map,hj] at e8;have:dI[j]? = some (.int .i64 a):=by simpa using e8
 simp[World.cell?,h4,this]
theorem q6c {ops:Array Oper} {rest:List Oper} {o:Oper} {a:Go.Act} {Q:Exit->Go.Act->World->Prop} {w:World} (hgd:o.guard=none) (sx xx:Operand)
  (ho:o.op=.call { callee:=.builtin .append,args:=#[sx,xx],argTypes:=#[70,70] })
  (base:Nat) (v:Value) (l:List Int) (hs:a.eval sx=v) (jR:IRow w base v l) (bb:Nat) (hx:a.eval xx=.slice (some ⟨bb,0,none⟩) 1 1) (q:Int) (hn:w.heap[bb]? = some (.cells #[.int .i64 q] 3 (0,0)))
  (bZ:l.length<=100000) (hbase:base<=w.heap.size)
  (h:∀ v' w',IRow w' base v' (l ++ [q])->Out base w.heap.size w w'->wpList Tryz.prog ops Q rest (a.put o.dst v') w'):wpList Tryz.prog ops Q (o :: rest) a w:=by
 obtain⟨i0,mW,iI,hz1,iH⟩:=z1x q9k;have hc:∀ (j:Nat) u,([.int .i64 q]:List Value)[j]? = some u->w.cell? ((⟨bb,0,none⟩:Addr).add j)=some u:=by
  intro j u hj;rcases j with _ | j
  ·simp at hj;subst hj;simp[Addr.add,World.cell?,hn]
  ·simp at hj
 obtain⟨v2,w',jP,dM,aV,jS⟩:=run_append_own (P:=Tryz.prog) w base 70 o.type 3 i0 (.int .i64 0) 1 8 Tryz.underlying70 mW iI hz1 iH rfl (by decide) v l.length (ivl l) jR ⟨bb,0,none⟩ 1 1 [.int .i64 q] rfl hc (by intro u hu;simp at hu;rw[hu];rfl) (by unfold maxLen;omega) (by omega) hbase;have lX:IRow w' base v2 (l ++ [q]):=by
  unfold IRow;rw[show ivl (l ++ [q])=ivl l ++ [.int .i64 q] from by unfold ivl;simp,List.length_append];exact dM
 have nH:∀ g,v.ownBlock=some g->base<=g:=by
  intro g hg;rcases jR.2 with ⟨rfl,_⟩ | ⟨g',cap,dI,rfl,h3,h4,_⟩
  ·cases hg
  ·simp[Value.ownBlock] at hg;omega
 refine wpList_plain hgd fun K hK=>?_
 unfold Oper.wp;simp[execOp,ho,resolve,invoke,builtin,hs,hx,jP,Result.andThen];exact hK _ _ (h v2 w' lX ⟨aV.os,aV.tape,aV.output,aV.size,fun k h1 h2=>aV.block k h1 (fun e=>by have:=nH k e.symm;omega)⟩)
def vaL (l:List (Nat × Blk)) (k:Int):List Int:=(l.filter fun b=>k == 100 || b.2.1 == k-100).map fun b=>(b.1:Int)
def vaV (l:List (Nat × Blk)) (k nn:Int):Int × Int:=
 if k<100 then (k,nn) else if (vaL l k).length=0 then (2,nn) else (2,(vaL l k).getD (nn % ((vaL l k).length:Int)).toNat 0)
def geQ (n:Nat) (st:Sp) (k m i:Int):Int × Int × Int × Int:=
 if opE (Q6 n st) k m ≠ 0 then (0,0,opE (Q6 n st) k m,opA (Q6 n st) k m) else
 match (Q6 n st).M m with
 | none=>(0,0,0,0)
 | some b=>if F8 (J6 b.1 b.2.1 i)=false then (0,0,32,0) else if rgB (Q6 n st) m b (J6 b.1 b.2.1 i) (z2u n st.W (m+i))=false then (0,0,21,m+i) else (z2u n st.W (m+i) % 8+1,z2u n st.W (m+i) / 8,0,0)
section
variable {w:World} {lo hi hb n cap:Nat} {s:Nat->Nat} {st:Sp}
theorem x0g (h:SpAt w lo hi s n cap st) (hH:w.cell? ⟨hb,0,none⟩=some (.pointer (some ⟨s 14,0,none⟩))) (k m i:Int) {y1 y2 y3 y4:Int} (hq:geQ n st k m i=(y1,y2,y3,y4)):Calls Tryz.prog 18 #[.pointer (some ⟨hb,0,none⟩),.agg #[.int .i64 k,.int .i64 m],.int .i64 i] w fun e w'=>e=.returned (.tuple #[.agg #[.int .i64 y1,.int .i64 y2],.agg #[.int .i64 y3,.int .i64 y4]])/\Out 0 0 w w':=by
 unfold geQ at hq;by_cases ho:opE (Q6 n st) k m ≠ 0
 ·rw[if_pos ho] at hq;cases hq;exact j8a h.1 (G6 h.2) h.1.tab hH k m i ho
 ·rw[if_neg ho] at hq;have dZ:opE (Q6 n st) k m=0:=by omega
  obtain⟨hk,b,hM,_,_⟩:=z3e dZ;rw[hM] at hq;obtain⟨t1,t2,t3,t4⟩:=b;dsimp only at hq;cases hf:F8 (J6 t1 t2 i)
  ·rw[hf,if_pos rfl] at hq;cases hq;exact j2p h.1 (G6 h.2) h.1.tab hH k m i hM dZ hf
  ·rw[hf,if_neg (by simp)] at hq;cases hg:rgB (Q6 n st) m (t1,t2,t3,t4) (J6 t1 t2 i) (z2u n st.W (m+i))
   ·rw[hg,if_pos rfl] at hq;cases hq;exact j2q h.1 (G6 h.2) h.1.tab hH k m i hM dZ h.1.n2 hf hg
   ·rw[hg,if_neg (by simp)] at hq;cases hq;exact j2r h.1 (G6 h.2) h.1.tab hH k m i hM dZ h.1.n2 hf hg
end
section
variable {w:World} {lo hi rb cw co n:Nat} {s:Nat->Nat} {st:Sp}
theorem q0i (k m i:Int) {b0 b1 b2 b3 b4 e0 a0:Int} (hWd:∀ X,Out 0 0 w X->Kz 66 #[Pq rb,Vz k m,Iz i,.bool false] X fun e w'=>e=.returned (.tuple #[Wz b0 b1 b2 b3 b4,Vz e0 a0])/\Out 0 0 X w') (he:e0 ≠ 0):Kz 73 #[Pq rb,Vz k m,Iz i] w fun e w'=>e=.returned (.tuple #[Vz 0 0,Vz e0 a0])/\Out 0 0 w w':=by
 have oQ:(e0 != 0)=true:=by simpa using he
 clear he;have fV:=Q3 (J8 (w:=w) (o:=Dz k m 32) (o2:=Dz 0 0 32) (o3:=Dz 0 0 46));have fX:=Q3 (J7 (w:=w) (o:=Dz k m 32) (o2:=Dz 0 0 32) (o3:=Dz 0 0 46));have fF:=Q3 (J9 (w:=w) (o:=Dz k m 32) (o2:=Dz 0 0 32) (o3:=Dz 0 0 46));have aH:=Q3 ((((Out.refl 0 0 w).alloc (Dz k m 32)).alloc (Dz 0 0 32)).alloc (Dz 0 0 46));have jG:=Q3 hWd;obtain⟨gv,aN⟩:∃ g,w.heap.size=g:=⟨_,rfl⟩
 have aW:=Q3 aN;obtain⟨V2,aQ⟩:∃ V,((w.alloc (Dz k m 32)).alloc (Dz 0 0 32)).alloc (Dz 0 0 46)=V:=⟨_,rfl⟩
 rw[aQ,aN] at fV fX fF;rw[aQ] at aH;obtain⟨u0,u1,u2,u3⟩:=Q5 fV.out;clear hWd;go_enter Tryz.func73,Tryz.ntmps73
 go_wp2_with fail;(try rw[aQ]);(try rw[aN]);clear aQ aN;refine(jG.out _ aH.out).mono ?_;rintro e X3 ⟨rfl,q3⟩;clear u0 u1 u2 u3;have dE:=J0 (w:=X3) (o:=Ez b0 b1 b2 b3 b4 81) (o2:=Dz e0 a0 46);have eG:=J4 (w:=X3) (o:=Ez b0 b1 b2 b3 b4 81) (o2:=Dz e0 a0 46);have o4:=(q3.alloc (Ez b0 b1 b2 b3 b4 81)).alloc (Dz e0 a0 46);have iU:=o4.heap fF.out Oz;have jU:=o4.heap fX.out Oz;obtain⟨y0,y1,y2,y3,y4,y5⟩:=K7 dE;obtain⟨z0,z1,z2,z3⟩:=flt_facts eG;have bY:=Q3 (And.intro dE (And.intro eG (And.intro o4 (And.intro iU jU))));have bK:Hid (gv+3<=X3.heap.size):=by have h1:=Q7 fF.out;have h2:=q3.size;exact Nat.le_trans h1 h2
 clear dE eG o4 q3;obtain⟨V4,bV⟩:∃ V,(X3.alloc (Ez b0 b1 b2 b3 b4 81)).alloc (Dz e0 a0 46)=V:=⟨_,rfl⟩
 obtain⟨gb,bD⟩:∃ g,X3.heap.size=g:=⟨_,rfl⟩
 rw[bV,bD] at bY y0 z0 z1;rw[bD] at bK;rw[bV] at iU jU;clear y0 y1 y2 y3 y4 y5 z2 z3 iU jU;go_wp2_with fail;(try rw[bV]);(try rw[bD]);clear bV bD;refine wp_region_held_drew (S:=fun w'=>cq w' (gb+1) 0=some (Iz e0)/\cq w' (gb+1) 1=some (Iz a0)) (by kernel_rfl) ?hS61 (fun aB=>?rest61)
 case hS61=>exact⟨z0,z1⟩
 obtain⟨Q0,hZ⟩:∃ Z,V4.drew=Z:=⟨_,rfl⟩
 have OQ:Out 0 0 V4 Q0:=by rw[<-hZ];exact(Out.refl 0 0 _).drew
 rw[hZ] at aB ⊢;clear hZ;have HX5:=Q3 (OQ.heap bY.out.2.2.2.2 Oz);have fC:=Q3 (OQ.heap bY.out.2.2.2.1 Oz);have bL:=Q3 ((aH.out.trans bY.out.2.2.1).trans OQ);clear OQ;refine tk 0 ?_;refine tk 1 ?_;refine rd1 2 fun KK hK=>?_
 simp only[xa,xb,xc];obtain⟨c0,c1,c2,c3⟩:=Q5 HX5.out;go_simp;clear c0 c1 c2 c3;have f2:=G5 (x1:=0) (x2:=0) HX5.out;obtain⟨Q1,hY⟩:∃ V,(Q0.setCell ⟨gv+1,0,none⟩ (Iz (0))).setCell ⟨gv+1,1,none⟩ (Iz (0))=V:=⟨_,rfl⟩
 have q8:Out (gv+1) (gv+2) Q0 Q1:=by rw[<-hY];exact(Out.refl _ _ _).set2 Lz _ _
 rw[hY] at f2 ⊢;clear hY;have HX8:=Q3 f2;have cW:=Q3 (q8.heap fC.out (.inr (Nat.le_refl _)));have fH:=Q3 (bL.out.then q8 (by have:=aW.out;omega));clear f2;refine hK.out _ _ ⟨q8.cell aB.1 (.inr (by have h1:=bK.out;omega)),q8.cell aB.2 (.inr (by have h1:=bK.out;omega))⟩ fun aB=>?_
 clear q8 hK KK;refine rd1 3 fun KK hK=>?_
 simp only[xa,xb,xc];obtain⟨c0,c1,c2,c3⟩:=flt_facts cW.out;go_simp;clear c0 c1 c2 c3;have f2:=J3 (x':=e0) (y':=a0) cW.out;obtain⟨Q2,hY⟩:∃ V,(Q1.setCell ⟨gv+2,0,none⟩ (Iz (e0))).setCell ⟨gv+2,1,none⟩ (Iz (a0))=V:=⟨_,rfl⟩
 have q9:Out (gv+2) (gv+3) Q1 Q2:=by rw[<-hY];exact(Out.refl _ _ _).set2 Lz _ _
 rw[hY] at f2 ⊢;clear hY;have fI:=Q3 f2;have HX9:=Q3 (q9.heap HX8.out (.inl (Nat.lt_succ_self _)));have iZ:=Q3 (fH.out.then q9 (by have:=aW.out;omega));clear f2;refine hK.out _ _ ⟨q9.cell aB.1 (.inr (by have h1:=bK.out;omega)),q9.cell aB.2 (.inr (by have h1:=bK.out;omega))⟩ fun aB=>?_
 clear q9 hK KK;refine dn ?_;clear aB;go_wp2;exact bodyPost_ret (J2 Tryz.results73 rfl rfl (U1 HX9.out) (J5 fI.out)) rfl ⟨rfl,iZ.out⟩
theorem j0y (h:RfAt w lo hi s n cw co st) (hR:cq w rb 0=some (Pq (s 0))) (k m i:Int) {b0 b1 b2 b3 b4 a0:Int} (hWd:∀ X,Out 0 0 w X->Kz 66 #[Pq rb,Vz k m,Iz i,.bool false] X fun e w'=>e=.returned (.tuple #[Wz b0 b1 b2 b3 b4,Vz 0 a0])/\Out 0 0 X w') {a:Nat} (mR:b0+i=(a:Int)) (ha:a<64*n) {rg:Bool} (hRt:∀ X,Out 0 0 w X->Kz 68 #[Pq rb,Iz b0,Iz i,Iz (st.W a)] X fun e w'=>e=.returned (.bool rg)/\Out 0 0 X w') (hrg:rg=false):Kz 73 #[Pq rb,Vz k m,Iz i] w fun e w'=>e=.returned (.tuple #[Vz 0 0,Vz 21 (a:Int)])/\Out 0 0 w w':=by
 subst hrg;have HRt:=Q3 hRt;have Hh:=Q3 h;have HR:=Q3 hR;have kO:IntKind.i64.wrap (a:Int)=(a:Int):=by rw[IntKind.wrap_i64];have:=Hh.out.n2;omega
 have Ha:=Q3 ha;obtain⟨M,hM⟩:∃ M,64*n=M:=⟨_,rfl⟩
 have a1:(a:Int)<(M:Int):=by omega
 have a0':(0:Int)<=(a:Int):=by omega
 have HMn:=Q3 hM;clear hRt h hR ha hM;have fV:=Q3 (J8 (w:=w) (o:=Dz k m 32) (o2:=Dz 0 0 32) (o3:=Dz 0 0 46));have fX:=Q3 (J7 (w:=w) (o:=Dz k m 32) (o2:=Dz 0 0 32) (o3:=Dz 0 0 46));have fF:=Q3 (J9 (w:=w) (o:=Dz k m 32) (o2:=Dz 0 0 32) (o3:=Dz 0 0 46));have aH:=Q3 ((((Out.refl 0 0 w).alloc (Dz k m 32)).alloc (Dz 0 0 32)).alloc (Dz 0 0 46));have jG:=Q3 hWd;obtain⟨gv,aN⟩:∃ g,w.heap.size=g:=⟨_,rfl⟩
 have aW:=Q3 aN;obtain⟨V2,aQ⟩:∃ V,((w.alloc (Dz k m 32)).alloc (Dz 0 0 32)).alloc (Dz 0 0 46)=V:=⟨_,rfl⟩
 rw[aQ,aN] at fV fX fF;rw[aQ] at aH;obtain⟨u0,u1,u2,u3⟩:=Q5 fV.out;clear hWd;go_enter Tryz.func73,Tryz.ntmps73
 go_wp2_with fail;(try rw[aQ]);(try rw[aN]);clear aQ aN;refine(jG.out _ aH.out).mono ?_;rintro e X3 ⟨rfl,q3⟩;clear u0 u1 u2 u3;have dE:=J0 (w:=X3) (o:=Ez b0 b1 b2 b3 b4 81) (o2:=Dz 0 a0 46);have eG:=J4 (w:=X3) (o:=Ez b0 b1 b2 b3 b4 81) (o2:=Dz 0 a0 46);have o4:=(q3.alloc (Ez b0 b1 b2 b3 b4 81)).alloc (Dz 0 a0 46);have iU:=o4.heap fF.out Oz;have jU:=o4.heap fX.out Oz;obtain⟨y0,y1,y2,y3,y4,y5⟩:=K7 dE;obtain⟨z0,z1,z2,z3⟩:=flt_facts eG;have bY:=Q3 (And.intro dE (And.intro eG (And.intro o4 (And.intro iU jU))));have bK:Hid (gv+3<=X3.heap.size):=by have h1:=Q7 fF.out;have h2:=q3.size;exact Nat.le_trans h1 h2
 clear dE eG o4 q3;obtain⟨V4,bV⟩:∃ V,(X3.alloc (Ez b0 b1 b2 b3 b4 81)).alloc (Dz 0 a0 46)=V:=⟨_,rfl⟩
 obtain⟨gb,bD⟩:∃ g,X3.heap.size=g:=⟨_,rfl⟩
 rw[bV,bD] at bY y0 z0 z1;rw[bD] at bK;rw[bV] at iU jU;have dY:=Q3 (Hh.out.quiet (aH.out.trans bY.out.2.2.1));have c1:=dY.out.cells.1;rw[HMn.out] at c1;have c2:=(aH.out.trans bY.out.2.2.1).cell HR.out Oz;have c5:=dY.out.rw.cell (i:=a) Ha.out;clear y1 y2 y3 y4 y5 z1 z2 z3 iU jU;go_wp2_with fail;(try rw[bV]);(try rw[bD]);clear bV bD z0;refine wp_region_held_drew (S:=fun w'=>cq w' rb 0=some (Pq (s 0))/\cq w' (s 0) 0=some (.slice (some ⟨s 1,0,none⟩) M cw)/\cq w' gb 0=some (Iz b0)/\cq w' (s 1) a=some (Iz (st.W a))/\Out 0 0 V4 w') (by kernel_rfl) ?hS75 (fun aB=>?rest75)
 case hS75=>exact⟨c2,c1,y0,c5,(Out.refl 0 0 _).drew⟩
 refine tk 0 ?_;refine tk 1 ?_;refine tk 2 ?_;refine tk 3 ?_;refine tk 4 ?_;refine tk 5 ?_;refine tk 6 ?_;refine tk 7 ?_;refine tk 8 ?_;refine tk 9 ?_;refine tk 10 ?_;refine tk 11 ?_;refine tk 12 ?_;refine tk 13 ?_;refine tk 14 ?_;refine tk 15 ?_;refine tk 16 ?_;refine rd1 17 fun KK hK=>?_
 go_simp;refine(HRt.out _ ((aH.out.trans bY.out.2.2.1).trans aB.2.2.2.2)).mono ?_;rintro e X6 ⟨rfl,q6⟩;refine hK.out _ _ ⟨q6.cell aB.1 Oz,q6.cell aB.2.1 Oz,q6.cell aB.2.2.1 Oz,q6.cell aB.2.2.2.1 Oz,aB.2.2.2.2.trans q6⟩ fun aB=>?_
 clear q6 hK KK;refine tk 18 ?_;refine dn ?_;have cJ:=Q3 ((aH.out.trans bY.out.2.2.1).trans aB.2.2.2.2);have HH6:=Q3 (And.intro (aB.2.2.2.2.heap bY.out.1 Oz) (And.intro (aB.2.2.2.2.heap bY.out.2.1 Oz) (And.intro (aB.2.2.2.2.heap bY.out.2.2.2.2 Oz) (aB.2.2.2.2.heap bY.out.2.2.2.1 Oz))));obtain⟨d1,d2,d3,d4,_⟩:=aB;clear c1 c2 c5 y0 bY;go_wp2_with fail;refine wp_region_held_drew (S:=fun w'=>cq w' gb 0=some (Iz b0)) (by kernel_rfl) ?hS66 (fun aB=>?rest66)
 case hS66=>exact d3
 obtain⟨Q0,hZ⟩:∃ Z,X6.drew=Z:=⟨_,rfl⟩
 have OQ:Out 0 0 X6 Q0:=by rw[<-hZ];exact(Out.refl 0 0 _).drew
 rw[hZ] at aB ⊢;clear hZ;have HX5:=Q3 (OQ.heap HH6.out.2.2.1 Oz);have fC:=Q3 (OQ.heap HH6.out.2.2.2 Oz);have bL:=Q3 (cJ.out.trans OQ);clear OQ;refine tk 0 ?_;refine tk 1 ?_;refine tk 2 ?_;refine tk 3 ?_;refine tk 4 ?_;refine tk 5 ?_;refine rd1 6 fun KK hK=>?_
 simp only[xa,xb,xc];obtain⟨c0,c1,c2,c3⟩:=Q5 HX5.out;go_simp;clear c0 c1 c2 c3;have f2:=G5 (x1:=0) (x2:=0) HX5.out;obtain⟨Q1,hY⟩:∃ V,(Q0.setCell ⟨gv+1,0,none⟩ (Iz (0))).setCell ⟨gv+1,1,none⟩ (Iz (0))=V:=⟨_,rfl⟩
 have q8:Out (gv+1) (gv+2) Q0 Q1:=by rw[<-hY];exact(Out.refl _ _ _).set2 Lz _ _
 rw[hY] at f2 ⊢;clear hY;have HX8:=Q3 f2;have cW:=Q3 (q8.heap fC.out (.inr (Nat.le_refl _)));have fH:=Q3 (bL.out.then q8 (by have:=aW.out;omega));clear f2;refine hK.out _ _ (q8.cell aB (.inr (by have h1:=bK.out;omega))) fun aB=>?_
 clear q8 hK KK;refine rd1 7 fun KK hK=>?_
 simp only[xa,xb,xc];obtain⟨c0,c1,c2,c3⟩:=flt_facts cW.out;go_simp;clear c0 c1 c2 c3;have f2:=J3 (x':=21) (y':=(a:Int)) cW.out;obtain⟨Q2,hY⟩:∃ V,(Q1.setCell ⟨gv+2,0,none⟩ (Iz (21))).setCell ⟨gv+2,1,none⟩ (Iz ((a:Int)))=V:=⟨_,rfl⟩
 have q9:Out (gv+2) (gv+3) Q1 Q2:=by rw[<-hY];exact(Out.refl _ _ _).set2 Lz _ _
 rw[hY] at f2 ⊢;clear hY;have fI:=Q3 f2;have HX9:=Q3 (q9.heap HX8.out (.inl (Nat.lt_succ_self _)));have iZ:=Q3 (fH.out.then q9 (by have:=aW.out;omega));clear f2;refine hK.out _ _ (q9.cell aB (.inr (by have h1:=bK.out;omega))) fun aB=>?_
 clear q9 hK KK;refine dn ?_;clear aB;go_wp2;exact bodyPost_ret (J2 Tryz.results73 rfl rfl (U1 HX9.out) (J5 fI.out)) rfl ⟨rfl,iZ.out⟩
theorem x2y (h:RfAt w lo hi s n cw co st) (hR:cq w rb 0=some (Pq (s 0))) (k m i:Int) {b0 b1 b2 b3 b4 a0:Int} (hWd:∀ X,Out 0 0 w X->Kz 66 #[Pq rb,Vz k m,Iz i,.bool false] X fun e w'=>e=.returned (.tuple #[Wz b0 b1 b2 b3 b4,Vz 0 a0])/\Out 0 0 X w') {a:Nat} (mR:b0+i=(a:Int)) (ha:a<64*n) {rg:Bool} (hRt:∀ X,Out 0 0 w X->Kz 68 #[Pq rb,Iz b0,Iz i,Iz (st.W a)] X fun e w'=>e=.returned (.bool rg)/\Out 0 0 X w') (hrg:rg=true) (hv:Q8 (st.W a % 8+1) (st.W a / 8)=true) (w1:-9223372036854775808<=st.W a) (w2:st.W a<=9223372036854775807):Kz 73 #[Pq rb,Vz k m,Iz i] w fun e w'=>e=.returned (.tuple #[Vz (st.W a % 8+1) (st.W a / 8),Vz 0 a0])/\Out 0 0 w w':=by
 have hU:Hid (∀ V,Kz 124 #[Iz (st.W a)] V fun e w'=>e=.returned (.tuple #[Vz (st.W a % 8+1) (st.W a / 8),.bool true])/\Below V.heap.size V w'):=fun V=>by
  have q:=B8 (st.W a) V w1 w2;unfold z0t z0u at q;rw[hv,if_pos rfl,if_pos rfl] at q;exact q
 clear hv w1 w2;subst hrg;have HRt:=Q3 hRt;have Hh:=Q3 h;have HR:=Q3 hR;have kO:IntKind.i64.wrap (a:Int)=(a:Int):=by rw[IntKind.wrap_i64];have:=Hh.out.n2;omega
 have Ha:=Q3 ha;obtain⟨M,hM⟩:∃ M,64*n=M:=⟨_,rfl⟩
 have a1:(a:Int)<(M:Int):=by omega
 have a0':(0:Int)<=(a:Int):=by omega
 have HMn:=Q3 hM;clear hRt h hR ha hM;have fV:=Q3 (J8 (w:=w) (o:=Dz k m 32) (o2:=Dz 0 0 32) (o3:=Dz 0 0 46));have fX:=Q3 (J7 (w:=w) (o:=Dz k m 32) (o2:=Dz 0 0 32) (o3:=Dz 0 0 46));have fF:=Q3 (J9 (w:=w) (o:=Dz k m 32) (o2:=Dz 0 0 32) (o3:=Dz 0 0 46));have aH:=Q3 ((((Out.refl 0 0 w).alloc (Dz k m 32)).alloc (Dz 0 0 32)).alloc (Dz 0 0 46));have jG:=Q3 hWd;obtain⟨gv,aN⟩:∃ g,w.heap.size=g:=⟨_,rfl⟩
 have aW:=Q3 aN;obtain⟨V2,aQ⟩:∃ V,((w.alloc (Dz k m 32)).alloc (Dz 0 0 32)).alloc (Dz 0 0 46)=V:=⟨_,rfl⟩
 rw[aQ,aN] at fV fX fF;rw[aQ] at aH;obtain⟨u0,u1,u2,u3⟩:=Q5 fV.out;clear hWd;go_enter Tryz.func73,Tryz.ntmps73
 go_wp2_with fail;(try rw[aQ]);(try rw[aN]);clear aQ aN;refine(jG.out _ aH.out).mono ?_;rintro e X3 ⟨rfl,q3⟩;clear u0 u1 u2 u3;have dE:=J0 (w:=X3) (o:=Ez b0 b1 b2 b3 b4 81) (o2:=Dz 0 a0 46);have eG:=J4 (w:=X3) (o:=Ez b0 b1 b2 b3 b4 81) (o2:=Dz 0 a0 46);have o4:=(q3.alloc (Ez b0 b1 b2 b3 b4 81)).alloc (Dz 0 a0 46);have iU:=o4.heap fF.out Oz;have jU:=o4.heap fX.out Oz;obtain⟨y0,y1,y2,y3,y4,y5⟩:=K7 dE;obtain⟨z0,z1,z2,z3⟩:=flt_facts eG;have bY:=Q3 (And.intro dE (And.intro eG (And.intro o4 (And.intro iU jU))));have bK:Hid (gv+3<=X3.heap.size):=by have h1:=Q7 fF.out;have h2:=q3.size;exact Nat.le_trans h1 h2
 clear dE eG o4 q3;obtain⟨V4,bV⟩:∃ V,(X3.alloc (Ez b0 b1 b2 b3 b4 81)).alloc (Dz 0 a0 46)=V:=⟨_,rfl⟩
 obtain⟨gb,bD⟩:∃ g,X3.heap.size=g:=⟨_,rfl⟩
 rw[bV,bD] at bY y0 z0 z1;rw[bD] at bK;rw[bV] at iU jU;have dY:=Q3 (Hh.out.quiet (aH.out.trans bY.out.2.2.1));have c1:=dY.out.cells.1;rw[HMn.out] at c1;have c2:=(aH.out.trans bY.out.2.2.1).cell HR.out Oz;have c5:=dY.out.rw.cell (i:=a) Ha.out;clear y1 y2 y3 y4 y5 z1 z2 z3 iU jU;go_wp2_with fail;(try rw[bV]);(try rw[bD]);clear bV bD z0;refine wp_region_held_drew (S:=fun w'=>cq w' rb 0=some (Pq (s 0))/\cq w' (s 0) 0=some (.slice (some ⟨s 1,0,none⟩) M cw)/\cq w' gb 0=some (Iz b0)/\cq w' (s 1) a=some (Iz (st.W a))/\Out 0 0 V4 w') (by kernel_rfl) ?hS133 (fun aB=>?rest133)
 case hS133=>exact⟨c2,c1,y0,c5,(Out.refl 0 0 _).drew⟩
 refine tk 0 ?_;refine tk 1 ?_;refine tk 2 ?_;refine tk 3 ?_;refine tk 4 ?_;refine tk 5 ?_;refine tk 6 ?_;refine tk 7 ?_;refine tk 8 ?_;refine tk 9 ?_;refine tk 10 ?_;refine tk 11 ?_;refine tk 12 ?_;refine tk 13 ?_;refine tk 14 ?_;refine tk 15 ?_;refine tk 16 ?_;refine rd1 17 fun KK hK=>?_
 go_simp;refine(HRt.out _ ((aH.out.trans bY.out.2.2.1).trans aB.2.2.2.2)).mono ?_;rintro e X6 ⟨rfl,q6⟩;refine hK.out _ _ ⟨q6.cell aB.1 Oz,q6.cell aB.2.1 Oz,q6.cell aB.2.2.1 Oz,q6.cell aB.2.2.2.1 Oz,aB.2.2.2.2.trans q6⟩ fun aB=>?_
 clear q6 hK KK;refine tk 18 ?_;refine dn ?_;have cJ:=Q3 ((aH.out.trans bY.out.2.2.1).trans aB.2.2.2.2);have HH6:=Q3 (And.intro (aB.2.2.2.2.heap bY.out.1 Oz) (And.intro (aB.2.2.2.2.heap bY.out.2.1 Oz) (And.intro (aB.2.2.2.2.heap bY.out.2.2.2.2 Oz) (aB.2.2.2.2.heap bY.out.2.2.2.1 Oz))));obtain⟨d1,d2,d3,d4,_⟩:=aB;clear c1 c2 c5 y0 bY;have Hlt:Hid (rb<gb/\s 0<gb/\s 1<gb):=by
  have e1:=bK.out;have e2:=aW.out;have e3:=Y4 HR.out;have e4:=Hh.out.top;have e5:=Hh.out.inn 0 (by omega);have e6:=Hh.out.inn 1 (by omega);exact⟨by omega,by omega,by omega⟩
 go_wp2_with fail;refine wp_region_held_drew (S:=fun w'=>cq w' rb 0=some (Pq (s 0))/\cq w' (s 0) 0=some (.slice (some ⟨s 1,0,none⟩) M cw)/\cq w' gb 0=some (Iz b0)/\cq w' (s 1) a=some (Iz (st.W a))) (by kernel_rfl) ?hS95 (fun aB=>?rest95)
 case hS95=>exact⟨d1,d2,d3,d4⟩
 obtain⟨Q0,hZ⟩:∃ Z,X6.drew=Z:=⟨_,rfl⟩
 have OQ:Out 0 0 X6 Q0:=by rw[<-hZ];exact(Out.refl 0 0 _).drew
 rw[hZ] at aB ⊢;clear hZ;have HX5:=Q3 (OQ.heap HH6.out.2.2.1 Oz);have fC:=Q3 (OQ.heap HH6.out.2.2.2 Oz);have iG:=Q3 (OQ.heap HH6.out.2.1 Oz);have bL:=Q3 (cJ.out.trans OQ);have kM:Hid (gb+2<=Q0.heap.size):=Q7 iG.out;clear OQ d1 d2 d3 d4;refine tk 0 ?_;refine tk 1 ?_;refine tk 2 ?_;refine tk 3 ?_;refine tk 4 ?_;refine tk 5 ?_;refine tk 6 ?_;refine tk 7 ?_;refine tk 8 ?_;refine tk 9 ?_;refine tk 10 ?_;refine tk 11 ?_;refine tk 12 ?_;refine rd2 13 17 (fun KK hK=>?_) fun KK hK=>?_
 ·go_simp;refine(hU.out _).mono ?_;rintro e Y2 ⟨rfl,hb2⟩;have q13:=K8 hb2;clear hb2;have o13:Out 0 0 Q0 Y2:=q13;refine hK.out _ _ ⟨q13.cell aB.1 Oz,q13.cell aB.2.1 Oz,q13.cell aB.2.2.1 Oz,q13.cell aB.2.2.2 Oz⟩ fun aB=>?_
  clear hK KK;refine tk 14 ?_;refine tk 15 ?_;refine tk 16 ?_;refine rd1 17 fun KK hK=>?_
  go_simp;have q17:Out 0 0 Y2 (Y2.alloc (Dz 0 0 32)):=(Out.refl 0 0 Y2).alloc _;have fx0:=heap_alloc_new Y2 (Dz 0 0 32);obtain⟨Y1,hY1⟩:∃ V,Y2.alloc (Dz 0 0 32)=V:=⟨_,rfl⟩
  obtain⟨gx,jI⟩:∃ g,Y2.heap.size=g:=⟨_,rfl⟩
  rw[hY1] at q17 fx0 ⊢;rw[jI] at fx0 ⊢;clear hY1;have iY:=Q3 (show gb+2<=gx from by rw[<-jI];exact Nat.le_trans kM.out o13.size);clear jI;have fx2:=fx0;have o17:Out 0 0 Q0 Y1:=o13.trans q17;refine hK.out _ _ ⟨q17.cell aB.1 Oz,q17.cell aB.2.1 Oz,q17.cell aB.2.2.1 Oz,q17.cell aB.2.2.2 Oz⟩ fun aB=>?_
  clear hK KK;refine rd1 18 fun KK hK=>?_
  simp only[xa,xb,xc];obtain⟨c0,c1,c2,c3⟩:=Q5 fx2;go_simp;clear c0 c1 c2 c3;have fx3:=G5 (x1:=st.W a % 8+1) (x2:=st.W a / 8) fx2;obtain⟨Y3,hY,q18⟩:=s2z Y1 gx (st.W a % 8+1) (st.W a / 8)
  rw[hY] at fx3 ⊢;clear hY;refine hK.out _ _ ⟨q18.cell aB.1 (.inl (by have h1:=Hlt.out.1;have h2:=iY.out;omega)),q18.cell aB.2.1 (.inl (by have h1:=Hlt.out.2.1;have h2:=iY.out;omega)),q18.cell aB.2.2.1 (.inl (by have h2:=iY.out;omega)),q18.cell aB.2.2.2 (.inl (by have h1:=Hlt.out.2.2;have h2:=iY.out;omega))⟩ fun aB=>?_
  clear hK KK;refine tk 19 ?_;refine dn ?_;clear aB;have HO7:=Q3 ((bL.out.trans o17).trans' q18 (by have h1:=iY.out;have h2:=bK.out;have h3:=aW.out;omega));have HX7:=Q3 (q18.heap (o17.heap HX5.out Oz) (.inl (by have h1:=iY.out;have h2:=bK.out;omega)));have HF7:=Q3 (q18.heap (o17.heap fC.out Oz) (.inl (by have h1:=iY.out;have h2:=bK.out;omega)));have fE:=q18.heap (o17.heap iG.out Oz) (.inl (by have h1:=iY.out;omega));obtain⟨g0,g1,_,_⟩:=Q5 fx3;obtain⟨z0,z1,_,_⟩:=flt_facts fE;clear HX5 fC iG bL;go_wp2_with fail;refine wp_region_held_drew (S:=fun w'=>cq w' gx 0=some (Iz (st.W a % 8+1))/\cq w' gx 1=some (Iz (st.W a / 8))/\cq w' (gb+1) 0=some (Iz 0)/\cq w' (gb+1) 1=some (Iz a0)) (by kernel_rfl) ?hS116 (fun aB=>?rest116)
  case hS116=>exact⟨g0,g1,z0,z1⟩
  obtain⟨Q0,hZ⟩:∃ Z,Y3.drew=Z:=⟨_,rfl⟩
  have OQ:Out 0 0 Y3 Q0:=by rw[<-hZ];exact(Out.refl 0 0 _).drew
  rw[hZ] at aB ⊢;clear hZ;have HX5:=Q3 (OQ.heap HX7.out Oz);have fC:=Q3 (OQ.heap HF7.out Oz);have bL:=Q3 (HO7.out.trans OQ);clear OQ;refine tk 0 ?_;refine tk 1 ?_;refine rd1 2 fun KK hK=>?_
  simp only[xa,xb,xc];obtain⟨c0,c1,c2,c3⟩:=Q5 HX5.out;go_simp;clear c0 c1 c2 c3;have f2:=G5 (x1:=st.W a % 8+1) (x2:=st.W a / 8) HX5.out;obtain⟨Q1,hY⟩:∃ V,(Q0.setCell ⟨gv+1,0,none⟩ (Iz (st.W a % 8+1))).setCell ⟨gv+1,1,none⟩ (Iz (st.W a / 8))=V:=⟨_,rfl⟩
  have q8:Out (gv+1) (gv+2) Q0 Q1:=by rw[<-hY];exact(Out.refl _ _ _).set2 Lz _ _
  rw[hY] at f2 ⊢;clear hY;have HX8:=Q3 f2;have cW:=Q3 (q8.heap fC.out (.inr (Nat.le_refl _)));have fH:=Q3 (bL.out.then q8 (by have:=aW.out;omega));clear f2;refine hK.out _ _ ⟨q8.cell aB.1 (.inr (by have h1:=bK.out;have h2:=iY.out;omega)),q8.cell aB.2.1 (.inr (by have h1:=bK.out;have h2:=iY.out;omega)),q8.cell aB.2.2.1 (.inr (by have h1:=bK.out;have h2:=iY.out;omega)),q8.cell aB.2.2.2 (.inr (by have h1:=bK.out;have h2:=iY.out;omega))⟩ fun aB=>?_
  clear q8 hK KK;refine rd1 3 fun KK hK=>?_
  simp only[xa,xb,xc];obtain⟨c0,c1,c2,c3⟩:=flt_facts cW.out;go_simp;clear c0 c1 c2 c3;have f2:=J3 (x':=0) (y':=a0) cW.out;obtain⟨Q2,hY⟩:∃ V,(Q1.setCell ⟨gv+2,0,none⟩ (Iz (0))).setCell ⟨gv+2,1,none⟩ (Iz (a0))=V:=⟨_,rfl⟩
  have q9:Out (gv+2) (gv+3) Q1 Q2:=by rw[<-hY];exact(Out.refl _ _ _).set2 Lz _ _
  rw[hY] at f2 ⊢;clear hY;have fI:=Q3 f2;have HX9:=Q3 (q9.heap HX8.out (.inl (Nat.lt_succ_self _)));have iZ:=Q3 (fH.out.then q9 (by have:=aW.out;omega));clear f2;refine hK.out _ _ ⟨q9.cell aB.1 (.inr (by have h1:=bK.out;have h2:=iY.out;omega)),q9.cell aB.2.1 (.inr (by have h1:=bK.out;have h2:=iY.out;omega)),q9.cell aB.2.2.1 (.inr (by have h1:=bK.out;have h2:=iY.out;omega)),q9.cell aB.2.2.2 (.inr (by have h1:=bK.out;have h2:=iY.out;omega))⟩ fun aB=>?_
  clear q9 hK KK;refine dn ?_;clear aB;go_wp2;exact bodyPost_ret (J2 Tryz.results73 rfl rfl (U1 HX9.out) (J5 fI.out)) rfl ⟨rfl,iZ.out⟩
 ·go_simp;have q17:Out 0 0 Q0 (Q0.alloc (Dz 0 0 32)):=(Out.refl 0 0 Q0).alloc _;have fx0:=heap_alloc_new Q0 (Dz 0 0 32);obtain⟨Y1,hY1⟩:∃ V,Q0.alloc (Dz 0 0 32)=V:=⟨_,rfl⟩
  obtain⟨gx,jI⟩:∃ g,Q0.heap.size=g:=⟨_,rfl⟩
  rw[hY1] at q17 fx0 ⊢;rw[jI] at fx0 ⊢;clear hY1;have iY:=Q3 (show gb+2<=gx from by rw[<-jI];exact Nat.le_trans kM.out (Nat.le_refl _));clear jI;have fx1:=fx0;have o16:Out 0 0 Q0 Y1:=q17;refine hK.out _ _ ⟨q17.cell aB.1 Oz,q17.cell aB.2.1 Oz,q17.cell aB.2.2.1 Oz,q17.cell aB.2.2.2 Oz⟩ fun aB=>?_
  clear hK KK;refine rd1 13 fun KK hK=>?_
  go_simp;refine(hU.out _).mono ?_;rintro e Y2 ⟨rfl,hb2⟩;have q13:=K8 hb2;clear hb2;have fx2:=q13.heap fx1 Oz;have o17:Out 0 0 Q0 Y2:=o16.trans q13;refine hK.out _ _ ⟨q13.cell aB.1 Oz,q13.cell aB.2.1 Oz,q13.cell aB.2.2.1 Oz,q13.cell aB.2.2.2 Oz⟩ fun aB=>?_
  clear hK KK;refine tk 14 ?_;refine tk 15 ?_;refine tk 16 ?_;refine rd1 18 fun KK hK=>?_
  simp only[xa,xb,xc];obtain⟨c0,c1,c2,c3⟩:=Q5 fx2;go_simp;clear c0 c1 c2 c3;have fx3:=G5 (x1:=st.W a % 8+1) (x2:=st.W a / 8) fx2;obtain⟨Y3,hY,q18⟩:=s2z Y2 gx (st.W a % 8+1) (st.W a / 8)
  rw[hY] at fx3 ⊢;clear hY;refine hK.out _ _ ⟨q18.cell aB.1 (.inl (by have h1:=Hlt.out.1;have h2:=iY.out;omega)),q18.cell aB.2.1 (.inl (by have h1:=Hlt.out.2.1;have h2:=iY.out;omega)),q18.cell aB.2.2.1 (.inl (by have h2:=iY.out;omega)),q18.cell aB.2.2.2 (.inl (by have h1:=Hlt.out.2.2;have h2:=iY.out;omega))⟩ fun aB=>?_
  clear hK KK;refine tk 19 ?_;refine dn ?_;clear aB;have HO7:=Q3 ((bL.out.trans o17).trans' q18 (by have h1:=iY.out;have h2:=bK.out;have h3:=aW.out;omega));have HX7:=Q3 (q18.heap (o17.heap HX5.out Oz) (.inl (by have h1:=iY.out;have h2:=bK.out;omega)));have HF7:=Q3 (q18.heap (o17.heap fC.out Oz) (.inl (by have h1:=iY.out;have h2:=bK.out;omega)));have fE:=q18.heap (o17.heap iG.out Oz) (.inl (by have h1:=iY.out;omega));obtain⟨g0,g1,_,_⟩:=Q5 fx3;obtain⟨z0,z1,_,_⟩:=flt_facts fE;clear HX5 fC iG bL;go_wp2_with fail;refine wp_region_held_drew (S:=fun w'=>cq w' gx 0=some (Iz (st.W a % 8+1))/\cq w' gx 1=some (Iz (st.W a / 8))/\cq w' (gb+1) 0=some (Iz 0)/\cq w' (gb+1) 1=some (Iz a0)) (by kernel_rfl) ?hS128 (fun aB=>?rest128)
  case hS128=>exact⟨g0,g1,z0,z1⟩
  obtain⟨Q0,hZ⟩:∃ Z,Y3.drew=Z:=⟨_,rfl⟩
  have OQ:Out 0 0 Y3 Q0:=by rw[<-hZ];exact(Out.refl 0 0 _).drew
  rw[hZ] at aB ⊢;clear hZ;have HX5:=Q3 (OQ.heap HX7.out Oz);have fC:=Q3 (OQ.heap HF7.out Oz);have bL:=Q3 (HO7.out.trans OQ);clear OQ;refine tk 0 ?_;refine tk 1 ?_;refine rd1 2 fun KK hK=>?_
  simp only[xa,xb,xc];obtain⟨c0,c1,c2,c3⟩:=Q5 HX5.out;go_simp;clear c0 c1 c2 c3;have f2:=G5 (x1:=st.W a % 8+1) (x2:=st.W a / 8) HX5.out;obtain⟨Q1,hY⟩:∃ V,(Q0.setCell ⟨gv+1,0,none⟩ (Iz (st.W a % 8+1))).setCell ⟨gv+1,1,none⟩ (Iz (st.W a / 8))=V:=⟨_,rfl⟩
  have q8:Out (gv+1) (gv+2) Q0 Q1:=by rw[<-hY];exact(Out.refl _ _ _).set2 Lz _ _
  rw[hY] at f2 ⊢;clear hY;have HX8:=Q3 f2;have cW:=Q3 (q8.heap fC.out (.inr (Nat.le_refl _)));have fH:=Q3 (bL.out.then q8 (by have:=aW.out;omega));clear f2;refine hK.out _ _ ⟨q8.cell aB.1 (.inr (by have h1:=bK.out;have h2:=iY.out;omega)),q8.cell aB.2.1 (.inr (by have h1:=bK.out;have h2:=iY.out;omega)),q8.cell aB.2.2.1 (.inr (by have h1:=bK.out;have h2:=iY.out;omega)),q8.cell aB.2.2.2 (.inr (by have h1:=bK.out;have h2:=iY.out;omega))⟩ fun aB=>?_
  clear q8 hK KK;refine rd1 3 fun KK hK=>?_
  simp only[xa,xb,xc];obtain⟨c0,c1,c2,c3⟩:=flt_facts cW.out;go_simp;clear c0 c1 c2 c3;have f2:=J3 (x':=0) (y':=a0) cW.out;obtain⟨Q2,hY⟩:∃ V,(Q1.setCell ⟨gv+2,0,none⟩ (Iz (0))).setCell ⟨gv+2,1,none⟩ (Iz (a0))=V:=⟨_,rfl⟩
  have q9:Out (gv+2) (gv+3) Q1 Q2:=by rw[<-hY];exact(Out.refl _ _ _).set2 Lz _ _
  rw[hY] at f2 ⊢;clear hY;have fI:=Q3 f2;have HX9:=Q3 (q9.heap HX8.out (.inl (Nat.lt_succ_self _)));have iZ:=Q3 (fH.out.then q9 (by have:=aW.out;omega));clear f2;refine hK.out _ _ ⟨q9.cell aB.1 (.inr (by have h1:=bK.out;have h2:=iY.out;omega)),q9.cell aB.2.1 (.inr (by have h1:=bK.out;have h2:=iY.out;omega)),q9.cell aB.2.2.1 (.inr (by have h1:=bK.out;have h2:=iY.out;omega)),q9.cell aB.2.2.2 (.inr (by have h1:=bK.out;have h2:=iY.out;omega))⟩ fun aB=>?_
  clear q9 hK KK;refine dn ?_;clear aB;go_wp2;exact bodyPost_ret (J2 Tryz.results73 rfl rfl (U1 HX9.out) (J5 fI.out)) rfl ⟨rfl,iZ.out⟩
end
def WIn (n:Nat) (st:Sp):Prop:=∀ a,a<64*n->-9223372036854775808<=st.W a/\st.W a<=9223372036854775807
theorem x0j {n a:Nat} {W:Nat->Int} {p:Int} (hp:p=(a:Int)) (ha:a<64*n):z2u n W p=W a:=by
 subst hp;unfold z2u;rw[if_pos (by unfold inB;simp;omega)];simp
section
variable {w:World} {lo hi rb cw co n:Nat} {s:Nat->Nat} {st:Sp}
theorem j8o (h:RfAt w lo hi s n cw co st) (hI:Inv n st) (hW:WIn n st) (hR:w.cell? ⟨rb,0,none⟩=some (.pointer (some ⟨s 0,0,none⟩))) (k m i:Int) {y1 y2 y3 y4:Int} (hq:geQ n st k m i=(y1,y2,y3,y4)):Calls Tryz.prog 73 #[.pointer (some ⟨rb,0,none⟩),.agg #[.int .i64 k,.int .i64 m],.int .i64 i] w fun e w'=>e=.returned (.tuple #[.agg #[.int .i64 y1,.int .i64 y2],.agg #[.int .i64 y3,.int .i64 y4]])/\Out 0 0 w w':=by
 have hc:=fun X (o:Out 0 0 w X)=>o.cell hR z0
 unfold geQ at hq;by_cases ho:opE (Q6 n st) k m ≠ 0
 ·rw[if_pos ho] at hq;cases hq;exact q0i k m i (fun X o=>q1s (h.quiet o) hI (hc X o) k m i false ho) ho
 ·rw[if_neg ho] at hq;have dZ:opE (Q6 n st) k m=0:=by omega
  obtain⟨hk,b,hM,_,_⟩:=z3e dZ;rw[hM] at hq;obtain⟨t1,t2,t3,t4⟩:=b;dsimp only at hq;have nO:=G6 hI m _ hM;dsimp only at nO;cases hf:F8 (J6 t1 t2 i)
  ·rw[hf,if_pos rfl] at hq;cases hq;refine q0i k m i (fun X o=>z8t (h.quiet o) hI (hc X o) k m i false hM dZ ?_) (by decide);unfold F8 at hf;simp at hf;by_cases c:J6 t1 t2 i=0
   ·exact .inl c
   ·exact .inr (.inr ⟨rfl,hf c⟩)
  ·rw[hf,if_neg (by simp)] at hq;have hw:=fun X (o:Out 0 0 w X)=>z6i (h.quiet o) hI (hc X o) k m i false hM dZ (.inr ⟨rfl,hf⟩)
   have bQ:=z3n hf;obtain⟨a,ha⟩:∃ a:Nat,m+i=(a:Int):=⟨(m+i).toNat,by omega⟩
   have ha2:a<64*n:=by omega
   rw[x0j ha ha2] at hq;have hwa:=hW a ha2;have hrt:∀ X,Out 0 0 w X->Calls Tryz.prog 68 #[.pointer (some ⟨rb,0,none⟩),.int .i64 m,.int .i64 i,.int .i64 (st.W a)] X fun e w'=>e=.returned (.bool (rgB (Q6 n st) m (t1,t2,t3,t4) (J6 t1 t2 i) (st.W a)))/\Out 0 0 X w':=fun X o=>by
    have q:=q0j (h.quiet o) hI (hc X o) m i (st.W a) hwa.1 hwa.2;unfold j0c at q;rw[hM] at q;exact q
   cases hg:rgB (Q6 n st) m (t1,t2,t3,t4) (J6 t1 t2 i) (st.W a)
   ·rw[hg,if_pos rfl] at hq;cases hq;rw[ha];exact j0y h hR k m i hw ha ha2 hrt hg
   ·rw[hg,if_neg (by simp)] at hq;cases hq;exact x2y h hR k m i hw ha ha2 hrt hg (j0b hf hg) hwa.1 hwa.2
end
end Go.Proofs.YtjgnogflgoihfaaGreatDoor
