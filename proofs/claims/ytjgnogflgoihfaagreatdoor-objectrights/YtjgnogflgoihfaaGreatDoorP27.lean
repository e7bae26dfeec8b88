import Derived.Test.YtjgnogflgoihfaaGreatDoorP26
namespace Go.Proofs.YtjgnogflgoihfaaGreatDoor
open Go.RowKit
set_option linter.unusedVariables false
set_option maxRecDepth 100000
set_option maxHeartbeats 16000000
set_option linter.unusedSimpArgs false
section
variable {w:World} {lo hi rb cw co n:Nat} {s:Nat->Nat} {st:Sp}
theorem j0b (h:RfAt w lo hi s n cw co st) (hI:Inv n st) (hR:w.cell? ⟨rb,0,none⟩=some (.pointer (some ⟨s 0,0,none⟩))) (k m:Int) (ho:opE (J0 n st) k m ≠ 0):Calls Tryz.prog 72 #[.pointer (some ⟨rb,0,none⟩),.agg #[.int .i64 k,.int .i64 m]] w fun e w'=>e=.returned (.tuple #[.agg #[.int .i64 0,.int .i64 0,.int .i64 0,.int .i64 0,.int .i64 0],.agg #[.int .i64 (opE (J0 n st) k m),.int .i64 (opA (J0 n st) k m)]])/\Out 0 0 w w':=by
 unfold opE opA at *;cases hM:(J0 n st).M m with
 | none=>
  rw[if_neg (by simp),if_neg (by simp)];exact j1y h hI hR k m hM
 | some b=>
  obtain⟨t1,t2,t3,t4⟩:=b;by_cases hk:k=2
  ·rw[hM] at ho;rw[if_pos ⟨hk,by simp⟩] at ho ⊢;rw[if_pos ⟨hk,by simp⟩];exact q7j h hI hR k m hM hk rfl rfl ho
  ·rw[if_neg (fun c=>hk c.1),if_neg (fun c=>hk c.1)];exact j1x h hI hR k m hM hk
theorem z9n (h:RfAt w lo hi s n cw co st) (hI:Inv n st) (hR:w.cell? ⟨rb,0,none⟩=some (.pointer (some ⟨s 0,0,none⟩))) (k m:Int) {t1 t2 t3 t4:Int} (hM:(J0 n st).M m=some (t1,t2,t3,t4)) (ho:opE (J0 n st) k m=0):Calls Tryz.prog 72 #[.pointer (some ⟨rb,0,none⟩),.agg #[.int .i64 k,.int .i64 m]] w fun e w'=>e=.returned (.tuple #[.agg #[.int .i64 m,.int .i64 t1,.int .i64 t2,.int .i64 t3,.int .i64 t4],.agg #[.int .i64 0,.int .i64 0]])/\Out 0 0 w w':=by
 obtain⟨hk,b,_,h1,h2⟩:=z3o ho;exact j9j h hI hR k m hM hk h1 h2
theorem q2p (h:RfAt w lo hi s n cw co st) (hI:Inv n st) (hR:w.cell? ⟨rb,0,none⟩=some (.pointer (some ⟨s 0,0,none⟩))) (k m i:Int) (raw:Bool) (ho:opE (J0 n st) k m ≠ 0):Calls Tryz.prog 66 #[.pointer (some ⟨rb,0,none⟩),.agg #[.int .i64 k,.int .i64 m],.int .i64 i,.bool raw] w fun e w'=>e=.returned (.tuple #[.agg #[.int .i64 0,.int .i64 0,.int .i64 0,.int .i64 0,.int .i64 0],.agg #[.int .i64 (opE (J0 n st) k m),.int .i64 (opA (J0 n st) k m)]])/\Out 0 0 w w':=
 q7r hR k m i raw (fun X o=>j0b (h.quiet o) hI (o.cell hR z0) k m ho) ho
theorem z9p (h:RfAt w lo hi s n cw co st) (hI:Inv n st) (hR:w.cell? ⟨rb,0,none⟩=some (.pointer (some ⟨s 0,0,none⟩))) (k m i:Int) (raw:Bool) {t1 t2 t3 t4:Int} (hM:(J0 n st).M m=some (t1,t2,t3,t4)) (ho:opE (J0 n st) k m=0) (hb:J9 t1 t2 i=0\/(raw=true/\J9 t1 t2 i ≠ 1)\/(raw=false/\J9 t1 t2 i=1)):Calls Tryz.prog 66 #[.pointer (some ⟨rb,0,none⟩),.agg #[.int .i64 k,.int .i64 m],.int .i64 i,.bool raw] w fun e w'=>e=.returned (.tuple #[.agg #[.int .i64 m,.int .i64 t1,.int .i64 t2,.int .i64 t3,.int .i64 t4],.agg #[.int .i64 32,.int .i64 0]])/\Out 0 0 w w':=by
 have pS:=H7 hI m _ hM;dsimp only at pS;refine q7s hR k m i raw (fun X o=>z9n (h.quiet o) hI (o.cell hR z0) k m hM ho) (by omega) (by omega) rfl ?_;by_cases c:J9 t1 t2 i=0
 ·left;rw[c];rfl
 ·right
  refine⟨by simpa using c,?_⟩;rcases hb with hb | ⟨h1,h2⟩ | ⟨h1,h2⟩
  ·exact absurd hb c
  ·left;exact⟨h1,by simpa using h2⟩
  ·right;exact⟨h1,by rw[h2];rfl⟩
theorem z6y (h:RfAt w lo hi s n cw co st) (hI:Inv n st) (hR:w.cell? ⟨rb,0,none⟩=some (.pointer (some ⟨s 0,0,none⟩))) (k m i:Int) (raw:Bool) {t1 t2 t3 t4:Int} (hM:(J0 n st).M m=some (t1,t2,t3,t4)) (ho:opE (J0 n st) k m=0) (hb:(raw=true/\J9 t1 t2 i=1)\/(raw=false/\G3 (J9 t1 t2 i)=true)):Calls Tryz.prog 66 #[.pointer (some ⟨rb,0,none⟩),.agg #[.int .i64 k,.int .i64 m],.int .i64 i,.bool raw] w fun e w'=>e=.returned (.tuple #[.agg #[.int .i64 m,.int .i64 t1,.int .i64 t2,.int .i64 t3,.int .i64 t4],.agg #[.int .i64 0,.int .i64 0]])/\Out 0 0 w w':=by
 have pS:=H7 hI m _ hM;dsimp only at pS;refine j9p hR k m i raw (fun X o=>z9n (h.quiet o) hI (o.cell hR z0) k m hM ho) (by omega) (by omega) rfl ?_ ?_
 ·rcases hb with ⟨_,h2⟩ | ⟨_,h2⟩
  ·rw[h2];rfl
  ·unfold G3 at h2;simp at h2 ⊢;exact h2.1
 ·rcases hb with ⟨h1,h2⟩ | ⟨h1,h2⟩
  ·left;exact⟨h1,by rw[h2];rfl⟩
  ·right;unfold G3 at h2;simp at h2;exact⟨h1,by simpa using h2.2⟩
theorem j0w {n a:Nat} {W:Nat->Int} {p v:Int} (hp:p=(a:Int)) (ha:a<64*n):F8 n W p v=z3a W a v:=by
 subst hp;funext i
 unfold z3a;by_cases e:i=a
 ·subst e;rw[if_pos rfl];exact q3j ha
 ·rw[if_neg e];exact z5g (by omega)
theorem q2o (h:RfAt w lo hi s n cw co st) (hI:Inv n st) (hR:w.cell? ⟨rb,0,none⟩=some (.pointer (some ⟨s 0,0,none⟩))) (hro:rb<lo\/hi<=rb) (k m i xk xn:Int) {e0 a0:Int} {st':Sp} (hq:seQ n st k m i xk xn=(e0,a0,st')):Calls Tryz.prog 25 #[.pointer (some ⟨rb,0,none⟩),.agg #[.int .i64 k,.int .i64 m],.int .i64 i,.agg #[.int .i64 xk,.int .i64 xn]] w fun e w'=>e=.returned (.agg #[.int .i64 e0,.int .i64 a0])/\RfAt w' lo hi s n cw co st'/\Out lo hi w w':=by
 have hc:=fun X (o:Out 0 0 w X)=>o.cell hR z0
 unfold seQ at hq;by_cases ho:opE (J0 n st) k m ≠ 0
 ·rw[if_pos ho] at hq;cases hq;exact(q1h k m i xk xn (fun X o=>q2p (h.quiet o) hI (hc X o) k m i false ho) ho).mono fun e w' ⟨e1,e2⟩=>⟨e1,h.quiet e2,e2.any lo hi⟩
 ·rw[if_neg ho] at hq;have eK:opE (J0 n st) k m=0:=by omega
  obtain⟨hk,b,hM,_,_⟩:=z3o eK;rw[hM] at hq;obtain⟨t1,t2,t3,t4⟩:=b;dsimp only at hq;have pS:=H7 hI m _ hM;dsimp only at pS;cases hf:G3 (J9 t1 t2 i)
  ·rw[hf,if_pos rfl] at hq;cases hq;refine(q1h k m i xk xn (fun X o=>z9p (h.quiet o) hI (hc X o) k m i false hM eK ?_) (by decide)).mono fun e w' ⟨e1,e2⟩=>⟨e1,h.quiet e2,e2.any lo hi⟩
   unfold G3 at hf;simp at hf;by_cases c:J9 t1 t2 i=0
   ·exact .inl c
   ·exact .inr (.inr ⟨rfl,hf c⟩)
  ·rw[hf,if_neg (by simp)] at hq;have hw:=fun X (o:Out 0 0 w X)=>z6y (h.quiet o) hI (hc X o) k m i false hM eK (.inr ⟨rfl,hf⟩)
   cases hx:J2 xk xn
   ·rw[hx,if_pos rfl] at hq;cases hq;exact(q4l k m i xk xn hw hx).mono fun e w' ⟨e1,e2⟩=>⟨e1,h.quiet e2,e2.any lo hi⟩
   ·rw[hx,if_neg (by simp)] at hq;have hwv:z0j xk xn=xn*8+(xk-1):=by unfold z0j;rw[if_pos hx]
    have hvr:=z3y hx;have hrt:∀ X,Out 0 0 w X->Calls Tryz.prog 68 #[.pointer (some ⟨rb,0,none⟩),.int .i64 m,.int .i64 i,.int .i64 (xn*8+(xk-1))] X fun e w'=>e=.returned (.bool (rgB (J0 n st) m (t1,t2,t3,t4) (J9 t1 t2 i) (xn*8+(xk-1))))/\Out 0 0 X w':=fun X o=>by
     have q:=z5d (h.quiet o) hI (hc X o) m i (xn*8+(xk-1)) (by omega) (by omega);unfold z8c at q;rw[hM] at q;exact q
    cases hg:rgB (J0 n st) m (t1,t2,t3,t4) (J9 t1 t2 i) (xn*8+(xk-1))
    ·rw[hg,if_pos rfl] at hq;cases hq;exact(j2c k m i xk xn hw hx hwv hrt hg).mono fun e w' ⟨e1,e2⟩=>⟨e1,h.quiet e2,e2.any lo hi⟩
    ·rw[hg,if_neg (by simp)] at hq;cases hq;have bV:=z3w hf;obtain⟨a,ha⟩:∃ a:Nat,m+i=(a:Int):=⟨(m+i).toNat,by omega⟩
     rw[j0w ha (by omega)];exact x3m h hR hro k m i xk xn hw hx hwv hrt hg ha (by omega)
theorem z5n (h:RfAt w lo hi s n cw co st) (hI:Inv n st) (hR:w.cell? ⟨rb,0,none⟩=some (.pointer (some ⟨s 0,0,none⟩))) (hro:rb<lo\/hi<=rb) (k m i x:Int) {e0 a0:Int} {st':Sp} (hq:srQ n st k m i x=(e0,a0,st')):Calls Tryz.prog 27 #[.pointer (some ⟨rb,0,none⟩),.agg #[.int .i64 k,.int .i64 m],.int .i64 i,.int .i64 x] w fun e w'=>e=.returned (.agg #[.int .i64 e0,.int .i64 a0])/\RfAt w' lo hi s n cw co st'/\Out lo hi w w':=by
 have hc:=fun X (o:Out 0 0 w X)=>o.cell hR z0
 unfold srQ at hq;by_cases ho:opE (J0 n st) k m ≠ 0
 ·rw[if_pos ho] at hq;cases hq;exact(z5y k m i x (fun X o=>q2p (h.quiet o) hI (hc X o) k m i true ho) ho).mono fun e w' ⟨e1,e2⟩=>⟨e1,h.quiet e2,e2.any lo hi⟩
 ·rw[if_neg ho] at hq;have eK:opE (J0 n st) k m=0:=by omega
  obtain⟨hk,b,hM,_,_⟩:=z3o eK;rw[hM] at hq;obtain⟨t1,t2,t3,t4⟩:=b;dsimp only at hq;have pS:=H7 hI m _ hM;dsimp only at pS;by_cases hf:J9 t1 t2 i=1
  ·rw[if_pos hf] at hq;cases hq;have bV:1<=i/\i<t2:=by
    unfold J9 at hf;by_cases c:F4 t1 t2=true/\1<=i/\i<t2
    ·exact c.2
    ·rw[if_neg c] at hf;exact absurd hf (by decide)
   obtain⟨a,ha⟩:∃ a:Nat,m+i=(a:Int):=⟨(m+i).toNat,by omega⟩
   rw[j0w ha (by omega)];exact j2b h hR hro k m i x (fun X o=>z6y (h.quiet o) hI (hc X o) k m i true hM eK (.inl ⟨rfl,hf⟩)) ha (by omega)
  ·rw[if_neg hf] at hq;cases hq;exact(z5y k m i x (fun X o=>z9p (h.quiet o) hI (hc X o) k m i true hM eK (.inr (.inl ⟨rfl,hf⟩))) (by decide)).mono fun e w' ⟨e1,e2⟩=>⟨e1,h.quiet e2,e2.any lo hi⟩
end
theorem z5h {k nn:Int} (h:U9 k nn=true):-9223372036854775808<=U2 k nn/\U2 k nn<=9223372036854775807:=by
 unfold U2;rw[if_pos h];unfold U9 at h;simp only[Bool.and_eq_true,decide_eq_true_eq] at h;obtain⟨⟨⟨h1,h2⟩,h3⟩,h4⟩:=h;obtain⟨j,rfl,j1,j2⟩:=z3d h1;rcases q2x j1 j2 with rfl | rfl | rfl | rfl | rfl | rfl | rfl | rfl | rfl | rfl | rfl | rfl | rfl <;> (unfold z3p;simp[wd,mo] at *;omega)
theorem j8w {n:Nat} {st:Sp} {k z t:Int} (h:(alF n st k z t).2.1=0):F4 k z=true/\∃ a aV,z0t n st z=some (a,aV)/\alF n st k z t=((a:Int),0,0,G4 n st a aV k z t):=by
 unfold alF at h ⊢;cases hf:F4 k z
 ·rw[hf,if_neg (by simp)] at h;exact absurd (show (24:Int)=0 from h) (by decide)
 ·rw[hf,if_pos rfl] at h;rw[if_pos rfl];refine⟨rfl,?_⟩;cases hp:z0t n st z with
  | none=>rw[hp] at h;exact absurd (show (20:Int)=0 from h) (by decide)
  | some q=>
   obtain⟨a,aV⟩:=q;rw[hp] at h;dsimp only at h ⊢;split at h
   ·exact absurd (show (21:Int)=0 from h) (by decide)
   ·rename_i c
    rw[if_neg c];exact⟨a,aV,rfl,rfl⟩
def maQ (n:Nat) (st:Sp) (k nn t:Int):(Int × Int) × (Int × Int) × Sp:=
 if k=4\/U9 k nn=false then ((0,0),(24,0),st) else
 if (alF n st k (U2 k nn) t).2.1=0 then ((2,(alF n st k (U2 k nn) t).1),(0,0),z1y (alF n st k (U2 k nn) t).2.2.2 (mkF n (alF n st k (U2 k nn) t).1 k (U2 k nn) (alF n st k (U2 k nn) t).2.2.2.W (z0l k (U2 k nn))))
 else ((0,0),((alF n st k (U2 k nn) t).2.1,(alF n st k (U2 k nn) t).2.2.1),(alF n st k (U2 k nn) t).2.2.2)
theorem j1e {n a:Nat} {st:Sp} {aV:Bool} {k z t:Int} (hf:F4 k z=true):(J0 n (G4 n st a aV k z t)).M (a:Int)=some (k,z,Y6 st k,t):=by
 have hO:(G4 n st a aV k z t).O a=(k,z,Y6 st k,t):=j6z;have hk:Y9 (k,z,Y6 st k,t)=true:=by
  have:=(U7 hf).1;unfold Y9;simp;omega
 rw[x2x (by rw[hO];exact hk),hO]
theorem z9z {w:World} {lo hi hb n cap:Nat} {s:Nat->Nat} {st:Sp} (h:SpAt w lo hi s n cap st) (hH:w.cell? ⟨hb,0,none⟩=some (.pointer (some ⟨s 14,0,none⟩))) (hout:hb<lo\/hi<=hb) (hl:st.last<4611686018427387904) (k nn t:Int) {v1 v2 e0 a0:Int} {st':Sp} (hq:maQ n st k nn t=((v1,v2),(e0,a0),st')):Calls Tryz.prog 16 #[.pointer (some ⟨hb,0,none⟩),.int .i64 k,.int .i64 nn,.int .i64 t] w fun e w'=>e=.returned (.tuple #[.agg #[.int .i64 v1,.int .i64 v2],.agg #[.int .i64 e0,.int .i64 a0]])/\SpAt w' lo hi s n cap st'/\Out lo hi w w':=by
 unfold maQ at hq;by_cases eS:k=4\/U9 k nn=false
 ·rw[if_pos eS] at hq;cases hq;by_cases hk:k=4
  ·exact(j3s h hH hout k nn t hk).mono fun e w' ⟨e1,e2⟩=>⟨e1,h.quiet e2,e2.any lo hi⟩
  ·exact(j3r h hH hout k nn t hk (eS.resolve_left hk)).mono fun e w' ⟨e1,e2⟩=>⟨e1,h.quiet e2,e2.any lo hi⟩
 ·rw[if_neg eS] at hq;have hk:k ≠ 4:=fun e=>eS (.inl e)
  have hz:U9 k nn=true:=by
   cases c:U9 k nn
   ·exact absurd (.inr c) eS
   ·rfl
  have qL:=z5h hz;by_cases he:(alF n st k (U2 k nn) t).2.1=0
  ·rw[if_pos he] at hq;obtain⟨hf,a,aV,_,iP⟩:=j8w he;cases hq;have ha:(alF n st k (U2 k nn) t).1=(a:Int):=by rw[iP]
   have hS:(alF n st k (U2 k nn) t).2.2.2=G4 n st a aV k (U2 k nn) t:=by rw[iP]
   have hfa:(alF n st k (U2 k nn) t).2.2.1=0:=by rw[iP]
   have q:=j3q h hH hout k nn t hk hz rfl qL.1 qL.2 hl ha he hfa (by rw[hS];exact j1e hf);rw[<-ha] at q;exact q
  ·rw[if_neg he] at hq;cases hq;exact j3p h hH hout k nn t hk hz rfl qL.1 qL.2 hl rfl rfl rfl he
theorem z9m {w:World} {lo hi rb cw co n:Nat} {s:Nat->Nat} {st:Sp} (h:RfAt w lo hi s n cw co st) (hI:Inv n st) (hI2:∀ k z t,Inv n (alF n st k z t).2.2.2) (hR:w.cell? ⟨rb,0,none⟩=some (.pointer (some ⟨s 0,0,none⟩))) (hro:rb<lo\/hi<=rb) (hl:st.last<4611686018427387904) (k nn t:Int) {v1 v2 e0 a0:Int} {st':Sp} (hq:maQ n st k nn t=((v1,v2),(e0,a0),st')):Calls Tryz.prog 22 #[.pointer (some ⟨rb,0,none⟩),.int .i64 k,.int .i64 nn,.int .i64 t] w fun e w'=>e=.returned (.tuple #[.agg #[.int .i64 v1,.int .i64 v2],.agg #[.int .i64 e0,.int .i64 a0]])/\RfAt w' lo hi s n cw co st'/\Out lo hi w w':=by
 unfold maQ at hq;by_cases eS:k=4\/U9 k nn=false
 ·rw[if_pos eS] at hq;cases hq;have hbad:k=4\/(k ≠ 4/\U9 k nn=false):=by
   by_cases hk:k=4
   ·exact .inl hk
   ·exact .inr ⟨hk,eS.resolve_left hk⟩
  exact(q7i k nn t hbad).mono fun e w' ⟨e1,e2⟩=>⟨e1,h.quiet e2,e2.any lo hi⟩
 ·rw[if_neg eS] at hq;have hk:k ≠ 4:=fun e=>eS (.inl e)
  have hz:U9 k nn=true:=by
   cases c:U9 k nn
   ·exact absurd (.inr c) eS
   ·rfl
  have qL:=z5h hz;by_cases he:(alF n st k (U2 k nn) t).2.1=0
  ·rw[if_pos he] at hq;obtain⟨hf,a,aV,_,iP⟩:=j8w he;cases hq;have ha:(alF n st k (U2 k nn) t).1=(a:Int):=by rw[iP]
   have hS:(alF n st k (U2 k nn) t).2.2.2=G4 n st a aV k (U2 k nn) t:=by rw[iP]
   have hfa:(alF n st k (U2 k nn) t).2.2.1=0:=by rw[iP]
   have pS:=H7 (hI2 k (U2 k nn) t) a _ (by rw[hS];exact j1e hf);dsimp only at pS;have q:=j9h h hI hR hro k nn t hk hz rfl qL.1 qL.2 hl ha he hfa ⟨pS.2.2.1,pS.2.2.2,pS.2.1⟩;rw[x6f hf pS.2.1] at q;rw[<-ha] at q;exact q
  ·rw[if_neg he] at hq;cases hq;exact j1w h hI hR hro k nn t hk hz rfl qL.1 qL.2 hl rfl rfl rfl he
section
variable {w:World} {lo hi hb:Nat} {s:Nat->Nat} {n cap:Nat} {st:Sp}
theorem q2d (h:SpAt w lo hi s n cap st) (hH:cq w hb 0=some (Pq (s 14))) (hout:hb<lo\/hi<=hb) {p:Option Addr} {bl:Nat} {cb:Nat} (hz:U9 4 bl=false):Kz 64 #[Pq hb,.slice p bl cb] w fun e w'=>e=.returned (.tuple #[Vz 0 0,Vz 24 0])/\Out 0 0 w w':=by
 have pM:∀ (fn:Fn) (first cap:Array Value) (w:World),(Instr.makeFunc fn first cap).run Tryz.prog w=.ok (.func fn first cap) w:=fun _ _ _ _=>rfl
 have Hh:=Q3 h;have fR:=Q3 (J3 (w:=w) (o:=Dz 0 0 32) (o2:=Dz 0 0 46));have fF:=Q3 (J7 (w:=w) (o:=Dz 0 0 32) (o2:=Dz 0 0 46));have HO:=Q3 (((Out.refl 0 0 w).alloc (Dz 0 0 32)).alloc (Dz 0 0 46));obtain⟨gv,aR⟩:∃ g,w.heap.size=g:=⟨_,rfl⟩
 have bD:=Q3 aR;obtain⟨V1,gX⟩:∃ V,(w.alloc (Dz 0 0 32)).alloc (Dz 0 0 46)=V:=⟨_,rfl⟩
 rw[gX,aR] at fR fF;rw[gX] at HO;have mF:=HO.out.cell hH z0;have HH1:=Q3 mF;have fK:=Q3 hout;clear h hH hout;have HTk:=Q3 (q6o (Hh.out.quiet HO.out) mF fK.out 4 bl 0 hz);clear hz;go_enter_defers Tryz.func64,Tryz.ntmps64
 go_wp2_with fail;(try rw[gX]);(try rw[aR]);clear gX aR;refine(U3 _ _).mono ?_;rintro e w5 ⟨rfl,he⟩;rw[he];clear he w5;go_wp2_with fail;refine HTk.out.mono ?_;rintro e X3 ⟨rfl,q3⟩;simp;refine leaves_cons (f:=120) (args:=#[.pointer (some ⟨gv+1,0,none⟩)]) (by simp) (by simp[go_sem]) ?_;refine(z2q (q3.heap fF.out z0)).mono ?_;rintro e u' w9 ⟨rfl,rfl,f9,q9⟩;exact U0 (J4 Tryz.results64 rfl rfl (U5 (q9.heap (q3.heap fR.out z0) (.inl (Nat.lt_succ_self _)))) (J8 f9)) ⟨rfl,(HO.out.trans q3).trans' q9 (by have:=bD.out;omega)⟩
theorem q2c (h:SpAt w lo hi s n cap st) (hH:cq w hb 0=some (Pq (s 14))) (hout:hb<lo\/hi<=hb) {p:Option Addr} {bl:Nat} {cb:Nat} {z a ec fa:Int} (hz:U9 4 bl=true) (hzv:U2 4 bl=z) (z1:-9223372036854775808<=z) (z2:z<=9223372036854775807) (hl:st.last<4611686018427387904) (ha:(alF n st 4 z 0).1=a) (he:(alF n st 4 z 0).2.1=ec) (hf:(alF n st 4 z 0).2.2.1=fa) (iF:ec ≠ 0):Kz 64 #[Pq hb,.slice p bl cb] w fun e w'=>e=.returned (.tuple #[Vz 0 0,Vz ec fa])/\SpAt w' lo hi s n cap (alF n st 4 z 0).2.2.2/\Out lo hi w w':=by
 have pM:∀ (fn:Fn) (first cap:Array Value) (w:World),(Instr.makeFunc fn first cap).run Tryz.prog w=.ok (.func fn first cap) w:=fun _ _ _ _=>rfl
 have Hh:=Q3 h;have fR:=Q3 (J3 (w:=w) (o:=Dz 0 0 32) (o2:=Dz 0 0 46));have fF:=Q3 (J7 (w:=w) (o:=Dz 0 0 32) (o2:=Dz 0 0 46));have HO:=Q3 (((Out.refl 0 0 w).alloc (Dz 0 0 32)).alloc (Dz 0 0 46));obtain⟨gv,aR⟩:∃ g,w.heap.size=g:=⟨_,rfl⟩
 have bD:=Q3 aR;obtain⟨V1,gX⟩:∃ V,(w.alloc (Dz 0 0 32)).alloc (Dz 0 0 46)=V:=⟨_,rfl⟩
 rw[gX,aR] at fR fF;rw[gX] at HO;have mF:=HO.out.cell hH z0;have HH1:=Q3 mF;have fK:=Q3 hout;clear h hH hout;have HTk:=Q3 (q6n (Hh.out.quiet HO.out) mF fK.out 4 bl 0 hz hzv z1 z2 hl ha he hf iF);have HG:=Q3 Hh.out.1.glob;clear hz hzv z1 z2 hl ha he hf iF;go_enter_defers Tryz.func64,Tryz.ntmps64
 go_wp2_with fail;(try rw[gX]);(try rw[aR]);clear gX aR;refine(U3 _ _).mono ?_;rintro e w5 ⟨rfl,he⟩;rw[he];clear he w5;go_wp2_with fail;refine HTk.out.mono ?_;rintro e X3 ⟨rfl,S3,q3⟩;have hd:hi<=gv+1:=by have h1:=Hh.out.1.top;have h2:=bD.out;omega
 have hn:4<=gv+1:=by have h3:=Hh.out.1.glob;have h4:=Hh.out.1.inn 0 (by omega);omega
 simp;refine leaves_cons (f:=120) (args:=#[.pointer (some ⟨gv+1,0,none⟩)]) (by simp) (by simp[go_sem]) ?_;refine(z2q (q3.heap fF.out (.inr (by have h1:=Hh.out.1.top;have h2:=bD.out;omega)))).mono ?_;rintro e u' w9 ⟨rfl,rfl,f9,q9⟩;exact U0 (J4 Tryz.results64 rfl rfl (U5 (q9.heap (q3.heap fR.out (.inr (by have h1:=Hh.out.1.top;have h2:=bD.out;omega))) (.inl (Nat.lt_succ_self _)))) (J8 f9)) ⟨rfl,S3.kept q9 (.inl hd) (.inl hn),((HO.out.any lo hi).trans q3).then q9 (by have:=bD.out;omega)⟩
end
theorem take_zero {n a i:Nat} {st:Sp} {aV:Bool} {k z t:Int} (hf:F4 k z=true) (h1:a<i) (h2:(i:Int)<(a:Int)+z):(G4 n st a aV k z t).W i=0:=by
 have hz:=U7 hf;have hg:=x5h hz.2.2.1 hz.2.2.2
 show z3a (z0f _ a (U1 z)) a (F0 a k z) i=0
 unfold z3a;rw[if_neg (by omega)];unfold z0f;rw[if_pos (by omega)]
theorem q6p {bl:Nat} (h:U9 4 bl=true):bl<=4096/\U2 4 bl=2+((bl+7) / 8:Nat):=by
 have h':=sizeB_iff.1 h;have m1:mo 4=4096:=rfl;rw[m1] at h';refine⟨by omega,?_⟩;unfold U2;rw[if_pos h,q5o];have m2:wd 4=2:=rfl;rw[m2];omega
def mtQ (n:Nat) (st:Sp) (bs:List Int):(Int × Int) × (Int × Int) × Sp:=
 if U9 4 bs.length=false then ((0,0),(24,0),st) else
 if (alF n st 4 (U2 4 bs.length) 0).2.1=0 then ((2,(alF n st 4 (U2 4 bs.length) 0).1),(0,0),z1y (alF n st 4 (U2 4 bs.length) 0).2.2.2 (mtW n (alF n st 4 (U2 4 bs.length) 0).1 (alF n st 4 (U2 4 bs.length) 0).2.2.2.W bs))
 else ((0,0),((alF n st 4 (U2 4 bs.length) 0).2.1,(alF n st 4 (U2 4 bs.length) 0).2.2.1),(alF n st 4 (U2 4 bs.length) 0).2.2.2)
theorem q3f {w:World} {lo hi hb n cap:Nat} {s:Nat->Nat} {st:Sp} (h:SpAt w lo hi s n cap st) (hH:w.cell? ⟨hb,0,none⟩=some (.pointer (some ⟨s 14,0,none⟩))) (hout:hb<lo\/hi<=hb) (hl:st.last<4611686018427387904) {p:Option Addr} {bs:List Int} {cb:Nat} (hB:z1u w p bs) (hcb:bs.length<=cb) (hpo:∀ g cX,p=some ⟨g,cX,none⟩->g<lo\/hi<=g) {v1 v2 e0 a0:Int} {st':Sp} (hq:mtQ n st bs=((v1,v2),(e0,a0),st')):Calls Tryz.prog 64 #[.pointer (some ⟨hb,0,none⟩),.slice p bs.length cb] w fun e w'=>e=.returned (.tuple #[.agg #[.int .i64 v1,.int .i64 v2],.agg #[.int .i64 e0,.int .i64 a0]])/\SpAt w' lo hi s n cap st'/\Out lo hi w w':=by
 unfold mtQ at hq;cases hz:U9 4 bs.length
 ·rw[hz,if_pos rfl] at hq;cases hq;exact(q2d h hH hout hz).mono fun e w' ⟨e1,e2⟩=>⟨e1,h.quiet e2,e2.any lo hi⟩
 ·rw[hz,if_neg (by simp)] at hq;have qL:=z5h hz;by_cases he:(alF n st 4 (U2 4 bs.length) 0).2.1=0
  ·rw[if_pos he] at hq;obtain⟨hf,a,aV,_,iP⟩:=j8w he;cases hq;have ha:(alF n st 4 (U2 4 bs.length) 0).1=(a:Int):=by rw[iP]
   have hS:(alF n st 4 (U2 4 bs.length) 0).2.2.2=G4 n st a aV 4 (U2 4 bs.length) 0:=by rw[iP]
   have hfa:(alF n st 4 (U2 4 bs.length) 0).2.2.1=0:=by rw[iP]
   have q:=q6v h hH hout hB hcb hpo (q6p hz).1 hz rfl qL.1 qL.2 hl ha he hfa (by rw[hS];exact j1e hf);rw[<-ha] at q;exact q
  ·rw[if_neg he] at hq;cases hq;exact q2c h hH hout hz rfl qL.1 qL.2 hl rfl rfl rfl he
theorem q2m {w:World} {lo hi rb cw co n:Nat} {s:Nat->Nat} {st:Sp} (h:RfAt w lo hi s n cw co st) (hI:Inv n st) (hI2:∀ k z t,Inv n (alF n st k z t).2.2.2) (hR:w.cell? ⟨rb,0,none⟩=some (.pointer (some ⟨s 0,0,none⟩))) (hro:rb<lo\/hi<=rb) (hl:st.last<4611686018427387904) {p:Option Addr} {bs:List Int} {cb:Nat} (hB:z1u w p bs) (hpo:bs ≠ []->∀ g cX,p=some ⟨g,cX,none⟩->g<lo\/hi<=g) {v1 v2 e0 a0:Int} {st':Sp} (hq:mtQ n st bs=((v1,v2),(e0,a0),st')):Calls Tryz.prog 65 #[.pointer (some ⟨rb,0,none⟩),.slice p bs.length cb] w fun e w'=>e=.returned (.tuple #[.agg #[.int .i64 v1,.int .i64 v2],.agg #[.int .i64 e0,.int .i64 a0]])/\RfAt w' lo hi s n cw co st'/\Out lo hi w w':=by
 unfold mtQ at hq;cases hz:U9 4 bs.length
 ·rw[hz,if_pos rfl] at hq;cases hq;exact(z9l hz).mono fun e w' ⟨e1,e2⟩=>⟨e1,h.quiet e2,e2.any lo hi⟩
 ·rw[hz,if_neg (by simp)] at hq;have qL:=z5h hz;by_cases he:(alF n st 4 (U2 4 bs.length) 0).2.1=0
  ·rw[if_pos he] at hq;obtain⟨hf,a,aV,_,iP⟩:=j8w he;cases hq;have ha:(alF n st 4 (U2 4 bs.length) 0).1=(a:Int):=by rw[iP]
   have hS:(alF n st 4 (U2 4 bs.length) 0).2.2.2=G4 n st a aV 4 (U2 4 bs.length) 0:=by rw[iP]
   have hfa:(alF n st 4 (U2 4 bs.length) 0).2.2.1=0:=by rw[iP]
   have pS:=H7 (hI2 4 (U2 4 bs.length) 0) a _ (by rw[hS];exact j1e hf);dsimp only at pS;have hts:=q6p hz;rw[hts.2] at pS;have q:=q4i (cb:=cb) h hI hR hro hB hpo hz rfl qL.1 qL.2 hl ha he hfa hts.1 (by omega) (fun i h1 h2=>by rw[hS];exact take_zero hf (by omega) (by rw[hts.2];omega));rw[<-ha] at q;exact q
  ·rw[if_neg he] at hq;cases hq;exact q0v h hI hR hro hz rfl qL.1 qL.2 hl rfl rfl rfl he
theorem z0n (a b c d:Int) (w:World):Kz 23 #[Vz a b,Vz c d] w fun e w'=>e=.returned (.bool (a == c && b == d))/\Out 0 0 w w':=by
 have f1:=J3 (w:=w) (o:=Dz a b 46) (o2:=Dz c d 46);have f2:=J7 (w:=w) (o:=Dz a b 46) (o2:=Dz c d 46);have H:=Q3 (((Out.refl 0 0 w).alloc (Dz a b 46)).alloc (Dz c d 46));obtain⟨x0,x1,_,_⟩:=flt_facts f1;obtain⟨y0,y1,_,_⟩:=flt_facts f2;have hE:=eqf a b c d;clear f1 f2;go_enter Tryz.func23,Tryz.ntmps23
 go_wp2;go_ret;exact⟨rfl,H.out⟩
theorem x3l (n:Int) (h:z8q n=false) (w:World):Kz 19 #[Iz n] w fun e w'=>e=.returned (.tuple #[.pointer none,Iz 1])/\w'=w:=by
 have HN:=Q3 (j2v n h w);clear h;go_enter Tryz.func19,Tryz.ntmps19
 go_wp2_with fail;refine HN.out.mono ?_;rintro e w1 ⟨rfl,he⟩;rw[he];clear he;go_wp2;go_ret2;exact⟨rfl,rfl⟩
theorem j9i {w:World} (hg:4<=w.heap.size) (n:Nat) (h1:1<=n) (h2:n<=4096):Kz 19 #[Iz (n:Int)] w fun e w'=>∃ s hi rb,e=.returned (.tuple #[Pq rb,Iz 0])/\RfAt w' w.heap.size hi s n (64*n) (64*n) newSp/\hi<=rb/\cq w' rb 0=some (Pq (s 0))/\Out 0 0 w w':=by
 have HN:=Q3 (q8q hg n h1 h2);clear hg h1 h2;go_enter Tryz.func19,Tryz.ntmps19
 go_wp2_with fail;refine HN.out.mono ?_;rintro e w1 ⟨s,rfl,hR,o1⟩;have f2:=heap_alloc_new w1 (.cells #[Pq (s 0)] 63);have o2:=(Out.refl 0 0 w1).alloc (.cells #[Pq (s 0)] 63);have hc:(w1.alloc (.cells #[Pq (s 0)] 63)).cell? ⟨w1.heap.size,0,none⟩=some (Pq (s 0)):=by
  unfold World.cell?;rw[show (⟨w1.heap.size,0,none⟩:Addr).block=w1.heap.size from rfl,f2];rfl
 have H:=Q3 (And.intro (hR.quiet o2) (And.intro hc (o1.trans o2)));clear hR o1 f2 o2 hc HN;go_wp2;go_ret2;exact⟨s,w1.heap.size,w1.heap.size,rfl,H.out.1,Nat.le_refl _,H.out.2.1,H.out.2.2⟩
def ivl (l:List Int):List Value:=l.map fun x=>.int .i64 x
theorem j0i:(Tryz.prog.info? 3).map (fun i=>(i.zero,i.size,i.bytes))=some (some (.int .i64 0),1,8):=by kernel_rfl
def IRow (w:World) (base:Nat) (v:Value) (l:List Int):Prop:=w.ownsRow base 3 1 v l.length (ivl l)
theorem IRow.nil (w:World) (base:Nat):IRow w base (.slice none 0 0) []:=World.ownsRow_nil _ _ _ _
theorem IRow.kept {w w':World} {base x y:Nat} {v:Value} {l:List Int} (h:IRow w base v l) (o:Out x y w w') (hy:y<=base):IRow w' base v l:=by
 obtain⟨h1,h2⟩:=h;refine⟨h1,?_⟩;rcases h2 with h2 | ⟨g,cap,eT,rfl,h3,h4,h5⟩
 ·exact .inl h2
 ·exact .inr ⟨g,cap,eT,rfl,h3,o.heap h4 (.inr (by omega)),h5⟩
theorem IRow.at {w:World} {base:Nat} {v:Value} {l:List Int} (h:IRow w base v l):∃ po pc,v=.slice po l.length pc/\∀ (j:Nat) (a:Int),l[j]? = some a->∃ g,po=some ⟨g,0,none⟩/\base<=g/\g<w.heap.size/\w.cell? ⟨g,j,none⟩=some (.int .i64 a):=by
 obtain⟨h1,h2⟩:=h;rcases h2 with ⟨e1,h2⟩ | ⟨g,cap,eT,rfl,h3,h4,h5,h6,h7,h8⟩
 ·refine⟨none,0,by rw[e1,h2],fun j a hj=>?_⟩;rw[List.eq_nil_of_length_eq_zero h2] at hj;simp at hj
 refine⟨some ⟨g,0,none⟩,cap,rfl,fun j a hj=>⟨g,rfl,h3,Q8 h4,?_⟩⟩;have mU:=(List.getElem?_eq_some_iff.1 hj).1;have e8:(eT.toList.take (l.length*1))[j]? = (ivl l)[j]? :=by rw[h8]
 unfold ivl at e8;rw[List.getElem?_take,if_pos (by omega),List.getElem?_map,hj] at e8;have:eT[j]? = some (.int .i64 a):=by simpa using e8
 simp[World.cell?,h4,this]
theorem q7c {ops:Array Oper} {rest:List Oper} {o:Oper} {a:Go.Act} {Q:Exit->Go.Act->World->Prop} {w:World} (hgd:o.guard=none) (sx xx:Operand)
  (ho:o.op=.call { callee:=.builtin .append,args:=#[sx,xx],argTypes:=#[70,70] })
  (base:Nat) (v:Value) (l:List Int) (hs:a.eval sx=v) (lF:IRow w base v l) (bb:Nat) (hx:a.eval xx=.slice (some ⟨bb,0,none⟩) 1 1) (q:Int) (hn:w.heap[bb]? = some (.cells #[.int .i64 q] 3 (0,0)))
  (cJ:l.length<=100000) (hbase:base<=w.heap.size)
  (h:∀ v' w',IRow w' base v' (l ++ [q])->Out base w.heap.size w w'->wpList Tryz.prog ops Q rest (a.put o.dst v') w'):wpList Tryz.prog ops Q (o :: rest) a w:=by
 obtain⟨i0,pA,jX,hz1,jW⟩:=z2h j0i;have hc:∀ (j:Nat) u,([.int .i64 q]:List Value)[j]? = some u->w.cell? ((⟨bb,0,none⟩:Addr).add j)=some u:=by
  intro j u hj;rcases j with _ | j
  ·simp at hj;subst hj;simp[Addr.add,World.cell?,hn]
  ·simp at hj
 obtain⟨v2,w',lD,eV,bC,lG⟩:=run_append_own (P:=Tryz.prog) w base 70 o.type 3 i0 (.int .i64 0) 1 8 Tryz.underlying70 pA jX hz1 jW rfl (by decide) v l.length (ivl l) lF ⟨bb,0,none⟩ 1 1 [.int .i64 q] rfl hc (by intro u hu;simp at hu;rw[hu];rfl) (by unfold maxLen;omega) (by omega) hbase;have nN:IRow w' base v2 (l ++ [q]):=by
  unfold IRow;rw[show ivl (l ++ [q])=ivl l ++ [.int .i64 q] from by unfold ivl;simp,List.length_append];exact eV
 have pL:∀ g,v.ownBlock=some g->base<=g:=by
  intro g hg;rcases lF.2 with ⟨rfl,_⟩ | ⟨g',cap,eT,rfl,h3,h4,_⟩
  ·cases hg
  ·simp[Value.ownBlock] at hg;omega
 refine wpList_plain hgd fun K hK=>?_
 unfold Oper.wp;simp[execOp,ho,resolve,invoke,builtin,hs,hx,lD,Result.andThen];exact hK _ _ (h v2 w' nN ⟨bC.os,bC.tape,bC.output,bC.size,fun k h1 h2=>bC.block k h1 (fun e=>by have:=pL k e.symm;omega)⟩)
def vaL (l:List (Nat × Blk)) (k:Int):List Int:=(l.filter fun b=>k == 100 || b.2.1 == k-100).map fun b=>(b.1:Int)
def vaV (l:List (Nat × Blk)) (k nn:Int):Int × Int:=
 if k<100 then (k,nn) else if (vaL l k).length=0 then (2,nn) else (2,(vaL l k).getD (nn % ((vaL l k).length:Int)).toNat 0)
theorem j7w (n:Int) (h:z8q n=false) (w:World):Kz 37 #[Iz n] w fun e w'=>e=.returned (.tuple #[.pointer none,Iz 1])/\w'=w:=by
 have HP:=Q3 (fun w=>x6z n h w);clear h;go_enter Tryz.func37,Tryz.ntmps37
 go_wp2_with (go_at_call 97;refine Q4 (HP.out _) ?_);go_ret2;exact⟨rfl,rfl⟩
theorem x4z (n:Int) (h:z8q n=false) (w:World):Kz 15 #[Iz n] w fun e w'=>e=.returned (.tuple #[.pointer none,Iz 1])/\w'=w:=by
 have HP:=Q3 (fun w=>j7w n h w);clear h;go_enter Tryz.func15,Tryz.ntmps15
 go_wp2_with (go_at_call 37;refine Q4 (HP.out _) ?_);go_ret2;exact⟨rfl,rfl⟩
def FitA (L:Nat) (tl:Nat->Nat) (e:Ending):Prop:=∃ b,e=.returned (.bool b)/\(b=true->∀ j,j<L->j<80->tl j<=20000)
theorem z5p {w:World} {g cX L cp:Nat} {tl:Nat->Nat} {tp:Nat->Option Addr} {tc:Nat->Nat} (hC:∀ i,i<L->cq w g (cX+i*10+9)=some (.slice (tp i) (tl i) (tc i))) (hB:∀ i,i<L->tl i<=4611686018427387904) :
  Kz 10 #[.slice (some ⟨g,cX,none⟩) L cp] w fun e w'=>w'=w/\FitA L tl e:=by
 have HC:=Q3 (And.intro hC hB);have ll0:(0:Int)<=(L:Int):=by omega
 clear hC hB;go_enter Tryz.func10,Tryz.ntmps10
 go_wp2_with fail;go_loopw [3,4] (fun nv u wr=>∃ (i n:Nat),u=Iz (i:Int)/\nv=Iz (n:Int)/\i<=L/\i<=80/\n<=4611686018427407904/\wr=w/\(n<=20000->∀ j,j<i->tl j<=20000)) (fun _ u _=>80-(intOf u).toNat)
 case atStart=>exact⟨0,0,rfl,rfl,Nat.zero_le _,by omega,by omega,rfl,fun _ j hj=>by omega⟩
 case round=>
  obtain⟨i,n,rfl,rfl,i1,i2,i3,rfl,hl⟩:=hrel;have i0:(0:Int)<=(i:Int):=by omega
  have n0:(0:Int)<=(n:Int):=by omega
  have i4:(i:Int)<=80:=by omega
  have n4:(n:Int)<=4611686018427407904:=by omega
  have HL:=Q3 hl;clear hl;by_cases hi:i<L/\i<80
  ·have j1:(i:Int)<(L:Int):=by omega
   have j2:(i:Int)<80:=by omega
   by_cases hn:n<=20000
   ·have j3:(n:Int)<=20000:=by omega
    have c5:=HC.out.1 i hi.1;have hb:=HC.out.2 i hi.1;obtain⟨m,hm⟩:∃ m,tl i=m:=⟨_,rfl⟩
    rw[hm] at c5 hb;have m0:(0:Int)<=(m:Int):=by omega
    have m1:(m:Int)<=4611686018427387904:=by omega
    have Hm:=Q3 hm;clear hm;go_wp2;go_roundw
    case rel=>
     refine⟨i+1,n+m,by go_num,by go_num,by omega,by omega,by omega,trivial,fun h j hj=>?_⟩;by_cases e:j=i
     ·subst e;have:=Hm.out;omega
     ·exact HL.out hn j (by omega)
    case measure=>simp[intOf];omega
   ·have j3:¬ (n:Int)<=20000:=by omega
    have j4:decide ((n:Int)<=20000)=false:=decide_eq_false j3;go_wp2;go_ret;exact⟨rfl,false,rfl,fun h=>by simp at h⟩
  ·obtain⟨r,hr⟩:∃ r,decide ((n:Int)<=20000)=r:=⟨_,rfl⟩
   have HE:Hid (r=true->∀ j,j<L->j<80->tl j<=20000):=fun h j h1 h2=>HL.out (by rw[<-hr] at h;have:=of_decide_eq_true h;omega) j (by omega)
   by_cases hi2:i<L
   ·have j1:(i:Int)<(L:Int):=by omega
    have j2:¬ (i:Int)<80:=by omega
    have j3:decide ((i:Int)<80)=false:=decide_eq_false j2;go_wp2;go_ret;exact⟨rfl,r,rfl,HE.out⟩
   ·have j1:¬ (i:Int)<(L:Int):=by omega
    have j3:decide ((i:Int)<(L:Int))=false:=decide_eq_false j1;go_wp2;go_ret;exact⟨rfl,r,rfl,HE.out⟩
structure Be9 (w:World) (B hb rb bk lo hi lo2 hi2:Nat) (s s2:Nat->Nat) (n cap cw co:Nat) (st:Sp):Prop where
 box:w.heap[B]? = some (.cells #[.pointer (some ⟨hb,0,none⟩),.pointer (some ⟨rb,0,none⟩),.pointer (some ⟨bk,0,none⟩)] 41)
 p:SpAt w lo hi s n cap st
 pc:w.cell? ⟨hb,0,none⟩=some (.pointer (some ⟨s 14,0,none⟩))
 r:RfAt w lo2 hi2 s2 n cw co st
 rc:w.cell? ⟨rb,0,none⟩=some (.pointer (some ⟨s2 0,0,none⟩))
 o1:hi<=hb
 o2:hb<lo2
 o3:hi2<=rb
 o4:rb<bk
 o5:bk<B
def bk0:Obj:=.cells #[.slice none 0 0,.slice none 0 0,.slice none 0 0,.slice none 0 0,.slice none 0 0,.slice none 0 0,.slice none 0 0,.slice none 0 0,.slice none 0 0] 59
theorem z2b (n:Int) (h:z8q n=false) (w:World):Kz 11 #[Iz n] w fun e w'=>e=.returned (.tuple #[.pointer none,.bool true])/\w'=w:=by
 have HP:=Q3 (fun w=>x4z n h w);have HR:=Q3 (fun w=>x3l n h w);clear h;go_enter Tryz.func11,Tryz.ntmps11
 go_wp2_with (first | (go_at_call 15;refine Q4 (HP.out _) ?_) | (go_at_call 19;refine Q4 (HR.out _) ?_));go_ret2;exact⟨rfl,rfl⟩
theorem z9e {w:World} (hT:Tab w) (n:Nat) (h1:1<=n) (h2:n<=4096):Kz 11 #[Iz n] w fun e w'=>∃ B hb rb bk lo hi lo2 hi2 s s2 cap,e=.returned (.tuple #[Pq B,.bool true])/\Be9 w' B hb rb bk lo hi lo2 hi2 s s2 n cap (64*n) (64*n) newSp/\w'.heap[bk]? = some bk0/\w.heap.size<=lo/\Out 0 0 w w':=by
 have HP:=Q3 (NewS hT n h1 h2);have HN:=Q3 (And.intro h1 h2);clear hT h1 h2;go_enter Tryz.func11,Tryz.ntmps11
 go_wp2_with fail;refine HP.out.mono ?_;rintro e w1 ⟨s,cap,hi,hb,rfl,p1,p2,p3,p4⟩;have H1:=Q3 (And.intro p1 (And.intro p2 (And.intro p3 p4)));clear p1 p2 p3 p4 HP;go_wp2_with fail;refine(j9i (w:=w1) (by have h1:=H1.out.1.1.glob;have h2:=H1.out.2.2.2.size;omega) n HN.out.1 HN.out.2).mono ?_;rintro e w2 ⟨s2,hi2,rb,rfl,r1,r2,r3,r4⟩;have f1:=J3 (w:=w2) (o:=bk0) (o2:=.cells #[Pq hb,Pq rb,Pq w2.heap.size] 41);have f2:=J7 (w:=w2) (o:=bk0) (o2:=.cells #[Pq hb,Pq rb,Pq w2.heap.size] 41);have o2:=((Out.refl 0 0 w2).alloc bk0).alloc (.cells #[Pq hb,Pq rb,Pq w2.heap.size] 41);have H2:=Q3 (And.intro r1 (And.intro r2 (And.intro r3 (And.intro r4 (And.intro f1 (And.intro f2 o2))))));clear r1 r2 r3 r4 f1 f2 o2;unfold bk0 at H2;go_wp2;go_ret2;obtain⟨r1,r2,r3,r4,f1,f2,o2⟩:=H2.out;obtain⟨p1,p2,p3,p4⟩:=H1.out;refine⟨w2.heap.size+1,hb,rb,w2.heap.size,w.heap.size,hi,w1.heap.size,hi2,s,s2,cap,rfl,⟨f2,p1.quiet (r4.trans o2),(r4.trans o2).cell p3 z0,r1.quiet o2,o2.cell r3 z0,p2,Y7 p3,r2,Y7 r3,Nat.lt_succ_self _⟩,f1,Nat.le_refl _,p4.trans (r4.trans o2)⟩
theorem z8z (k m:Int) (v:Value) (hk:k<100) (w:World):Kz 21 #[v,Vz k m] w fun e w'=>e=.returned (Vz k m)/\Out 0 0 w w':=by
 have f1:=J3 (w:=w) (o:=Dz k m 32) (o2:=Dz 0 0 32);have f2:=J7 (w:=w) (o:=Dz k m 32) (o2:=Dz 0 0 32);have o2:=((Out.refl 0 0 w).alloc (Dz k m 32)).alloc (Dz 0 0 32);obtain⟨u0,u1,u2,u3⟩:=Q5 f1;obtain⟨x0,x1,x2,x3⟩:=Q5 f2;have f3:=J7 (w:=w) (o:=Dz k m 32) (o2:=Dz k m 32);have o3:=((Out.refl 0 0 w).alloc (Dz k m 32)).alloc (Dz k m 32);have H:=Q3 (And.intro f3 o3);clear f1 f2 f3 o2 o3;go_enter Tryz.func21,Tryz.ntmps21
 go_wp2;exact bodyPost_ret (W6 Tryz.results21 rfl (U5 H.out.1)) rfl ⟨rfl,H.out.2⟩
theorem z9u (k m:Int) (w:World):Kz 78 #[Vz k m] w fun e w'=>e=.returned (Iz (wrap64 (wrap64 (wrap64 (m*8)+k)-1)))/\Out 0 0 w w':=by
 have f1:=heap_alloc_new w (Dz k m 32);have H:=Q3 ((Out.refl 0 0 w).alloc (Dz k m 32));obtain⟨u0,u1,u2,u3⟩:=Q5 f1;clear f1;go_enter Tryz.func78,Tryz.ntmps78
 go_wp2;go_ret;exact⟨rfl,H.out⟩
theorem j4c:∀ (l:List (Nat × Blk)) (j:Nat) (b:Nat × Blk),l[j]? = some b->(bks l)[j*5]? = some (.int .i64 (b.1:Int))/\(bks l)[j*5+1]? = some (.int .i64 b.2.1)
 | [],j,b,h=>by simp at h
 | q :: l,0,b,h=>by
  simp at h;subst h;rw[z8j];exact⟨rfl,rfl⟩
 | q :: l,j+1,b,h=>by
  have:=j4c l j b (by simpa using h);rw[z8j,show (j+1)*5=j*5+5 from by omega];simpa using this
theorem z4f {w:World} {base:Nat} {v:Value} {l:List (Nat × Blk)} (h:B5 w base v l):∃ po pc,v=.slice po l.length pc/\∀ (j:Nat) (b:Nat × Blk),l[j]? = some b->∃ g,po=some ⟨g,0,none⟩/\base<=g/\g<w.heap.size/\w.cell? ⟨g,j*5,none⟩=some (.int .i64 (b.1:Int))/\w.cell? ⟨g,j*5+1,none⟩=some (.int .i64 b.2.1):=by
 obtain⟨h1,h2⟩:=h;rcases h2 with ⟨e1,h2⟩ | ⟨g,cap,eT,rfl,h3,h4,h5,h6,h7,h8⟩
 ·refine⟨none,0,by rw[e1,h2],fun j b hj=>?_⟩;rw[List.eq_nil_of_length_eq_zero h2] at hj;simp at hj
 refine⟨some ⟨g,0,none⟩,cap,rfl,fun j b hj=>⟨g,rfl,h3,Q8 h4,?_⟩⟩;have hl:=(List.getElem?_eq_some_iff.1 hj).1;obtain⟨k0,k1⟩:=j4c l j b hj;have get:∀ i u,i<l.length*5->(bks l)[i]? = some u->w.cell? ⟨g,i,none⟩=some u:=by
  intro i u hi hu;rw[<-h8] at hu;have:eT[i]? = some u:=by simpa [List.getElem?_take,hi] using hu
  simp[World.cell?,h4,this]
 exact⟨get _ _ (by omega) k0,get _ _ (by omega) k1⟩
theorem x1u {l:List (Nat × Blk)} {i:Nat} {b:Nat × Blk} (k:Int) (h:l[i]? = some b):vaL (l.take (i+1)) k=if (k == 100 || b.2.1 == k-100)=true then vaL (l.take i) k ++ [(b.1:Int)] else vaL (l.take i) k:=by
 unfold vaL;rw[List.take_add_one,h,List.filter_append,List.map_append];by_cases c:(k == 100 || b.2.1 == k-100)=true
 ·rw[if_pos c,Option.toList_some];have e:[b].filter (fun b=>k == 100 || b.2.1 == k-100)=[b]:=by unfold List.filter;rw[c];rfl
  rw[e];rfl
 ·rw[if_neg c,Option.toList_some];have c':(k == 100 || b.2.1 == k-100)=false:=by simpa only[Bool.not_eq_true] using c
  have e:[b].filter (fun b=>k == 100 || b.2.1 == k-100)=[]:=by unfold List.filter;rw[c'];rfl
  rw[e];simp
theorem q9m (l:List (Nat × Blk)) (k:Int):(vaL l k).length<=l.length:=by
 unfold vaL;rw[List.length_map];exact List.length_filter_le _ _
theorem j7f (h c:Int) (hc:0<c):(h.tmod c<0->h.tmod c+c=h % c)/\(¬h.tmod c<0->h.tmod c=h % c)/\-c<h.tmod c/\h.tmod c<c:=by
 have:=Int.tmod_lt_of_pos h hc;have e:=Int.emod_eq_tmod (a:=h) (b:=c);have l1:=Int.lt_tmod_of_pos h hc;have m1:=Int.emod_nonneg h (Int.ne_of_gt hc);have m2:=Int.emod_lt_of_pos h hc;refine⟨?_,?_,?_,?_⟩
 ·intro q;rw[e,if_neg]
  ·rw[Int.natAbs_of_nonneg (Int.le_of_lt hc)]
  ·rintro(z | z)
   ·exact absurd (Int.tmod_nonneg c z) (by omega)
   ·have:=Int.tmod_eq_zero_of_dvd z;omega
 ·intro q;rw[e];split
  ·omega
  ·rename_i z
   exfalso
   rw[if_neg z] at e;rw[Int.natAbs_of_nonneg (Int.le_of_lt hc)] at e;omega
 ·omega
 ·omega
theorem z6v {w:World} {base:Nat} {v:Value} {l:List (Nat × Blk)} (hL:B5 w base v l) (hl:l.length<=100000) (k m:Int) (hk:100<=k) (kP:k<=9223372036854775807) (m1:-9223372036854775808<=m) (m2:m<=9223372036854775807):Kz 21 #[v,Vz k m] w fun e w'=>e=.returned (.agg #[Iz (vaV l k m).1,Iz (vaV l k m).2])/\Out 0 0 w w':=by
 obtain⟨po,pc,rfl,eE⟩:=z4f hL;have HC:=Q3 eE;have Hl:=Q3 hl;have ll0:(0:Int)<=(l.length:Int):=by omega
 have ll1:(l.length:Int)<=100000:=by omega
 have hk3:¬ k<100:=by omega
 have hwk:wrap64 (k-100)=k-100:=z0a _ (by omega) (by omega);have hwk2:IntKind.i64.wrap (k-100)=k-100:=by rw[IntKind.wrap_i64];omega
 have f1:=J3 (w:=w) (o:=Dz k m 32) (o2:=Dz 0 0 32);have f2:=J7 (w:=w) (o:=Dz k m 32) (o2:=Dz 0 0 32);have o2:=((Out.refl 0 0 w).alloc (Dz k m 32)).alloc (Dz 0 0 32);obtain⟨gv,aR⟩:∃ g,w.heap.size=g:=⟨_,rfl⟩
 have bD:=Q3 aR;obtain⟨V2,aS⟩:∃ V,(w.alloc (Dz k m 32)).alloc (Dz 0 0 32)=V:=⟨_,rfl⟩
 have oK:Hid (V2.heap.size=gv+2):=by
  have e:V2.heap.size=w.heap.size+2:=by rw[<-aS];first | (show ((w.heap.push _).push _).size=_;rw[Array.size_push,Array.size_push]) | simp
  rw[<-aR];exact e
 rw[aS,aR] at f1 f2;rw[aS] at o2;have HF:=Q3 (And.intro f1 (And.intro f2 o2));obtain⟨u0,u1,u2,u3⟩:=Q5 f1;clear hL hl eE f1 f2 o2;go_enter Tryz.func21,Tryz.ntmps21
 go_wp2_with fail;(try rw[aS]);(try rw[aR]);clear aS aR u0 u1 u2 u3;go_loopw [5,6] (fun sv u wr=>∃ i:Nat,u=Iz (i:Int)/\i<=l.length/\IRow wr (gv+2) sv (vaL (l.take i) k)/\Out 0 0 V2 wr) (fun _ u _=>l.length-(intOf u).toNat)
 case atStart=>exact⟨0,rfl,Nat.zero_le _,IRow.nil _ _,Out.refl 0 0 _⟩
 case round=>
  obtain⟨i,rfl,i1,hI,hO⟩:=hrel;have HO:=Q3 hO;have i0:(0:Int)<=(i:Int):=by omega
  have i2:(i:Int)<=100000:=by omega
  obtain⟨u0,u1,u2,u3⟩:=Q5 (hO.heap HF.out.1 z0);by_cases hi:i<l.length
  ·have HI:=Q3 hI;clear hI hO u1 u2 u3;have j1:(i:Int)<(l.length:Int):=by omega
   obtain⟨b,hb⟩:∃ b,l[i]? = some b:=⟨_,List.getElem?_eq_getElem hi⟩
   obtain⟨g,rfl,hg1,pP,c0,c1⟩:=HC.out i b hb;have HSt:=Q3 (x1u k hb);replace c0:=(HF.out.2.2.trans HO.out).cell c0 z0;replace c1:=(HF.out.2.2.trans HO.out).cell c1 z0;obtain⟨b0,iG⟩:∃ x,((b.1:Nat):Int)=x:=⟨_,rfl⟩
   obtain⟨b1,hb1'⟩:∃ x,b.2.1=x:=⟨_,rfl⟩
   rw[iG,hb1'] at HSt;rw[iG] at c0;rw[hb1'] at c1;clear hb iG hb1';by_cases qQ:k=100
   ·have jQ:(k == 100)=true:=by simpa using qQ
    clear qQ;go_wp2_with fail;refine wp_region_held_drew (S:=fun w'=>cq w' gv 0=some (Iz k)/\cq w' g (i*5+1)=some (Iz b1)/\cq w' g (i*5)=some (Iz b0)/\Out 0 0 wr w') (by kernel_rfl) ?hS61 (fun aB=>?rest61)
    case hS61=>exact⟨u0,c1,c0,(Out.refl 0 0 _).drew⟩
    obtain⟨Z,hZ⟩:∃ Z,wr.drew=Z:=⟨_,rfl⟩
    rw[hZ] at aB ⊢;clear hZ;refine tk 0 ?_;refine tk 1 ?_;refine tk 2 ?_;refine tk 3 ?_;refine sk 4 ?_;refine sk 5 ?_;refine sk 6 ?_;refine sk 7 ?_;refine sk 8 ?_;refine sk 9 ?_;refine sk 10 ?_;refine sk 11 ?_;refine sk 12 ?_;refine tk 13 ?_;refine dn ?_;have HI2:=Q3 (HI.out.kept aB.2.2.2 (Nat.zero_le _));have bN:=Q3 (HO.out.trans aB.2.2.2);have d0:=aB.2.2.1;have HN3:=Q3 (heap_alloc_new Z (.cells #[Iz b0] 3));have bJ:=Q3 (bN.out.alloc (.cells #[Iz b0] 3));have HI3:=Q3 (HI2.out.kept ((Out.refl 0 0 Z).alloc (.cells #[Iz b0] 3)) (Nat.zero_le _));have kV:gv+2<=(Z.alloc (.cells #[Iz b0] 3)).heap.size:=by have h1:=bJ.out.size;have h2:=oK.out;omega
    have HBs:=Q3 kV;have cJ:(vaL (l.take i) k).length<=100000:=by have h1:=q9m (l.take i) k;rw[List.length_take] at h1;have h2:=Hl.out;omega
    have HLen:=Q3 cJ;clear aB kV cJ u0 c0 c1;go_wp2_with (at_builtin;refine q7c rfl _ _ rfl (gv+2) _ _ rfl HI3.out _ rfl b0 HN3.out HLen.out HBs.out ?_);intro v' w' hr ho;have HR:=Q3 (And.intro hr (bJ.out.trans' ho (by have:=oK.out;omega)));clear hr ho;go_wp2;go_roundw
    case rel=>exact⟨i+1,by go_num,by omega,by have e:=HSt.out;rw[if_pos (by simp[jQ])] at e;rw[e];exact HR.out.1,HR.out.2⟩
    case measure=>simp[intOf];omega
   ·have jQ:(k == 100)=false:=by simpa using qQ
    clear qQ;by_cases iG:b1=k-100
    ·have oU:(b1 == k-100)=true:=by simpa using iG
     clear iG;go_wp2_with fail;refine wp_region_held_drew (S:=fun w'=>cq w' gv 0=some (Iz k)/\cq w' g (i*5+1)=some (Iz b1)/\cq w' g (i*5)=some (Iz b0)/\Out 0 0 wr w') (by kernel_rfl) ?hS76 (fun aB=>?rest76)
     case hS76=>exact⟨u0,c1,c0,(Out.refl 0 0 _).drew⟩
     obtain⟨Z,hZ⟩:∃ Z,wr.drew=Z:=⟨_,rfl⟩
     rw[hZ] at aB ⊢;clear hZ;refine tk 0 ?_;refine tk 1 ?_;refine tk 2 ?_;refine tk 3 ?_;refine tk 4 ?_;refine tk 5 ?_;refine tk 6 ?_;refine tk 7 ?_;refine tk 8 ?_;refine tk 9 ?_;refine tk 10 ?_;refine tk 11 ?_;refine tk 12 ?_;refine tk 13 ?_;refine dn ?_;have HI2:=Q3 (HI.out.kept aB.2.2.2 (Nat.zero_le _));have bN:=Q3 (HO.out.trans aB.2.2.2);have d0:=aB.2.2.1;have HN3:=Q3 (heap_alloc_new Z (.cells #[Iz b0] 3));have bJ:=Q3 (bN.out.alloc (.cells #[Iz b0] 3));have HI3:=Q3 (HI2.out.kept ((Out.refl 0 0 Z).alloc (.cells #[Iz b0] 3)) (Nat.zero_le _));have kV:gv+2<=(Z.alloc (.cells #[Iz b0] 3)).heap.size:=by have h1:=bJ.out.size;have h2:=oK.out;omega
     have HBs:=Q3 kV;have cJ:(vaL (l.take i) k).length<=100000:=by have h1:=q9m (l.take i) k;rw[List.length_take] at h1;have h2:=Hl.out;omega
     have HLen:=Q3 cJ;clear aB kV cJ u0 c0 c1;go_wp2_with (at_builtin;refine q7c rfl _ _ rfl (gv+2) _ _ rfl HI3.out _ rfl b0 HN3.out HLen.out HBs.out ?_);intro v' w' hr ho;have HR:=Q3 (And.intro hr (bJ.out.trans' ho (by have:=oK.out;omega)));clear hr ho;go_wp2;go_roundw
     case rel=>exact⟨i+1,by go_num,by omega,by have e:=HSt.out;rw[if_pos (by simp[jQ,oU])] at e;rw[e];exact HR.out.1,HR.out.2⟩
     case measure=>simp[intOf];omega
    ·have oU:(b1 == k-100)=false:=by simpa using iG
     clear iG;go_wp2_with fail;refine wp_region_held_drew (S:=fun w'=>cq w' gv 0=some (Iz k)/\cq w' g (i*5+1)=some (Iz b1)/\cq w' g (i*5)=some (Iz b0)/\Out 0 0 wr w') (by kernel_rfl) ?hS91 (fun aB=>?rest91)
     case hS91=>exact⟨u0,c1,c0,(Out.refl 0 0 _).drew⟩
     obtain⟨Z,hZ⟩:∃ Z,wr.drew=Z:=⟨_,rfl⟩
     rw[hZ] at aB ⊢;clear hZ;refine tk 0 ?_;refine tk 1 ?_;refine tk 2 ?_;refine tk 3 ?_;refine tk 4 ?_;refine tk 5 ?_;refine tk 6 ?_;refine tk 7 ?_;refine tk 8 ?_;refine tk 9 ?_;refine tk 10 ?_;refine tk 11 ?_;refine tk 12 ?_;refine tk 13 ?_;refine dn ?_;have HI2:=Q3 (HI.out.kept aB.2.2.2 (Nat.zero_le _));have bN:=Q3 (HO.out.trans aB.2.2.2);clear aB u0 c0 c1;go_wp2;go_roundw
     case rel=>exact⟨i+1,by go_num,by omega,by have e:=HSt.out;rw[if_neg (by simp[jQ,oU])] at e;rw[e];exact HI2.out,bN.out⟩
     case measure=>simp[intOf];omega
  ·have j1:¬ (i:Int)<(l.length:Int):=by omega
   have e:l.take i=l:=List.take_of_length_le (by omega);rw[e] at hI;clear e;obtain⟨po2,pc2,rfl,hat⟩:=hI.at;obtain⟨x0,x1,x2,x3⟩:=Q5 (hO.heap HF.out.2.1 z0);have hvl:=q9m l k;obtain⟨q,hq⟩:∃ q,(vaL l k).length=q:=⟨_,rfl⟩
   have HQ:=Q3 hq;have q0:(0:Int)<=(q:Int):=by omega
   have q1:(q:Int)<=100000:=by omega
   rw[hq] at hvl ⊢;have HA:=Q3 hat;have HX:=Q3 (hO.heap HF.out.2.1 z0);have hva:vaV l k m=if q=0 then (2,m) else (2,(vaL l k).getD (m % (q:Int)).toNat 0):=by unfold vaV;rw[if_neg (by omega),HQ.out]
   have HVa:=Q3 hva;clear hat hI hO hvl hva hq;by_cases hq0:q=0
   ·have e1:((q:Int) == 0)=true:=by simp;omega
    have f2:=G9 (x1:=2) (x2:=m) HX.out;have o2:=(HF.out.2.2.trans HO.out).set2 (b:=gv+1) (o:=0) (o':=1) (.inr (by have:=bD.out;omega)) (Iz 2) (Iz m);have HE:=Q3 (And.intro f2 o2);clear f2 o2;go_wp2;exact bodyPost_ret (W6 Tryz.results21 rfl (U5 HE.out.1)) rfl ⟨by rw[HVa.out,if_pos hq0],HE.out.2⟩
   ·have e1:((q:Int) == 0)=false:=by simp;omega
    have qp:(0:Int)<(q:Int):=by omega
    obtain⟨r1,r2,r3,r4⟩:=j7f m (q:Int) qp;have r5:=Int.emod_nonneg m (Int.ne_of_gt qp);have r6:=Int.emod_lt_of_pos m qp;obtain⟨t,ht⟩:∃ t:Nat,m % (q:Int)=(t:Int):=⟨(m % (q:Int)).toNat,by omega⟩
    have tq:t<q:=by omega
    obtain⟨x,hx⟩:∃ x,(vaL l k)[t]? = some x:=⟨_,List.getElem?_eq_getElem (by rw[HQ.out];exact tq)⟩
    obtain⟨g,rfl,_,_,hgc⟩:=HA.out t x hx;have f2:=G9 (x1:=2) (x2:=x) HX.out;have o2:=(HF.out.2.2.trans HO.out).set2 (b:=gv+1) (o:=0) (o':=1) (.inr (by have:=bD.out;omega)) (Iz 2) (Iz x);have hfin:vaV l k m=(2,x):=by rw[HVa.out,if_neg hq0,ht,Int.toNat_natCast,List.getD_eq_getElem?_getD,hx];rfl
    have HE:=Q3 (And.intro f2 (And.intro o2 hfin));have t0:(0:Int)<=(t:Int):=by omega
    have t1:(t:Int)<(q:Int):=by omega
    obtain⟨z,hz⟩:∃ z,m.tmod (q:Int)=z:=⟨_,rfl⟩
    rw[hz] at r1 r2 r3 r4;clear f2 o2 hfin hx;by_cases hneg:z<0
    ·have e2:z+(q:Int)=(t:Int):=by have:=r1 hneg;omega
     have hw1:wrap64 (z+(q:Int))=(t:Int):=by rw[e2];exact z0a _ (by omega) (by omega)
     clear r1 r2 r5 r6 ht;go_wp2;exact bodyPost_ret (W6 Tryz.results21 rfl (U5 HE.out.1)) rfl ⟨by rw[HE.out.2.2],HE.out.2.1⟩
    ·have e2:z=(t:Int):=by have:=r2 hneg;omega
     clear r1 r2 r5 r6 ht;subst e2;go_wp2;exact bodyPost_ret (W6 Tryz.results21 rfl (U5 HE.out.1)) rfl ⟨by rw[HE.out.2.2],HE.out.2.1⟩
def ElAt (w:World) (v:Value) (n k:Nat) (f:Nat->Nat->Int):Prop:=∃ o c,v=.slice o n c/\(0<n->∃ g,o=some ⟨g,0,none⟩/\∀ j i,j<n->i<k->w.cell? ⟨g,j*k+i,none⟩=some (.int .i64 (f j i)))
theorem ElAt.quiet {w w':World} {v:Value} {n k:Nat} {f:Nat->Nat->Int} (h:ElAt w v n k f) (o:Out 0 0 w w'):ElAt w' v n k f:=by
 obtain⟨a,c,e,h⟩:=h;refine⟨a,c,e,fun hn=>?_⟩;obtain⟨g,hg,hc⟩:=h hn;exact⟨g,hg,fun j i hj hi=>o.cell (hc j i hj hi) z0⟩
theorem x6h {w:World} {base k n:Nat} {T:TypeId} {v:Value} {xs:List Value} {f:Nat->Nat->Int} (h:w.ownsRow base T k v n xs) (hx:∀ j i,j<n->i<k->xs[j*k+i]? = some (.int .i64 (f j i))):ElAt w v n k f:=by
 obtain⟨h1,h2⟩:=h;rcases h2 with ⟨rfl,rfl⟩ | ⟨g,cap,eT,rfl,h3,h4,h5,h6,h7,h8⟩
 ·exact⟨_,_,rfl,fun h=>by omega⟩
 ·refine⟨_,_,rfl,fun _=>⟨g,rfl,fun j i hj hi=>?_⟩⟩;have hu:=hx j i hj hi;rw[<-h8] at hu;have eR:j*k+i<n*k:=by
   have:j*k+k<=n*k:=by rw[<-Nat.succ_mul];exact Nat.mul_le_mul_right k hj
   omega
  have:eT[j*k+i]? = some (.int .i64 (f j i)):=by simpa [List.getElem?_take,eR] using hu
  simp[World.cell?,h4,this]
theorem q5x {w:World} {n:Nat} {v1 v2:Value} {f:Nat->Nat->Int} (h1:ElAt w v1 n 1 f) (h2:ElAt w v2 n 1 f) (hn:(n:Int)<=100000):Kz 32 #[v1,v2] w fun e w'=>e=.returned (.bool true)/\Out 0 0 w w':=by
 obtain⟨o1,c1,rfl,h1⟩:=h1;obtain⟨o2,c2,rfl,h2⟩:=h2;have H1:=Q3 h1;have H2:=Q3 h2;have n0:(0:Int)<=(n:Int):=by omega
 have nn:((n:Int) != (n:Int))=false:=by simp
 obtain⟨nb,hnb⟩:∃ q:Int,(n:Int)<=q/\q<=4611686018427387904:=⟨n,by omega,by omega⟩
 clear h1 h2 hn;go_enter Tryz.func32,Tryz.ntmps32
 go_wp2_with fail;go_loopw [5] (fun u wr=>∃ j:Nat,u=Iz (j:Int)/\j<=n/\Out 0 0 w wr) (fun u _=>n-(intOf u).toNat)
 case atStart=>exact⟨0,rfl,Nat.zero_le _,Out.refl _ _ _⟩
 case round=>
  obtain⟨j,rfl,j1,ro⟩:=hrel;have j0:(0:Int)<=(j:Int):=by omega
  have j4:(j:Int)<=(n:Int):=by omega
  by_cases hj:j<n
  ·have j2:(j:Int)<(n:Int):=by omega
   obtain⟨g1,hg1,hc1⟩:=H1.out (by omega);obtain⟨g2,pP,hc2⟩:=H2.out (by omega);subst hg1 pP;have p0:=ro.cell (hc1 j 0 hj (by omega)) Oz;rw[show j*1+0=j from by omega] at p0;have q0:=ro.cell (hc2 j 0 hj (by omega)) Oz;rw[show j*1+0=j from by omega] at q0;generalize f j 0=x0 at p0 q0
   have z0:(x0 == x0)=true:=by simp
   have y0:(x0 != x0)=false:=by simp
   have HO:=Q3 ro;clear ro hc1 hc2;go_wp2_with fail;refine wp_region_held_drew (S:=fun w'=>cq w' g1 j=some (Iz x0)/\cq w' g2 j=some (Iz x0)) (by kernel_rfl) ?hS11 (fun aB=>?rest11)
   case hS11=>exact⟨p0,q0⟩
   refine tk 0 ?_;refine tk 1 ?_;refine tk 2 ?_;refine tk 3 ?_;refine tk 4 ?_;refine tk 5 ?_;refine tk 6 ?_;refine tk 7 ?_;refine tk 8 ?_;refine dn ?_;clear aB;go_wp2;go_roundw
   case rel=>exact⟨j+1,by go_num,by omega,HO.out.drew⟩
   case measure=>simp[intOf];omega
  ·have e:n=j:=by omega
   subst e;have e2:decide ((n:Int)<(n:Int))=false:=by simp
   go_wp2;go_ret;exact⟨rfl,ro⟩
end Go.Proofs.YtjgnogflgoihfaaGreatDoor
