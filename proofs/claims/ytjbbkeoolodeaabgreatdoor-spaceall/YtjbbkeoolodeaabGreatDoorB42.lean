import Derived.Test.YtjbbkeoolodeaabGreatDoorB28
import Derived.Test.YtjbbkeoolodeaabGreatDoorB41
import Derived.Test.YtjbbkeoolodeaabGreatDoorB03
namespace Go.Proofs.YtjbbkeoolodeaabGreatDoor
open Go.RowKit
set_option linter.unusedVariables false
set_option maxRecDepth 100000
set_option maxHeartbeats 16000000
set_option linter.unusedSimpArgs false
def nD (n:Nat) (st:Sp) (t:Nat):Nat:=if t=0 then 64*n else if t=1 then n else (J5 (Z6 n st) (64*n)).length
def fD (n:Nat) (st:Sp) (t j i:Nat):Int:=if t=0 then fW st j i else if t=1 then fP st j i else fO (J5 (Z6 n st) (64*n)) j i
def x6 (a2 a3 a4 a5 a6 a7:Value):Nat->Value
 | 2=>a2
 | 3=>a3
 | 4=>a4
 | 5=>a5
 | 6=>a6
 | _=>a7
theorem j8h {n:Nat} (hn:n<=24) (st:Sp) (t:Nat):nD n st t<=1536:=by
 have:=z4o (Z6 n st) (64*n);unfold nD;split
 ·omega
 ·split <;> omega
theorem q9h {w:World} {B base n:Nat} {st:Sp} {gw cw gp cp:Nat} {vb:Value} (h:DmpIs w base n (Z6 n st) gw cw gp cp vb) (hB:B<=base) :
  OwnF B w 0 (.slice (some ⟨gw,0,none⟩) (64*n) cw) (nD n st 0) (fD n st 0)/\OwnF B w 1 (.slice (some ⟨gp,0,none⟩) n cp) (nD n st 1) (fD n st 1)/\OwnF B w 2 vb (nD n st 2) (fD n st 2):=by
 obtain⟨d1,d2,d3,_⟩:=h;refine⟨⟨_,z3d d1 hB,fun j i hj hi=>?_⟩,?_,⟨_,z3d d3 hB,fun j i hj hi=>j6q _ j i hj hi⟩⟩
 ·have hi1:i<1:=hi;have:i=0:=by omega
  subst this;have hj2:j<64*n:=hj
  show _=some (Value.int .i64 (fW st j 0))
  rw[show j*szK 0+0=j from by unfold szK;simp];simp[hj2,fW,Z6]
 ·have d2':w.ownsRow base 147 3 (.slice (some ⟨gp,0,none⟩) n cp) n (pgs (pgl st.S n)):=by
   have:=d2;unfold ListIs at this;rw[z1b] at this;exact this
  refine⟨_,z3d d2' hB,fun j i hj hi=>?_⟩;have hj2:j<n:=hj;have hi2:i<3:=hi
  show (pgs (pgl st.S n))[j*3+i]? = some (Value.int .i64 (fP st j i))
  rw[z3z st.S n (by omega)];rfl
def KS (B:Nat) (w:World) (b:Nat) (v0 v1:Value) (col:Nat->Nat) (z:Bool) (c:Nat):Prop:=
 ∃ V X C p N0 N2 F0 F1 F2,Kp B w b V X C col none p/\x0v X N0 N2 F0 F1 F2/\(N0+N2<=32/\F0<=8*c/\F1<=8*c/\F2<=8*c)/\(V 0=v0/\V 1=v1)/\(z=true->p=fun _=>0)
theorem KS.chg {B:Nat} {w w':World} {b:Nat} {v0 v1:Value} {col:Nat->Nat} {z:Bool} {c:Nat} {P:Nat->Prop} (h:KS B w b v0 v1 col z c) (o:Chg col P w w') (hP:∀ c,P c->c=7\/c=9):KS B w' b v0 v1 col z c:=by
 obtain⟨V,X,C,p,N0,N2,F0,F1,F2,h1,h2⟩:=h;exact⟨V,X,C,p,N0,N2,F0,F1,F2,h1.chg o fun c hc=>by rcases hP c hc with e | e;exact .inl e;exact .inr (.inl e),h2⟩
theorem KS.quiet {B:Nat} {w w':World} {b:Nat} {v0 v1:Value} {col:Nat->Nat} {z:Bool} {c:Nat} (h:KS B w b v0 v1 col z c) (o:Out 0 0 w w'):KS B w' b v0 v1 col z c:=h.chg (P:=fun c=>c=9) (Chg.of_out o _ _) (fun _ h=>.inr h)
theorem KS.recol {B:Nat} {w:World} {b:Nat} {v0 v1:Value} {col col':Nat->Nat} {z:Bool} {c:Nat} (h:KS B w b v0 v1 col z c) (e:∀ x,x<w.heap.size->col' x=col x):KS B w b v0 v1 col' z c:=by
 obtain⟨V,X,C,p,N0,N2,F0,F1,F2,h1,h2⟩:=h;exact⟨V,X,C,p,N0,N2,F0,F1,F2,h1.recol fun x hx _=>e x hx,h2⟩
theorem KS.cells {B:Nat} {w:World} {b:Nat} {v0 v1:Value} {col:Nat->Nat} {z:Bool} {c:Nat} (h:KS B w b v0 v1 col z c):w.cell? ⟨b,0,none⟩=some v0/\w.cell? ⟨b,1,none⟩=some v1:=by
 obtain⟨V,X,C,p,N0,N2,F0,F1,F2,h1,h2,h3,⟨rfl,rfl⟩,h5⟩:=h;exact⟨h1.cell 0 (by omega),h1.cell 1 (by omega)⟩
theorem KS.mono {B:Nat} {w:World} {b:Nat} {v0 v1:Value} {col:Nat->Nat} {z:Bool} {c c':Nat} (h:KS B w b v0 v1 col z c) (hc:c<=c'):KS B w b v0 v1 col z c':=by
 obtain⟨V,X,C,p,N0,N2,F0,F1,F2,h1,h2,h3,h4⟩:=h;exact⟨V,X,C,p,N0,N2,F0,F1,F2,h1,h2,by omega,h4⟩
theorem q7c {B b n c:Nat} {st:Sp} {v0 v1:Value} {col:Nat->Nat} {z:Bool} {w0 w1 w:World} {gw cw gp cp gw' cw' gp' cp':Nat} {vb vb':Value} {h0 h1 h2 h3 h4 h5 h6 h7 sr:Int} (h:KS B w0 b v0 v1 col z c) (hc:c<=900) (o1:Out 0 0 w0 w1) (o2:Out 0 0 w1 w)
  (d1:DmpIs w1 w0.heap.size n (Z6 n st) gw cw gp cp vb) (d2:DmpIs w w1.heap.size n (Z6 n st) gw' cw' gp' cp' vb') (hn:n<=24) (q:Bool) :
  Calls Tryz.prog 42 #[.pointer (some ⟨b,2,none⟩),.agg #[.slice (some ⟨gw,0,none⟩) (64*n) cw,.slice (some ⟨gp,0,none⟩) n cp,vb,.int .i64 h0,.int .i64 h1,.int .i64 h2,.int .i64 h3,.int .i64 h4,.int .i64 h5,.int .i64 h6,.int .i64 h7,.int .i64 sr],.agg #[.slice (some ⟨gw',0,none⟩) (64*n) cw',.slice (some ⟨gp',0,none⟩) n cp',vb',.int .i64 h0,.int .i64 h1,.int .i64 h2,.int .i64 h3,.int .i64 h4,.int .i64 h5,.int .i64 h6,.int .i64 h7,.int .i64 sr],.bool q] w fun e w'=>e=.returned (.bool true)/\∃ col',KS B w' b v0 v1 col' z (c+1)/\Fix col col' w0 w':=by
 obtain⟨V,X,C,p,N0,N2,F0,F1,F2,k1,k2,k3,k4,k5⟩:=h;have hBB:=k1.hB;have s1:=o1.size;have s2:=o2.size;have d1':=d1.kept o2 (Nat.zero_le _);obtain⟨A0,A1,A2⟩:=q9h d1' hBB;obtain⟨B0,B1,B2⟩:=q9h d2 (B:=B) (by omega);obtain⟨b1,b2⟩:=Z8 d1.1 gw rfl;obtain⟨b3,b4⟩:=Z8 d1.2.1 gp rfl;have b5:=fun g hg=>Z8 d1.2.2.1 g hg
 obtain⟨b6,b7⟩:=Z8 d2.1 gw' rfl;obtain⟨b8,b9⟩:=Z8 d2.2.1 gp' rfl;have b10:=fun g hg=>Z8 d2.2.2.1 g hg
 have l1:=d1.2.2.2.1;have l2:=d1.2.2.2.2;have l3:=d2.2.2.2.1;have l4:=d2.2.2.2.2;have oo:Out 0 0 w0 w:=o1.trans o2;obtain⟨dW,hdW⟩:∃ v,Value.slice (some ⟨gw,0,none⟩) (64*n) cw=v:=⟨_,rfl⟩
 obtain⟨dP,hdP⟩:∃ v,Value.slice (some ⟨gp,0,none⟩) n cp=v:=⟨_,rfl⟩
 obtain⟨eW,heW⟩:∃ v,Value.slice (some ⟨gw',0,none⟩) (64*n) cw'=v:=⟨_,rfl⟩
 obtain⟨eP,heP⟩:∃ v,Value.slice (some ⟨gp',0,none⟩) n cp'=v:=⟨_,rfl⟩
 have ob1:dW.ownBlock=some gw:=by rw[<-hdW];rfl
 have ob2:dP.ownBlock=some gp:=by rw[<-hdP];rfl
 have ob3:eW.ownBlock=some gw':=by rw[<-heW];rfl
 have ob4:eP.ownBlock=some gp':=by rw[<-heP];rfl
 rw[hdW] at A0 ⊢;rw[hdP] at A1 ⊢;rw[heW] at B0 ⊢;rw[heP] at B1 ⊢;have hx:∀ t,t<3->OwnF B w t (x6 dW eW dP eP vb vb' (2+2*t)) (nD n st t) (fD n st t)/\OwnF B w t (x6 dW eW dP eP vb vb' (3+2*t)) (nD n st t) (fD n st t):=fun t ht=>by
  have ht2:t=0\/t=1\/t=2:=by omega
  rcases ht2 with rfl | rfl | rfl
  ·exact⟨A0,B0⟩
  ·exact⟨A1,B1⟩
  ·exact⟨A2,B2⟩
 obtain⟨⟨q2,q3,q4,q5,q6,q7⟩,q8,q9,q10⟩:=id k2;by_cases hm:30<N0+N2
 ·have r:=q8f (x:=x6 dW eW dP eP vb vb') (n:=nD n st) (f:=fD n st) (h0:=h0) (h1:=h1) (h2:=h2) (h3:=h3) (h4:=h4) (h5:=h5) (h6:=h6) (h7:=h7) (sr:=sr) (q:=q) (k1.quiet oo) (fun t ht=>⟨(hx t ht).1.el,j8h hn st t,(hx t ht).2.el⟩) ⟨q2,q6⟩ (by omega) hm;refine Calls.mono r ?_;rintro e w' ⟨rfl,ho⟩;exact⟨rfl,col,⟨V,X,C,p,N0,N2,F0,F1,F2,(k1.quiet oo).quiet ho,k2,by omega,k4,k5⟩,((Fix.refl col w0).out oo).out ho⟩
 ·have hfew:N0+N2<=30:=by omega
  cases q with
  | false=>
   obtain⟨colN,hcN⟩:∃ cN:Nat->Nat,cN=fun y=>if y=gw\/y=gp\/vb.ownBlock=some y then 9 else col y:=⟨_,rfl⟩
   have hag:∀ y,y<w0.heap.size->colN y=col y:=fun y hy=>by
    rw[hcN]
    show (if y=gw\/y=gp\/vb.ownBlock=some y then 9 else col y)=col y
    rw[if_neg (fun e=>by rcases e with e | e | e;omega;omega;have:=(b5 y e).1;omega)]
   have kk:Kp B w b V X C colN none p:=(k1.recol fun y hy _=>hag y hy).quiet oo;have hdin:DIn B w colN (x6 dW eW dP eP vb vb') (nD n st) (fD n st):=by
    refine⟨fun t ht=>⟨(hx t ht).1,j8h hn st t,(hx t ht).2.el,?_⟩,?_⟩
    ·have ht2:t=0\/t=1\/t=2:=by omega
     rw[hcN];rcases ht2 with rfl | rfl | rfl
     ·intro g hg;have hg2:dW.ownBlock=some g:=hg;rw[ob1] at hg2;cases hg2;exact if_pos (.inl rfl)
     ·intro g hg;have hg2:dP.ownBlock=some g:=hg;rw[ob2] at hg2;cases hg2;exact if_pos (.inr (.inl rfl))
     ·intro g hg;exact if_pos (.inr (.inr hg))
    ·intro t s g ht hs hne hg1 hg2;have ht2:t=0\/t=1\/t=2:=by omega
     have hs2:s=0\/s=1\/s=2:=by omega
     have e0:∀ t,t=0->(x6 dW eW dP eP vb vb' (2+2*t)).ownBlock=some g->g=gw:=fun t ht hg=>by
      subst ht;have hg2:dW.ownBlock=some g:=hg;rw[ob1] at hg2;cases hg2;rfl
     have e1:∀ t,t=1->(x6 dW eW dP eP vb vb' (2+2*t)).ownBlock=some g->g=gp:=fun t ht hg=>by
      subst ht;have hg2:dP.ownBlock=some g:=hg;rw[ob2] at hg2;cases hg2;rfl
     have e2:∀ t,t=2->(x6 dW eW dP eP vb vb' (2+2*t)).ownBlock=some g->gp<g:=fun t ht hg=>by
      subst ht;exact l2 g hg
     rcases ht2 with a | a | a <;> rcases hs2 with c | c | c <;> (first | omega | skip)
     ·have:=e0 t a hg1;have:=e1 s c hg2;omega
     ·have:=e0 t a hg1;have:=e2 s c hg2;omega
     ·have:=e1 t a hg1;have:=e0 s c hg2;omega
     ·have:=e1 t a hg1;have:=e2 s c hg2;omega
     ·have:=e2 t a hg1;have:=e0 s c hg2;omega
     ·have:=e2 t a hg1;have:=e1 s c hg2;omega
   have r:=q8r (x:=x6 dW eW dP eP vb vb') (n:=nD n st) (f:=fD n st) (h0:=h0) (h1:=h1) (h2:=h2) (h3:=h3) (h4:=h4) (h5:=h5) (h6:=h6) (h7:=h7) (sr:=sr) kk hdin k2 (by omega) hfew;refine Calls.mono r ?_;rintro e w' ⟨rfl,V',X',col',r1,r2,r3,r4⟩;refine⟨rfl,col',⟨V',X',C,p,N0,N2,_,_,_,r1,r2,by omega,by rw[(r3 0 (by omega)).1,(r3 1 (by omega)).1];exact k4,k5⟩,?_⟩;exact((((Fix.refl col w0).re (c2:=colN) fun k hk h7=>by rw[hag k hk];exact h7).out oo)).trans r4
  | true=>
   obtain⟨M,hMd⟩:∃ M:Nat->Nat,M=fun t=>if t=2 then N2 else N0:=⟨_,rfl⟩
   have M0:M 0=N0/\M 1=N0/\M 2=N2:=by rw[hMd];exact⟨rfl,rfl,rfl⟩
   have hMl:∀ t,t<3->(X (2+2*t)).length=M t/\(X (3+2*t)).length=M t:=fun t ht=>by
    have ht2:t=0\/t=1\/t=2:=by omega
    rcases ht2 with rfl | rfl | rfl
    ·rw[M0.1];exact⟨q2,q3⟩
    ·rw[M0.2.1];exact⟨q4,q5⟩
    ·rw[M0.2.2];exact⟨q6,q7⟩
   obtain⟨C',hC'⟩:∃ C':Nat->Nat->Nat × (Nat->Nat->Int),C'=fun t i=>if i=M t then (nD n st t,fD n st t) else C t i:=⟨_,rfl⟩
   have hCM:∀ t,C' t (M t)=(nD n st t,fD n st t):=fun t=>by rw[hC'];exact if_pos rfl
   obtain⟨colN,hcN⟩:∃ cN:Nat->Nat,cN=fun y=>if y=gw then 100+3*N0+0 else if y=gp then 100+3*N0+1 else if vb.ownBlock=some y then 100+3*N2+2 else if w1.heap.size<=y then 6 else col y:=⟨_,rfl⟩
   have hag:∀ y,y<w0.heap.size->colN y=col y:=fun y hy=>by
    rw[hcN]
    show (if y=gw then _ else if y=gp then _ else if vb.ownBlock=some y then _ else if w1.heap.size<=y then 6 else col y)=col y
    rw[if_neg (by omega),if_neg (by omega),if_neg (fun e=>by have:=(b5 y e).1;omega),if_neg (by omega)]
   have kk:Kp B w b V X C' colN none p:=((k1.setC (C':=C') fun t i ht hi=>by
    rw[hC'];exact if_neg (by have:=hMl t ht;omega)).recol fun y hy _=>hag y hy).quiet oo
   have c6:∀ y,w1.heap.size<=y->colN y=6:=fun y hy=>by
    rw[hcN]
    show (if y=gw then _ else if y=gp then _ else if vb.ownBlock=some y then _ else if w1.heap.size<=y then 6 else col y)=6
    rw[if_neg (by omega),if_neg (by omega),if_neg (fun e=>by have:=(b5 y e).2;omega),if_pos hy]
   have were:∀ t v,OwnF B w t v (nD n st t) (fD n st t)->(∀ g,v.ownBlock=some g->w1.heap.size<=g)->WereC w colN v (nD n st t) (szK t) (fD n st t):=fun t v hv hg=>by
    obtain⟨a,cap,rfl⟩:=hv.shape;refine⟨a,cap,rfl,fun h0=>?_⟩;obtain⟨g,cap',e,e2,e3,_,e4⟩:=hv.open h0;cases e;exact⟨g,rfl,e3,c6 g (hg g rfl),e4⟩
   have hl:∀ t,t<3->LeftC B w colN t (M t) (x6 dW eW dP eP vb vb' (2+2*t)) (C' t (M t)).1 (C' t (M t)).2/\WereC w colN (x6 dW eW dP eP vb vb' (3+2*t)) (C' t (M t)).1 (szK t) (C' t (M t)).2:=fun t ht=>by
    rw[hCM t];refine⟨⟨(hx t ht).1,j8h hn st t,?_⟩,were t _ (hx t ht).2 ?_⟩
    ·have ht2:t=0\/t=1\/t=2:=by omega
     rcases ht2 with rfl | rfl | rfl
     ·intro g hg;have hg2:dW.ownBlock=some g:=hg;rw[ob1] at hg2;cases hg2;rw[hcN,M0.1];exact if_pos rfl
     ·intro g hg;have hg2:dP.ownBlock=some g:=hg;rw[ob2] at hg2;cases hg2;rw[hcN,M0.2.1]
      show (if gp=gw then _ else if gp=gp then _ else _)=100+3*N0+1
      rw[if_neg (by omega),if_pos rfl]
     ·intro g hg;have hg2:vb.ownBlock=some g:=hg;have:=l2 g hg2;rw[hcN,M0.2.2]
      show (if g=gw then _ else if g=gp then _ else if vb.ownBlock=some g then _ else _)=100+3*N2+2
      rw[if_neg (by omega),if_neg (by omega),if_pos hg2]
    ·have ht2:t=0\/t=1\/t=2:=by omega
     rcases ht2 with rfl | rfl | rfl
     ·intro g hg;have hg2:eW.ownBlock=some g:=hg;rw[ob3] at hg2;cases hg2;exact b6
     ·intro g hg;have hg2:eP.ownBlock=some g:=hg;rw[ob4] at hg2;cases hg2;exact b8
     ·intro g hg;exact(b10 g hg).1
   have r:=q8n (x:=x6 dW eW dP eP vb vb') (h0:=h0) (h1:=h1) (h2:=h2) (h3:=h3) (h4:=h4) (h5:=h5) (h6:=h6) (h7:=h7) (sr:=sr) kk hl hMl M0 hfew;refine Calls.mono r ?_;rintro e w' ⟨rfl,V',X',col',r1,r2,r3,r4⟩;refine⟨rfl,col',⟨V',X',C',p,N0+1,N2+1,F0,F1,F2,r1,⟨⟨?_,?_,?_,?_,?_,?_⟩,?_,?_,?_⟩,by omega,by rw[(r3 0 (by omega)).1,(r3 1 (by omega)).1];exact k4,k5⟩,?_⟩
   ·rw[r2 2 (by omega) (by omega),q2]
   ·rw[r2 3 (by omega) (by omega),q3]
   ·rw[r2 4 (by omega) (by omega),q4]
   ·rw[r2 5 (by omega) (by omega),q5]
   ·rw[r2 6 (by omega) (by omega),q6]
   ·rw[r2 7 (by omega) (by omega),q7]
   ·rw[(r3 8 (by omega)).2,(r3 11 (by omega)).2];exact q8
   ·rw[(r3 9 (by omega)).2,(r3 12 (by omega)).2];exact q9
   ·rw[(r3 10 (by omega)).2,(r3 13 (by omega)).2];exact q10
   ·exact((((Fix.refl col w0).re (c2:=colN) fun k hk h7=>by rw[hag k hk];exact h7).out oo)).trans r4
theorem F5 {w:World} {B n:Nat} {T:TypeId} {v:Value} {xs:List Value} (h:w.ownsRow B T 1 v n xs):∃ a cap,v=.slice a n cap/\(0<n->∃ g,a=some ⟨g,0,none⟩/\∀ (j:Nat) u,xs[j]? = some u->w.cell? ⟨g,j,none⟩=some u):=by
 obtain⟨a,cap,rfl⟩:=Q8 h;refine⟨a,cap,rfl,fun h0=>?_⟩;obtain⟨g,cap',e,hg,_⟩:=h.form h0;cases e;exact⟨g,rfl,fun j u hu=>z4s h hu⟩
theorem j5h {B b:Nat} {w:World} {V:Nat->Value} {X:Nat->List Value} {C:Nat->Nat->Nat × (Nat->Nat->Int)} {col:Nat->Nat} {p:Nat->Nat}
  (h:Kp B w b V X C col none p) (hlen:∀ t,t<3->(X (8+t)).length=(X (11+t)).length/\(X (11+t)).length<=8008) :
  Calls Tryz.prog 91 #[.pointer (some ⟨b,2,none⟩)] w fun e w'=>e=.returned (.bool true)/\Out 0 0 w w':=by
 have HFu:=Z0 h.fl;obtain⟨aS0,cS0,eS,rS0⟩:=F5 (h.own 8 (by omega) (by omega));obtain⟨aM0,cM0,eM,rM0⟩:=F5 (h.own 11 (by omega) (by omega));have z:=h.cell 8 (by omega);have y:=h.cell 11 (by omega);obtain⟨K0,hK0⟩:∃ K,(X 11).length=K:=⟨_,rfl⟩
 have hF:(X 8).length=K0:=(hlen 0 (by omega)).1.trans hK0;have s0:(K0:Int)<=8008:=by have q:(X 11).length<=8008:=(hlen 0 (by omega)).2;omega
 rw[eS,hF] at z;rw[eM,hK0] at y;rw[hF] at rS0;rw[hK0] at rM0;have HZ0:=Z0 z;have HY0:=Z0 y;have HRS0:=Z0 rS0;have HRM0:=Z0 rM0;have HL0:=Z0 (And.intro hF hK0);clear z y rS0 rM0 eS eM hF hK0;obtain⟨aS1,cS1,eS,rS1⟩:=F5 (h.own 9 (by omega) (by omega));obtain⟨aM1,cM1,eM,rM1⟩:=F5 (h.own 12 (by omega) (by omega));have z:=h.cell 9 (by omega);have y:=h.cell 12 (by omega);obtain⟨K1,hK1⟩:∃ K,(X 12).length=K:=⟨_,rfl⟩
 have hF:(X 9).length=K1:=(hlen 1 (by omega)).1.trans hK1;have s1:(K1:Int)<=8008:=by have q:(X 12).length<=8008:=(hlen 1 (by omega)).2;omega
 rw[eS,hF] at z;rw[eM,hK1] at y;rw[hF] at rS1;rw[hK1] at rM1;have HZ1:=Z0 z;have HY1:=Z0 y;have HRS1:=Z0 rS1;have HRM1:=Z0 rM1;have HL1:=Z0 (And.intro hF hK1);clear z y rS1 rM1 eS eM hF hK1;obtain⟨aS2,cS2,eS,rS2⟩:=F5 (h.own 10 (by omega) (by omega));obtain⟨aM2,cM2,eM,rM2⟩:=F5 (h.own 13 (by omega) (by omega));have z:=h.cell 10 (by omega);have y:=h.cell 13 (by omega);obtain⟨K2,hK2⟩:∃ K,(X 13).length=K:=⟨_,rfl⟩
 have hF:(X 10).length=K2:=(hlen 2 (by omega)).1.trans hK2;have s2:(K2:Int)<=8008:=by have q:(X 13).length<=8008:=(hlen 2 (by omega)).2;omega
 rw[eS,hF] at z;rw[eM,hK2] at y;rw[hF] at rS2;rw[hK2] at rM2;have HZ2:=Z0 z;have HY2:=Z0 y;have HRS2:=Z0 rS2;have HRM2:=Z0 rM2;have HL2:=Z0 (And.intro hF hK2);clear z y rS2 rM2 eS eM hF hK2;clear h hlen;go_enter Tryz.func91,Tryz.ntmps91
 go_wp2_with fail;go_loopw [3] (fun y wr=>∃ i:Nat,i<=K0/\y=.int .i64 (i:Int)/\Out 0 0 w wr) (fun y _=>K0-(intOf y).toNat)
 case atStart=>exact⟨0,Nat.zero_le _,rfl,Out.refl 0 0 _⟩
 case round=>
  obtain⟨i,i1,rfl,ho⟩:=hrel;have HO0:=Z0 ho;have d2:=ho.cell HZ0.out z0;have b0:(0:Int)<=(i:Int):=by omega
  by_cases hi:i<K0
  ·have b1:(i:Int)<(K0:Int):=by omega
   obtain⟨gS,rfl,rs⟩:=HRS0.out (by omega);obtain⟨gM,rfl,rm⟩:=HRM0.out (by omega);obtain⟨v,hv⟩:∃ v,(X 8)[i]? = some v:=⟨_,List.getElem?_eq_getElem (by have:=HL0.out.1;omega)⟩
   obtain⟨z,hz⟩:∃ z,(X 11)[i]? = some z:=⟨_,List.getElem?_eq_getElem (by have:=HL0.out.2;omega)⟩
   obtain⟨x,rfl,a,nn,cap,rfl,hn,hr⟩:=HFu.out 0 i v z (by omega) hv hz;have HS0:Hid (∀ w',Out 0 0 w w'->w'.cell? ⟨gS,i,none⟩=some (.slice a nn cap)):=fun w' o=>o.cell (rs i _ hv) z0
   have HM0:Hid (∀ w',Out 0 0 w w'->w'.cell? ⟨gM,i,none⟩=some (.int .i64 (x:Int))):=fun w' o=>o.cell (rm i _ hz) z0
   have HR:=Z0 hr;have d4:=HS0.out wr ho;have n4:(nn:Int)<=1700:=by omega
   have x4:(x:Int)<=2000000:=by omega
   clear ho hr rs rm hv hz hn;go_wp2_with fail;clear d2 d4;go_loopw [4] (fun y wr=>∃ j:Nat,j<=nn/\y=.int .i64 (j:Int)/\Out 0 0 w wr) (fun y _=>nn-(intOf y).toNat)
   case atStart=>exact⟨0,Nat.zero_le _,rfl,HO0.out⟩
   case round=>
    clear HO0;obtain⟨j,j1,rfl,ho⟩:=hrel;have HO4:=Z0 ho;have d2:=ho.cell HZ0.out z0;have d3:=ho.cell HY0.out z0;have d4:=HS0.out wr ho;have d5:=HM0.out wr ho;have a0:(0:Int)<=(j:Int):=by omega
    by_cases hj:j<nn
    ·have a1:(j:Int)<(nn:Int):=by omega
     obtain⟨g,rfl,_,_,hg⟩:=HR.out (by omega);have d6:wr.cell? ⟨g,j,none⟩=some (.int .i64 (x:Int)):=by
      have d:=ho.cell (hg j 0 hj (by decide)) z0;rw[show mkF 0 x 0=(x:Int) from by simp[mkF]] at d;rw[show j*szK 0+0=j from by unfold szK;simp] at d;exact d
     have ex:((x:Int) != (x:Int))=false:=by simp
     clear ho hg;go_wp2_with fail;go_region_held3 (fun w'=>w'.cell? ⟨b,8,none⟩=some (.slice (some ⟨gS,0,none⟩) K0 cS0)/\w'.cell? ⟨gS,i,none⟩=some (.slice (some ⟨g,0,none⟩) nn cap)/\w'.cell? ⟨g,j,none⟩=some (.int .i64 (x:Int))/\w'.cell? ⟨b,11,none⟩=some (.slice (some ⟨gM,0,none⟩) K0 cM0)/\w'.cell? ⟨gM,i,none⟩=some (.int .i64 (x:Int))) (go_keep) (fail)
     all_goals go_wp2
     all_goals go_roundw
     case rel=>exact⟨j+1,by omega,by go_num,HO4.out.drew⟩
     case measure=>simp[intOf];omega
    ·have:nn=j:=by omega
     subst this;clear ho;go_wp2;go_roundw
     case rel=>exact⟨i+1,by omega,by go_num,HO4.out⟩
     case measure=>simp[intOf];omega
  ·have:K0=i:=by omega
   subst this;clear ho hi;go_wp2_with fail;clear d2 b0 i1;go_loopw [5] (fun y wr=>∃ i:Nat,i<=K1/\y=.int .i64 (i:Int)/\Out 0 0 w wr) (fun y _=>K1-(intOf y).toNat)
   case atStart=>exact⟨0,Nat.zero_le _,rfl,HO0.out⟩
   case round=>
    obtain⟨i,i1,rfl,ho⟩:=hrel;have HO1:=Z0 ho;have d2:=ho.cell HZ1.out z0;have b0:(0:Int)<=(i:Int):=by omega
    by_cases hi:i<K1
    ·have b1:(i:Int)<(K1:Int):=by omega
     obtain⟨gS,rfl,rs⟩:=HRS1.out (by omega);obtain⟨gM,rfl,rm⟩:=HRM1.out (by omega);obtain⟨v,hv⟩:∃ v,(X 9)[i]? = some v:=⟨_,List.getElem?_eq_getElem (by have:=HL1.out.1;omega)⟩
     obtain⟨z,hz⟩:∃ z,(X 12)[i]? = some z:=⟨_,List.getElem?_eq_getElem (by have:=HL1.out.2;omega)⟩
     obtain⟨x,rfl,a,nn,cap,rfl,hn,hr⟩:=HFu.out 1 i v z (by omega) hv hz;have HS0:Hid (∀ w',Out 0 0 w w'->w'.cell? ⟨gS,i,none⟩=some (.slice a nn cap)):=fun w' o=>o.cell (rs i _ hv) z0
     have HM0:Hid (∀ w',Out 0 0 w w'->w'.cell? ⟨gM,i,none⟩=some (.int .i64 (x:Int))):=fun w' o=>o.cell (rm i _ hz) z0
     have HR:=Z0 hr;have d4:=HS0.out wr ho;have n4:(nn:Int)<=1700:=by omega
     have x4:(x:Int)<=2000000:=by omega
     clear ho hr rs rm hv hz hn;go_wp2_with fail;clear d2 d4;go_loopw [6] (fun y wr=>∃ j:Nat,j<=nn/\y=.int .i64 (j:Int)/\Out 0 0 w wr) (fun y _=>nn-(intOf y).toNat)
     case atStart=>exact⟨0,Nat.zero_le _,rfl,HO1.out⟩
     case round=>
      clear HO1;obtain⟨j,j1,rfl,ho⟩:=hrel;have HO4:=Z0 ho;have d2:=ho.cell HZ1.out z0;have d3:=ho.cell HY1.out z0;have d4:=HS0.out wr ho;have d5:=HM0.out wr ho;have a0:(0:Int)<=(j:Int):=by omega
      by_cases hj:j<nn
      ·have a1:(j:Int)<(nn:Int):=by omega
       obtain⟨g,rfl,_,_,hg⟩:=HR.out (by omega);have d6:wr.cell? ⟨g,j*3,none⟩=some (.int .i64 (x:Int)):=by
        have d:=ho.cell (hg j 0 hj (by decide)) z0;rw[show mkF 1 x 0=(x:Int) from by simp[mkF]] at d;exact d
       have ex:((x:Int) != (x:Int))=false:=by simp
       clear ho hg;go_wp2_with fail;go_region_held3 (fun w'=>w'.cell? ⟨b,9,none⟩=some (.slice (some ⟨gS,0,none⟩) K1 cS1)/\w'.cell? ⟨gS,i,none⟩=some (.slice (some ⟨g,0,none⟩) nn cap)/\w'.cell? ⟨g,j*3,none⟩=some (.int .i64 (x:Int))/\w'.cell? ⟨b,12,none⟩=some (.slice (some ⟨gM,0,none⟩) K1 cM1)/\w'.cell? ⟨gM,i,none⟩=some (.int .i64 (x:Int))) (go_keep) (fail)
       all_goals go_wp2
       all_goals go_roundw
       case rel=>exact⟨j+1,by omega,by go_num,HO4.out.drew⟩
       case measure=>simp[intOf];omega
      ·have:nn=j:=by omega
       subst this;clear ho;go_wp2;go_roundw
       case rel=>exact⟨i+1,by omega,by go_num,HO4.out⟩
       case measure=>simp[intOf];omega
    ·have:K1=i:=by omega
     subst this;clear ho hi;go_wp2_with fail;clear d2 b0 i1;go_loopw [7] (fun y wr=>∃ i:Nat,i<=K2/\y=.int .i64 (i:Int)/\Out 0 0 w wr) (fun y _=>K2-(intOf y).toNat)
     case atStart=>exact⟨0,Nat.zero_le _,rfl,HO1.out⟩
     case round=>
      obtain⟨i,i1,rfl,ho⟩:=hrel;have HO2:=Z0 ho;have d2:=ho.cell HZ2.out z0;have b0:(0:Int)<=(i:Int):=by omega
      by_cases hi:i<K2
      ·have b1:(i:Int)<(K2:Int):=by omega
       obtain⟨gS,rfl,rs⟩:=HRS2.out (by omega);obtain⟨gM,rfl,rm⟩:=HRM2.out (by omega);obtain⟨v,hv⟩:∃ v,(X 10)[i]? = some v:=⟨_,List.getElem?_eq_getElem (by have:=HL2.out.1;omega)⟩
       obtain⟨z,hz⟩:∃ z,(X 13)[i]? = some z:=⟨_,List.getElem?_eq_getElem (by have:=HL2.out.2;omega)⟩
       obtain⟨x,rfl,a,nn,cap,rfl,hn,hr⟩:=HFu.out 2 i v z (by omega) hv hz;have HS0:Hid (∀ w',Out 0 0 w w'->w'.cell? ⟨gS,i,none⟩=some (.slice a nn cap)):=fun w' o=>o.cell (rs i _ hv) z0
       have HM0:Hid (∀ w',Out 0 0 w w'->w'.cell? ⟨gM,i,none⟩=some (.int .i64 (x:Int))):=fun w' o=>o.cell (rm i _ hz) z0
       have HR:=Z0 hr;have d4:=HS0.out wr ho;have n4:(nn:Int)<=1700:=by omega
       have x4:(x:Int)<=2000000:=by omega
       clear ho hr rs rm hv hz hn;go_wp2_with fail;clear d2 d4;go_loopw [8] (fun y wr=>∃ j:Nat,j<=nn/\y=.int .i64 (j:Int)/\Out 0 0 w wr) (fun y _=>nn-(intOf y).toNat)
       case atStart=>exact⟨0,Nat.zero_le _,rfl,HO2.out⟩
       case round=>
        clear HO2;obtain⟨j,j1,rfl,ho⟩:=hrel;have HO4:=Z0 ho;have d2:=ho.cell HZ2.out z0;have d3:=ho.cell HY2.out z0;have d4:=HS0.out wr ho;have d5:=HM0.out wr ho;have a0:(0:Int)<=(j:Int):=by omega
        by_cases hj:j<nn
        ·have a1:(j:Int)<(nn:Int):=by omega
         obtain⟨g,rfl,_,_,hg⟩:=HR.out (by omega);have d6:wr.cell? ⟨g,j*5+1,none⟩=some (.int .i64 (x:Int)):=by
          have d:=ho.cell (hg j 1 hj (by decide)) z0;rw[show mkF 2 x 1=(x:Int) from by simp[mkF]] at d;exact d
         have ex:((x:Int) != (x:Int))=false:=by simp
         clear ho hg;go_wp2_with fail;go_region_held3 (fun w'=>w'.cell? ⟨b,10,none⟩=some (.slice (some ⟨gS,0,none⟩) K2 cS2)/\w'.cell? ⟨gS,i,none⟩=some (.slice (some ⟨g,0,none⟩) nn cap)/\w'.cell? ⟨g,j*5+1,none⟩=some (.int .i64 (x:Int))/\w'.cell? ⟨b,13,none⟩=some (.slice (some ⟨gM,0,none⟩) K2 cM2)/\w'.cell? ⟨gM,i,none⟩=some (.int .i64 (x:Int))) (go_keep) (fail)
         all_goals go_wp2
         all_goals go_roundw
         case rel=>exact⟨j+1,by omega,by go_num,HO4.out.drew⟩
         case measure=>simp[intOf];omega
        ·have:nn=j:=by omega
         subst this;clear ho;go_wp2;go_roundw
         case rel=>exact⟨i+1,by omega,by go_num,HO4.out⟩
         case measure=>simp[intOf];omega
      ·have:K2=i:=by omega
       subst this;clear ho hi;go_wp2;go_ret;exact⟨rfl,HO2.out⟩
end Go.Proofs.YtjbbkeoolodeaabGreatDoor
