import Derived.Test.YtjbbkeoolodeaabGreatDoorB35
namespace Go.Proofs.YtjbbkeoolodeaabGreatDoor
open Go.RowKit
set_option linter.unusedVariables false
set_option maxRecDepth 100000
set_option maxHeartbeats 16000000
set_option linter.unusedSimpArgs false
section
variable {w w':World} {lo hi n cw co:Nat} {s:Nat->Nat} {st:Sp}
theorem RfAt.apart (h:RfAt w lo hi s n cw co st) {i j:Nat} (hi':i<5) (hj:j<5) (hne:i ≠ j):s i<s j\/s j+1<=s i:=by
 have:s i ≠ s j:=fun e=>hne (h.ne i j hi' hj e)
 omega
theorem RfAt.setT (h:RfAt w lo hi s n cw co st) {S':Nat->Int × Int × Int} (ht:TblAt 130 w' (s 2) (s 3) n S') (o:Out (s 3) (s 3+1) w w'):RfAt w' lo hi s n cw co { st with S:=S' }/\Out lo hi w w':=by
 have h3:=h.inn 3 (by omega);exact⟨⟨h.n1,h.n2,Nat.le_trans h.top o.size,h.glob,h.inn,h.ne,o.heap h.box (h.apart (by omega) (by omega) (by omega)),h.rw.kept o (h.apart (by omega) (by omega) (by omega)),ht,h.ro.kept o (h.apart (by omega) (by omega) (by omega))⟩,o.wide h3.1 (by omega)⟩
theorem RfAt.setL (h:RfAt w lo hi s n cw co st) (x:Int):RfAt (w.setCell ⟨s 0,3,none⟩ (.int .i64 x)) lo hi s n cw co { st with last:=x }/\Out lo hi w (w.setCell ⟨s 0,3,none⟩ (.int .i64 x)):=by
 have o:Out (s 0) (s 0+1) w (w.setCell ⟨s 0,3,none⟩ (.int .i64 x)):=(Out.refl _ _ _).setCell (p:=⟨s 0,3,none⟩) z1 _;have h0:=h.inn 0 (by omega);refine⟨⟨h.n1,h.n2,Nat.le_trans h.top o.size,h.glob,h.inn,h.ne,?_,h.rw.kept o (h.apart (by omega) (by omega) (by omega)),h.rt.kept o (h.apart (by omega) (by omega) (by omega)) (h.apart (by omega) (by omega) (by omega)),h.ro.kept o (h.apart (by omega) (by omega) (by omega))⟩,o.wide h0.1 (by omega)⟩;simp[World.setCell,Array.getElem?_modify,h.box]
def j1p (w:World) (b a:Nat) (x0 x1 x2 x3 x4:Int):World:=((((w.setCell ⟨b,a*5,none⟩ (.int .i64 x0)).setCell ⟨b,a*5+1,none⟩ (.int .i64 x1)).setCell ⟨b,a*5+2,none⟩ (.int .i64 x2)).setCell ⟨b,a*5+3,none⟩ (.int .i64 x3)).setCell ⟨b,a*5+4,none⟩ (.int .i64 x4)
theorem q0c (w:World) (b a:Nat) (x0 x1 x2 x3 x4:Int):Out b (b+1) w (j1p w b a x0 x1 x2 x3 x4):=by
 unfold j1p;have hb:∀ j,(b<=(⟨b,j,none⟩:Addr).block/\(⟨b,j,none⟩:Addr).block<b+1):=fun j=>⟨Nat.le_refl _,Nat.lt_succ_self _⟩
 exact(((((Out.refl b (b+1) w).setCell (.inl (hb _)) _).setCell (.inl (hb _)) _).setCell (.inl (hb _)) _).setCell (.inl (hb _)) _).setCell (.inl (hb _)) _
theorem q1s (st:Sp) {st':Sp} {j:Nat} (e:st'.O (j / 5)=st.O (j / 5)):obC st' j=obC st j:=by unfold obC;rw[e]
theorem RfAt.setO (h:RfAt w lo hi s n cw co st) {a:Nat} (ha:a<64*n) {k z x t:Int} (hk:k ≠ 0):RfAt (j1p w (s 4) a (a:Int) k z x t) lo hi s n cw co { st with O:=U4 st.O a (k,z,x,t) }/\Out lo hi w (j1p w (s 4) a (a:Int) k z x t):=by
 have o:=q0c w (s 4) a (a:Int) k z x t;have h4:=h.inn 4 (by omega);refine⟨⟨h.n1,h.n2,Nat.le_trans h.top o.size,h.glob,h.inn,h.ne,o.heap h.box (h.apart (by omega) (by omega) (by omega)),h.rw.kept o (h.apart (by omega) (by omega) (by omega)),h.rt.kept o (h.apart (by omega) (by omega) (by omega)) (h.apart (by omega) (by omega) (by omega)),?_⟩,o.wide h4.1 (by omega)⟩;unfold j1p;refine(((((h.ro.set (a*5) (.int .i64 (a:Int))).set (a*5+1) (.int .i64 k)).set (a*5+2) (.int .i64 z)).set (a*5+3) (.int .i64 x)).set (a*5+4) (.int .i64 t)).congr fun j _=>?_
 have hb:Q7 (U4 st.O a (k,z,x,t) a)=true:=by unfold U4 Q7;rw[if_pos rfl];simpa using hk
 obtain⟨o0,o1,o2,o3,o4⟩:=q2o (st:={ st with O:=U4 st.O a (k,z,x,t) }) (a:=a) hb;have hp:U4 st.O a (k,z,x,t) a=(k,z,x,t):=by unfold U4;rw[if_pos rfl]
 dsimp only at o1 o2 o3 o4;rw[hp] at o1 o2 o3 o4;by_cases e4:j=a*5+4
 ·rw[if_pos e4,e4,o4]
 rw[if_neg e4];by_cases e3:j=a*5+3
 ·rw[if_pos e3,e3,o3]
 rw[if_neg e3];by_cases e2:j=a*5+2
 ·rw[if_pos e2,e2,o2]
 rw[if_neg e2];by_cases e1:j=a*5+1
 ·rw[if_pos e1,e1,o1]
 rw[if_neg e1];by_cases e0:j=a*5
 ·rw[if_pos e0,e0,o0]
 rw[if_neg e0];have:j / 5 ≠ a:=by omega
 rw[q1s st (st':={ st with O:=U4 st.O a (k,z,x,t) })]
 show U4 st.O a (k,z,x,t) (j / 5)=_
 unfold U4;rw[if_neg this]
end
def lkT (n:Nat) (st:Sp) (c:Int) (b:Nat):Nat->Int:=fun j=>if j<b/\fr n st c j=true then Y7 (nf n st c (j+1)) else st.W j
section
variable {n p:Nat} {st:Sp} {c:Int}
theorem q8y {b:Nat} (h:∀ j,fr n st c j=true->j<b):lkT n st c b=z8m n st c:=by
 funext j
 unfold lkT z8m;cases hf:fr n st c j with
 | true=>rw[if_pos ⟨h j hf,rfl⟩,if_pos rfl]
 | false=>rw[if_neg (fun q=>by cases q.2),if_neg (by simp)]
theorem q1t {b:Nat} (h:∀ j,j<b->fr n st c j=false):lkT n st c b=st.W:=by
 funext j
 unfold lkT;rw[if_neg (fun q=>by rw[h j q.1] at q;cases q.2)]
theorem q6u {a b:Nat} (hab:a<b) (ha:fr n st c a=true) (h:∀ j,a<j->j<b->fr n st c j=false):z5b (lkT n st c a) a (Y7 (nf n st c (a+1)))=lkT n st c b:=by
 funext j
 unfold z5b lkT;by_cases e:j=a
 ·rw[if_pos e,e,if_pos ⟨hab,ha⟩]
 ·rw[if_neg e];by_cases h1:j<a
  ·by_cases hf:fr n st c j=true
   ·rw[if_pos ⟨h1,hf⟩,if_pos ⟨by omega,hf⟩]
   ·rw[if_neg (fun q=>hf q.2),if_neg (fun q=>hf q.2)]
  ·rw[if_neg (fun q=>h1 q.1),if_neg (fun q=>by rw[h j (by omega) q.1] at q;cases q.2)]
structure Fresh (n p:Nat) (st:Sp) (c:Int):Prop where
 inn:∀ j,fr n st c j=true->64*p<j/\j<64*p+64
 all:∀ i,1<=i->(i+1)*wN c<=64->fr n st c (64*p+i*wN c)=true
theorem Fresh.last (h:Fresh n p st c) (h0:0<=c) (h7:c<=7) {B:Nat} (h1:B*wN c<=64) (h2:64<(B+1)*wN c) (j:Nat) (hj:fr n st c j=true):j<64*p+B*wN c:=by
 by_cases q:j<64*p+B*wN c
 ·exact q
 ·rw[q3j h0 h7 h2 (by omega) (h.inn j hj).2] at hj;cases hj
theorem Fresh.first (h:Fresh n p st c) (h0:0<=c) (h7:c<=7) (hw:wN c<=64) (j:Nat) (hj:j<64*p+1*wN c):fr n st c j=false:=by
 by_cases q:64*p<j
 ·exact z2v h0 h7 (p:=p) (i:=0) (by omega) (by omega) (by omega)
 ·cases hf:fr n st c j with
  | false=>rfl
  | true=>exact absurd (h.inn j hf).1 q
theorem Fresh.next (h:Fresh n p st c) (h0:0<=c) (h7:c<=7) (hp:p<n) {B i:Nat} (h1:B*wN c<=64) (h2:64<(B+1)*wN c) (i1:1<=i) (iB:i<B):nf n st c (64*p+i*wN c+1)=if i+1<B then ((64*p+(i+1)*wN c:Nat):Int) else -1:=by
 have hw:=z4l h0 h7;have hm:(i+1)*wN c<=B*wN c:=Nat.mul_le_mul_right _ iB;have hs:(i+1)*wN c=i*wN c+wN c:=Nat.succ_mul i (wN c);by_cases e:i+1<B
 ·rw[if_pos e];have hm2:(i+2)*wN c<=B*wN c:=Nat.mul_le_mul_right _ e;exact x0z (by omega) (h.all (i+1) (by omega) (Nat.le_trans hm2 h1)) fun j j1 j2=>z2v h0 h7 (p:=p) (i:=i) (by omega) (by omega) (by omega)
 ·rw[if_neg e];obtain rfl:B=i+1:=by omega
  refine x2e (by omega) fun j j1 j2=>?_
  cases hf:fr n st c j with
  | false=>rfl
  | true=>
   have:=h.last h0 h7 h1 h2 j hf;rw[z2v h0 h7 (p:=p) (i:=i) (by omega) (by omega) (by omega)] at hf;cases hf
theorem q8j (hI:Inv n st) (hc0:0<=c) (hc7:c<=7) (hnf:¬ 0<=nf n st c 0) (hr:U2 st.S n 1=some p) {b:Blk} (hb:Q7 b=true) (W:Nat->Int) (l:Int):Fresh n p ⟨W,setC st.S p c,U4 st.O (64*p) b,l⟩ c:=by
 obtain⟨p1,p2,p3⟩:=z0u hI.good hr;have hS:=p3 p (Nat.le_refl _) (by omega);have hno:∀ j,fr n st c j=false:=fun j=>by
  unfold nf at hnf;rcases Q1 (fr n st c) (64*n) 0 with ⟨_,h⟩ | ⟨i,e,_⟩
  ·by_cases hj:j<64*n
   ·exact h j (Nat.zero_le _) hj
   ·unfold fr;rw[show decide (j<64*n)=false from by simpa using hj];rfl
  ·rw[e] at hnf;omega
 have hobj:∀ j,j / 64=p->Q7 (st.O j)=false:=fun j hj=>by
  cases hh:Q7 (st.O j) with
  | false=>rfl
  | true=>
   have:=(hI.objs j hh).page.2;rw[hj,hS] at this;rcases this with e | e <;> cases e
 constructor
 ·intro j hf;obtain⟨f1,f2,f3,f4⟩:=fr_iff.1 hf;have f2':setC st.S p c (j / 64)=(1,c,0):=f2;have f4':Q7 (U4 st.O (64*p) b j)=false:=f4;by_cases e:j / 64=p
  ·have hne:j ≠ 64*p:=fun q=>by
    rw[q] at f4';unfold U4 at f4';rw[if_pos rfl,hb] at f4';cases f4'
   omega
  ·exfalso
   unfold setC at f2';rw[if_neg e] at f2';unfold U4 at f4';rw[if_neg (by omega)] at f4';have:=fr_iff.2 ⟨f1,f2',f3,f4'⟩;rw[hno j] at this;cases this
 ·intro i i1 i2;have hw:=z4l hc0 hc7;have hs:(i+1)*wN c=i*wN c+wN c:=Nat.succ_mul i (wN c);have hi1:1*wN c<=i*wN c:=Nat.mul_le_mul_right _ i1;refine fr_iff.2 ⟨by omega,?_,?_,?_⟩
  ·show setC st.S p c ((64*p+i*wN c) / 64)=_
   unfold setC;rw[if_pos (by omega)]
  ·rw[show (64*p+i*wN c) % 64=i*wN c from by omega];unfold K7;simp only[Bool.and_eq_true,decide_eq_true_eq];exact⟨Nat.mul_mod_left _ _,by omega⟩
  ·show Q7 (U4 st.O (64*p) b (64*p+i*wN c))=false
   unfold U4;rw[if_neg (by omega)];exact hobj _ (by omega)
end
end Go.Proofs.YtjbbkeoolodeaabGreatDoor
