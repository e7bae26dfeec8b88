import Derived.Test.YtjbbkeoolodeaabGreatDoorB11
namespace Go.Proofs.YtjbbkeoolodeaabGreatDoor
open Go.RowKit
set_option linter.unusedVariables false
set_option maxRecDepth 100000
set_option maxHeartbeats 16000000
set_option linter.unusedSimpArgs false
def TkB (lo hi:Nat) (s:Nat->Nat) (n cap:Nat) (r:Raw) (c:Nat) (v e1 e2:Int) (w':World):Prop:=
 (nxr (r.F c) (64*n) 0 = -1/\∃ p,U2 r.S n 1=some p/\v=((64*p:Nat):Int)/\e1=0/\e2=0/\RawAt w' lo hi s n cap (tpR n r c p)) ∨
 (nxr (r.F c) (64*n) 0 = -1/\U2 r.S n 1=none/\v=0/\e1=20/\e2=0/\RawAt w' lo hi s n cap r) ∨
 (∃ a:Nat,nxr (r.F c) (64*n) 0=a/\a<64*n/\r.F c a=true/\r.W a=Y7 (nxr (r.F c) (64*n) (a+1))/\v=(a:Int)/\e1=0/\e2=0/\RawAt w' lo hi s n cap { r with F:=fun d=>if d=c then upd (r.F c) a false else r.F d }) ∨
 (∃ a:Nat,nxr (r.F c) (64*n) 0=a/\a<64*n/\r.F c a=true/\r.W a ≠ Y7 (nxr (r.F c) (64*n) (a+1))/\v=0/\e1=21/\e2=(a:Int)/\RawAt w' lo hi s n cap r)
def TkR (lo hi:Nat) (s:Nat->Nat) (n cap:Nat) (r:Raw) (k:Nat) (v e1 e2:Int) (w':World):Prop:=
 (∃ p,U2 r.S n k=some p/\v=((64*p:Nat):Int)/\e1=0/\e2=0/\RawAt w' lo hi s n cap { r with S:=setR r.S p k })\/(U2 r.S n k=none/\v=0/\e1=20/\e2=0/\RawAt w' lo hi s n cap r)
section
variable {w w':World} {lo hi n cap:Nat} {s:Nat->Nat} {r:Raw}
theorem TkB.kept {c x y:Nat} {v e1 e2:Int} (h:TkB lo hi s n cap r c v e1 e2 w) (o:Out x y w w') (hd:hi<=x) (hg:4<=x):TkB lo hi s n cap r c v e1 e2 w':=by
 rcases h with ⟨h1,p,h2,h3,h4,h5,h6⟩ | ⟨h1,h2,h3,h4,h5,h6⟩ | ⟨a,h1,h2,h3,h4,h5,h6,h7,h8⟩ | ⟨a,h1,h2,h3,h4,h5,h6,h7,h8⟩
 ·exact .inl ⟨h1,p,h2,h3,h4,h5,h6.kept o (.inl hd) (.inl hg)⟩
 ·exact .inr (.inl ⟨h1,h2,h3,h4,h5,h6.kept o (.inl hd) (.inl hg)⟩)
 ·exact .inr (.inr (.inl ⟨a,h1,h2,h3,h4,h5,h6,h7,h8.kept o (.inl hd) (.inl hg)⟩))
 ·exact .inr (.inr (.inr ⟨a,h1,h2,h3,h4,h5,h6,h7,h8.kept o (.inl hd) (.inl hg)⟩))
theorem TkR.kept {k x y:Nat} {v e1 e2:Int} (h:TkR lo hi s n cap r k v e1 e2 w) (o:Out x y w w') (hd:hi<=x) (hg:4<=x):TkR lo hi s n cap r k v e1 e2 w':=by
 rcases h with ⟨p,h2,h3,h4,h5,h6⟩ | ⟨h2,h3,h4,h5,h6⟩
 ·exact .inl ⟨p,h2,h3,h4,h5,h6.kept o (.inl hd) (.inl hg)⟩
 ·exact .inr ⟨h2,h3,h4,h5,h6.kept o (.inl hd) (.inl hg)⟩
theorem z8t (h:RawAt w lo hi s n cap r) {c:Nat} (hc:c<8) :
  Calls Tryz.prog 97 #[.pointer (some ⟨s 14,0,none⟩),.int .i64 (c:Int)] w fun e w'=>∃ v e1 e2,e=.returned (.tuple #[.int .i64 v,.agg #[.int .i64 e1,.int .i64 e2]])/\TkB lo hi s n cap r c v e1 e2 w'/\Out lo hi w w':=by
 refine(z9q h hc).mono ?_;rintro e w' ⟨⟨h1,h2⟩ | ⟨a,h1,h2,h3,h4,rfl,h6⟩ | ⟨a,h1,h2,h3,h4,rfl,h6⟩,ho⟩
 ·cases hf:U2 r.S n 1 with
  | none=>
   rw[hf] at h2;obtain⟨rfl,h3⟩:=h2;exact⟨_,_,_,rfl,.inr (.inl ⟨h1,hf,rfl,rfl,rfl,h3⟩),ho⟩
  | some p=>
   rw[hf] at h2;obtain⟨rfl,h3⟩:=h2;exact⟨_,_,_,rfl,.inl ⟨h1,p,hf,rfl,rfl,rfl,h3⟩,ho⟩
 ·exact⟨_,_,_,rfl,.inr (.inr (.inl ⟨a,h1,h2,h3,h4,rfl,rfl,rfl,h6⟩)),ho⟩
 ·exact⟨_,_,_,rfl,.inr (.inr (.inr ⟨a,h1,h2,h3,h4,rfl,rfl,rfl,h6⟩)),ho⟩
theorem q2c (h:RawAt w lo hi s n cap r) (k:Nat) (h1:1<=k) (h2:k<=16) :
  Calls Tryz.prog 96 #[.pointer (some ⟨s 14,0,none⟩),.int .i64 (k:Int)] w fun e w'=>∃ v e1 e2,e=.returned (.tuple #[.int .i64 v,.agg #[.int .i64 e1,.int .i64 e2]])/\TkR lo hi s n cap r k v e1 e2 w'/\Out lo hi w w':=by
 refine(q0a h k h1 h2).mono ?_;rintro e w' ⟨h2,ho⟩;cases hf:U2 r.S n k with
 | none=>
  rw[hf] at h2;obtain⟨rfl,h3⟩:=h2;exact⟨_,_,_,rfl,.inr ⟨hf,rfl,rfl,rfl,h3⟩,ho⟩
 | some p=>
  rw[hf] at h2;obtain⟨rfl,h3⟩:=h2;exact⟨_,_,_,rfl,.inl ⟨p,hf,rfl,rfl,rfl,h3⟩,ho⟩
def TkS (lo hi:Nat) (s:Nat->Nat) (n cap:Nat) (r:Raw) (z:Int) (v e1 e2:Int) (w':World):Prop:=
 (32<z/\TkR lo hi s n cap r ((z+63) / 64).toNat v e1 e2 w')\/(z<=32/\TkB lo hi s n cap r (ofV z).toNat v e1 e2 w')
theorem j3d (h:RawAt w lo hi s n cap r) {z:Int} (z1:1<=z) (z2:z<=1024) :
  Calls Tryz.prog 50 #[.pointer (some ⟨s 14,0,none⟩),.int .i64 z] w fun e w'=>∃ v e1 e2,e=.returned (.tuple #[.int .i64 v,.agg #[.int .i64 e1,.int .i64 e2]])/\TkS lo hi s n cap r z v e1 e2 w'/\Out lo hi w w':=by
 have h0:Out 0 0 w (w.alloc (.cells #[.int .i64 0,.int .i64 0] 39)):=(Out.refl 0 0 w).alloc _;have HZ:=Z0 (q1h w);have H0:=Z0 h0;have HQ:=Z0 (fun w' (o:Out 0 0 w w')=>h.quiet o);have HT:Hid (hi<=w.heap.size/\4<=w.heap.size/\n<=4096):=⟨h.top,h.tab.lt,h.n2⟩
 have HP:=Z0 (U5 (z3x z (w.alloc (.cells #[.int .i64 0,.int .i64 0] 39))) (Out.refl 0 0 _));by_cases hz:32<z
 ·obtain⟨k1,k2,k3⟩:=z6f hz z2;obtain⟨k,hk⟩:∃ k,((z+63) / 64).toNat=k:=⟨_,rfl⟩
  rw[hk] at k1 k2 k3;have hpz:J4 z=(k:Int):=by unfold J4;rw[if_pos ⟨hz,z2⟩];omega
  rw[hpz] at HP;have HR:=Z0 (fun w' (o:Out 0 0 w w')=>q2c (h.quiet o) k k1 k2);have b0:(0:Int)<(k:Int):=by omega
  have HE:Hid (32<z/\((z+63) / 64).toNat=k):=⟨hz,hk⟩
  clear h h0 hz hk k3 hpz z1 z2 k1 k2;go_enter Tryz.func50,Tryz.ntmps50
  go_wp2_with (first
   | (go_at_call 95;refine HP.out.mono ?_;rintro e w1 ⟨rfl,ho⟩;have HO1:=Z0 (H0.out.trans ho);have HB1:=Z0 (ho.heap HZ.out z0);clear ho)
   | (go_at_call 96;refine(HR.out _ HO1.out).mono ?_;rintro e w2 ⟨v,e1,e2,rfl,ht,ho⟩;have HT2:=Z0 ht;have HO2:=Z0 ((HO1.out.any lo hi).trans ho);obtain⟨q4,q5,q6,q7⟩:=Z7 (ho.heap HB1.out (.inr HT.out.1));have HB2:=Z0 (ho.heap HB1.out (.inr HT.out.1));clear ht ho))
  refine z3s Tryz.results50 rfl rfl rfl (W7 HB2.out) ⟨v,e1,e2,rfl,.inl ⟨HE.out.1,by rw[HE.out.2];exact HT2.out.kept ((Out.refl w.heap.size (w.heap.size+1) _).set2 (.inl ⟨Nat.le_refl _,Nat.lt_succ_self _⟩) _ _) HT.out.1 HT.out.2.1⟩,HO2.out.set2 (.inr (Nat.le_refl _)) _ _⟩
 ·have hz':z<=32:=by omega
  obtain⟨c0,c7,_⟩:=W9 z1 hz';obtain⟨c,hc⟩:∃ c:Nat,ofV z=c:=⟨(ofV z).toNat,by omega⟩
  have hpz:J4 z=0:=(z7n z1 hz').2;rw[hpz] at HP;have HF:=Z0 (fun w' (o:Out 0 0 w w')=>U5 (q1c z w') o);rw[hc] at HF;have HR:=Z0 (fun w' (o:Out 0 0 w w')=>z8t (h.quiet o) (c:=c) (by omega));have HE:Hid (z<=32/\(ofV z).toNat=c):=⟨hz',by omega⟩
  have HF2:=Z0 (fun w'=>U5 (q1c z w') (Out.refl 0 0 w'));rw[hc] at HF2;clear h h0 hz hz' hpz z1 z2 c0 c7 hc;go_enter Tryz.func50,Tryz.ntmps50
  go_wp2_with (first
   | (go_at_call 95;refine HP.out.mono ?_;rintro e w1 ⟨rfl,ho⟩;have HO1:=Z0 (H0.out.trans ho);have HB1:=Z0 (ho.heap HZ.out z0);clear ho)
   | (go_at_call 98;refine(HF2.out _).mono ?_;rintro e w3 ⟨rfl,ho⟩;have HO3:=Z0 (HO1.out.trans ho);have HB3:=Z0 (ho.heap HB1.out z0);clear ho)
   | (go_at_call 97;refine(HR.out _ HO3.out).mono ?_;rintro e w2 ⟨v,e1,e2,rfl,ht,ho⟩;have HT2:=Z0 ht;have HO2:=Z0 ((HO3.out.any lo hi).trans ho);obtain⟨q4,q5,q6,q7⟩:=Z7 (ho.heap HB3.out (.inr HT.out.1));have HB2:=Z0 (ho.heap HB3.out (.inr HT.out.1));clear ht ho))
  refine z3s Tryz.results50 rfl rfl rfl (W7 HB2.out) ⟨v,e1,e2,rfl,.inr ⟨HE.out.1,by rw[HE.out.2];exact HT2.out.kept ((Out.refl w.heap.size (w.heap.size+1) _).set2 (.inl ⟨Nat.le_refl _,Nat.lt_succ_self _⟩) _ _) HT.out.1 HT.out.2.1⟩,HO2.out.set2 (.inr (Nat.le_refl _)) _ _⟩
theorem q7i (h:RawAt w lo hi s n cap r) (k:Int) (hl:r.last<4611686018427387904) (hl0:0<=r.last) :
  Calls Tryz.prog 52 #[.pointer (some ⟨s 14,0,none⟩),.int .i64 k] w fun e w'=>e=.returned (.int .i64 (if z9w k then r.last+1 else 0))/\RawAt w' lo hi s n cap { r with last:=if z9w k then r.last+1 else r.last }/\Out lo hi w w':=by
 have HN:=Z0 (fun w'=>q2w k w');obtain⟨c0,c1,c2,c3,c4,c5⟩:=h.cells;have f5:=h.cellL;have HS:=Z0 (h.setL (r.last+1));have HW:=Z0 (h.wide (i:=14) (by omega) HS.out.2);have HR:=Z0 h;cases hb:z9w k with
 | true=>
  have e:(decide (1<=k) && decide (k<=11))=true:=hb;rw[e] at HN;simp only[if_true];clear h hb e;go_enter Tryz.func52,Tryz.ntmps52
  go_wp2_with (first | (go_at_call 101;refine Z5 (HN.out _) ?_));go_ret;exact⟨rfl,HS.out.1,HW.out⟩
 | false=>
  have e:(decide (1<=k) && decide (k<=11))=false:=hb;rw[e] at HN;simp only[Bool.false_eq_true,if_false];clear h hb e;go_enter Tryz.func52,Tryz.ntmps52
  go_wp2_with (first | (go_at_call 101;refine Z5 (HN.out _) ?_));go_ret;exact⟨rfl,HR.out,Out.refl _ _ _⟩
end
section
variable {n a:Nat} {st:Sp} {fresh:Bool} {kd z t:Int}
theorem z7f:(V8 n st a fresh kd z t).O=U4 st.O a (kd,z,Q9 st kd,t):=rfl
theorem q4c (hf:W8 kd z=true) (ha:a<64*n):upd (ob n st) a true=ob n (V8 n st a fresh kd z t):=by
 have hk:=J8 hf;have hb:Q7 (kd,z,Q9 st kd,t)=true:=by unfold Q7;simp;omega
 funext i
 unfold upd ob;rw[z7f,q6c];by_cases e:i=a
 ·subst e;rw[if_pos rfl,if_pos rfl,hb];simp[ha]
 ·rw[if_neg e,if_neg e]
theorem q0n (hf:W8 kd z=true):(fun i=>if i=(a:Int) then some (kd,z,Q9 st kd,t) else obM st i)=obM (V8 n st a fresh kd z t):=by
 have hk:=J8 hf;have hb:Q7 (kd,z,Q9 st kd,t)=true:=by unfold Q7;simp;omega
 funext i
 unfold obM;rw[z7f,q6c];by_cases e:i=(a:Int)
 ·subst e;rw[if_pos rfl,Int.toNat_natCast,if_pos rfl,if_pos ⟨by omega,hb⟩];unfold U4;rw[if_pos rfl]
 ·rw[if_neg e];by_cases h0:0<=i
  ·have e2:i.toNat ≠ a:=by omega
   rw[if_neg e2];unfold U4;rw[if_neg e2]
  ·rw[if_neg (by omega),if_neg (by omega)]
theorem z7h (hi:Inv n st) (hf:W8 kd z=true) (ha:a<64*n) (hno:Q7 (st.O a)=false) :
  (if 0<Q9 st kd then (fun i=>if i=Q9 st kd then some (a:Int) else q2m n st i) else q2m n st)=q2m n (V8 n st a fresh kd z t):=by
 have hk:=J8 hf;have hb:Q7 (kd,z,Q9 st kd,t)=true:=by unfold Q7;simp;omega
 have other:∀ x:Int,1<=x->x ≠ Q9 st kd->q2m n (V8 n st a fresh kd z t) x=q2m n st x:=by
  intro x x1 x2;unfold q2m q2e;rw[if_pos x1,if_pos x1];congr 1
  congr 1
  refine congrArg (fun f=>List.find? f (List.range (64*n))) (funext fun i=>?_);rw[z7f];by_cases e:i=a
  ·subst e;rw[hno];unfold U4;rw[if_pos rfl,hb];have:((kd,z,Q9 st kd,t):Blk).2.2.1=Q9 st kd:=rfl;rw[this,beq_eq_false_iff_ne.mpr (fun h=>x2 h.symm)];rfl
  ·unfold U4;rw[if_neg e]
 have low:∀ x:Int,x<1->∀ q:Sp,q2m n q x=none:=by
  intro x hx q;unfold q2m q2e;rw[if_neg (by omega)];rfl
 funext x
 by_cases hn:z9w kd=true
 ·have hs:Q9 st kd=st.last+1:=by unfold Q9;rw[if_pos hn]
  have h0:=hi.last0;rw[if_pos (by omega)];by_cases e:x=Q9 st kd
  ·rw[if_pos e];unfold q2m q2e;rw[if_pos (by omega)];rw[z2l (p:=a) ha]
   ·rfl
   ·rw[z7f];unfold U4;rw[if_pos rfl,hb,e];simp
   ·intro q hq;rw[z7f];unfold U4;rw[if_neg (by omega)];cases hq2:Q7 (st.O q) with
    | false=>rfl
    | true=>
     have:=hi.ser q hq2;rw[Bool.true_and,beq_eq_false_iff_ne];intro e2;cases hn2:z9w (st.O q).1 with
     | true=>have:=(this.1 hn2).2;omega
     | false=>have:=this.2 hn2;omega
  ·rw[if_neg e];by_cases x1:1<=x
   ·exact(other x x1 e).symm
   ·rw[low x (by omega),low x (by omega)]
 ·have hs:Q9 st kd=0:=by unfold Q9;rw[if_neg hn]
  rw[if_neg (by omega)];by_cases x1:1<=x
  ·exact(other x x1 (by omega)).symm
  ·rw[low x (by omega),low x (by omega)]
def x0f (r:Raw) (st:Sp) (kd:Int):Raw:={ r with last:=if z9w kd then st.last+1 else st.last }
theorem j8o {p:Nat} (hi:Inv n st) (hf:W8 kd z=true) (h32:32<z) (hr:U2 st.S n ((z+63) / 64).toNat=some p) :
  enR (x0f { Z6 n st with S:=setR st.S p ((z+63) / 64).toNat } st kd) (64*p) kd z (Q9 st kd) t=Z6 n (V8 n st (64*p) false kd z t):=by
 obtain⟨h1,h2,h3,h4⟩:=z3j (t:=t) hi hf h32 hr;have hp:=G3 hr;refine Raw.eq rfl ?_ ?_ (q4c hf (by omega)) (q0n hf) (z7h hi hf (by omega) h3) rfl
 ·show setR st.S p _=Y0 st (64*p) false z
  unfold Y0;rw[if_pos h32,show 64*p / 64=p from by omega]
 ·funext c
  exact(h2 (c:Int)).symm
theorem j0t (hi:Inv n st) (hf:W8 kd z=true) (h32:z<=32) (ha:fr n st (ofV z) a=true) {c:Nat} (hc:ofV z=c) :
  enR (x0f { Z6 n st with F:=fun d=>if d=c then upd (fr n st (c:Int)) a false else fr n st (d:Int) } st kd) a kd z (Q9 st kd) t=Z6 n (V8 n st a false kd z t):=by
 obtain⟨h1,h2,h3⟩:=z0t (t:=t) hi hf h32 ha;obtain⟨f1,f2,f3,f4⟩:=fr_iff.1 ha;refine Raw.eq rfl ?_ ?_ (q4c hf f1) (q0n hf) (z7h hi hf f1 f4) rfl
 ·show st.S=Y0 st a false z
  unfold Y0;rw[if_neg (by omega)];rfl
 ·funext d
  show (if d=c then upd (fr n st (c:Int)) a false else fr n st (d:Int))=fr n (V8 n st a false kd z t) (d:Int)
  rw[h2];by_cases e:d=c
  ·rw[if_pos e,e]
  ·rw[if_neg e];funext i
   unfold upd;by_cases e2:i=a
   ·rw[if_pos e2,e2];exact h3 _ (by omega)
   ·rw[if_neg e2]
theorem q8t {p:Nat} (hi:Inv n st) (hf:W8 kd z=true) (h32:z<=32) (hr:U2 st.S n 1=some p) {c:Nat} (hc:ofV z=c) (hc8:c<8) :
  enR (x0f (tpR n (Z6 n st) c p) st kd) (64*p) kd z (Q9 st kd) t=Z6 n (V8 n st (64*p) true kd z t):=by
 obtain⟨h1,h2,h3,h4,h5⟩:=z0v (t:=t) hi hf h32 hr;have hF:∀ d:Nat,tpF (Z6 n st) c p d=fr n (V8 n st (64*p) true kd z t) (d:Int):=by
  intro d;funext i
  rw[h2,hc];unfold tpF;by_cases e:i / 64=p
  ·rw[if_pos e];have ez:∀ q:Int,fr n st q i=false:=by
    intro q;cases hh:fr n st q i with
    | false=>rfl
    | true=>
     have:=(fr_iff.1 hh).2.1;rw[e,h5] at this;simp at this
   by_cases e2:d=c
   ·rw[if_pos e2,e2];unfold upd fuR
    show (if i=64*p then false else (fr n st (c:Int) i || (decide (i / 64=p) && K7 (c:Int) (i % 64) && !ob n st i)))=_
    have eo:ob n st i=false:=by rw[z9j hi];exact h3 i e
    rw[ez,eo];by_cases e3:i=64*p
    ·rw[if_pos e3];simp[e3]
    ·rw[if_neg e3];simp[e3,e]
   ·rw[if_neg e2]
    show fr n st (d:Int) i=_
    rw[ez,show decide ((d:Int)=(c:Int))=false from by simp;omega];rfl
  ·rw[if_neg e];by_cases e2:d=c
   ·rw[if_pos e2,e2];unfold upd fuR;rw[if_neg (by omega)]
    show (fr n st (c:Int) i || (decide (i / 64=p) && K7 (c:Int) (i % 64) && !ob n st i))=_
    simp[e]
   ·rw[if_neg e2];rfl
 refine Raw.eq ?_ ?_ (funext hF) (q4c hf (by omega)) (q0n hf) (z7h hi hf (by omega) (h3 _ (by omega))) rfl
 ·show z5b (U9 (z7b n (tp4 (Z6 n st) c p) c) (64*p) (J3 z)) (64*p) (X9 ((64*p:Nat):Int) kd z)=(V8 n st (64*p) true kd z t).W
  have e1:z7b n (tp4 (Z6 n st) c p) c=z8m n ⟨U9 st.W (64*p) 64,Y0 st (64*p) true z,U4 st.O (64*p) (kd,z,Q9 st kd,t),0⟩ (ofV z):=by
   have e2:(tp4 (Z6 n st) c p).F c=fr n ⟨U9 st.W (64*p) 64,Y0 st (64*p) true z,U4 st.O (64*p) (kd,z,Q9 st kd,t),0⟩ (ofV z):=by
    rw[hc];exact hF c
   funext i
   unfold z7b z8m nf;rw[e2];rfl
  rw[e1];rfl
 ·show setC st.S p (c:Int)=Y0 st (64*p) true z
  unfold Y0;rw[if_neg (by omega),if_pos rfl,show 64*p / 64=p from by omega,hc]
end
theorem j0u {lo hi' n cap:Nat} {s:Nat->Nat} {st:Sp} {kd z t v e1 e2:Int} {w':World} (hi:Inv n st) (hf:W8 kd z=true) (h:TkS lo hi' s n cap (Z6 n st) z v e1 e2 w') :
  (e1 ≠ 0/\v=0/\RawAt w' lo hi' s n cap (Z6 n st)/\alF n st kd z t=(0,e1,e2,st)) ∨
  (e1=0/\e2=0/\∃ (a:Nat) (r1:Raw) (st':Sp),v=(a:Int)/\RawAt w' lo hi' s n cap r1/\r1.last=st.last/\a+J3 z<=64*n/\a<64*n/\alF n st kd z t=((a:Int),0,0,st')/\enR (x0f r1 st kd) a kd z (Q9 st kd) t=Z6 n st'/\Inv n st'):=by
 have hz:=J8 hf;unfold alF;rw[if_pos hf];rcases h with ⟨h32,h⟩ | ⟨h32,h⟩
 ·have hpl:K5 n st z=(U2 st.S n ((z+63) / 64).toNat).map fun p=>(64*p,false):=by unfold K5;rw[if_pos h32]
  rw[hpl];rcases h with ⟨p,h2,h3,h4,h5,h6⟩ | ⟨h2,h3,h4,h5,h6⟩
  ·have h2':U2 st.S n ((z+63) / 64).toNat=some p:=h2;obtain⟨t1,t2,t3,t4⟩:=z3j (t:=t) hi hf h32 h2';obtain⟨k1,k2,k3⟩:=z6f h32 hz.2.2.2;right
   refine⟨h4,h5,64*p,_,V8 n st (64*p) false kd z t,h3,h6,rfl,?_,?_,?_,j8o hi hf h32 h2',t1⟩
   ·unfold J3;rw[if_pos h32];omega
   ·omega
   ·rw[h2'];simp only[Option.map_some];rw[if_neg (by omega)]
  ·have h2':U2 st.S n ((z+63) / 64).toNat=none:=h2;left
   rw[h2'];exact⟨by omega,h3,h6,by rw[h4,h5];rfl⟩
 ·obtain⟨c0,c7,cw⟩:=W9 hz.2.2.1 h32;obtain⟨c,hc⟩:∃ c:Nat,ofV z=c:=⟨(ofV z).toNat,by omega⟩
  rw[show (ofV z).toNat=c from by omega] at h;have hroom:J3 z=wN (c:Int):=by unfold J3;rw[if_neg (by omega),hc]
  have hw:=z4l (c:=(c:Int)) (by omega) (by omega);have hFc:(Z6 n st).F c=fr n st (ofV z):=by rw[hc];rfl
  have hpl:K5 n st z=if 0<=nf n st (ofV z) 0 then some ((nf n st (ofV z) 0).toNat,false) else (U2 st.S n 1).map fun p=>(64*p,true):=by unfold K5;rw[if_neg (by omega)]
  rw[hpl];have hnf:nf n st (ofV z) 0=nxr ((Z6 n st).F c) (64*n) 0:=by rw[hFc];rfl
  rcases h with ⟨h1,p,h2,h3,h4,h5,h6⟩ | ⟨h1,h2,h3,h4,h5,h6⟩ | ⟨a,h1,h2,h3,h4,h5,h6,h7,h8⟩ | ⟨a,h1,h2,h3,h4,h5,h6,h7,h8⟩
  ·have h2':U2 st.S n 1=some p:=h2;obtain⟨t1,t2,t3,t4,t5⟩:=z0v (t:=t) hi hf h32 h2';right
   refine⟨h4,h5,64*p,_,V8 n st (64*p) true kd z t,h3,h6,rfl,by omega,by omega,?_,q8t hi hf h32 h2' hc (by omega),t1⟩;rw[hnf,h1,if_neg (by omega),h2'];simp only[Option.map_some];rw[if_neg (by simp)]
  ·have h2':U2 st.S n 1=none:=h2;left
   refine⟨by omega,h3,h6,?_⟩;rw[hnf,h1,if_neg (by omega),h2',h4,h5];rfl
  ·rw[hFc] at h3;obtain⟨t1,t2,t3⟩:=z0t (t:=t) hi hf h32 h3;have hst:=(fr_iff.1 h3).2.2.1;unfold K7 at hst;rw[hc] at hst;simp at hst;right
   refine⟨h6,h7,a,_,V8 n st a false kd z t,h5,h8,rfl,by omega,h2,?_,j0t hi hf h32 h3 hc,t1⟩;rw[hnf,h1,if_pos (by omega)];simp only[Int.toNat_natCast];rw[if_neg];rintro⟨_,_,hne⟩;apply hne;unfold nf;rw[<-hFc];exact h4
  ·left
   refine⟨by omega,h5,h8,?_⟩;rw[hnf,h1,if_pos (by omega)];simp only[Int.toNat_natCast];rw[if_pos,h6,h7];refine⟨h32,by simp,?_⟩;unfold nf;rw[<-hFc];exact h4
section
variable {w:World} {lo hi n cap:Nat} {s:Nat->Nat} {st:Sp}
theorem q2p (h:SpAt w lo hi s n cap st) (k z t:Int) (z1:-9223372036854775808<=z) (z2:z<=9223372036854775807) (hl:st.last<4611686018427387904) :
  Calls Tryz.prog 13 #[.pointer (some ⟨s 14,0,none⟩),.int .i64 k,.int .i64 z,.int .i64 t] w fun e w'=>
   e=.returned (.tuple #[.int .i64 (alF n st k z t).1,.agg #[.int .i64 (alF n st k z t).2.1,.int .i64 (alF n st k z t).2.2.1]])/\SpAt w' lo hi s n cap (alF n st k z t).2.2.2/\Out lo hi w w':=by
 obtain⟨hr,hi'⟩:=h;have h0:Out 0 0 w (w.alloc (.cells #[.int .i64 0,.int .i64 0] 39)):=(Out.refl 0 0 w).alloc _;have HZ:=Z0 (q1h w);have H0:=Z0 h0;have HQ:=Z0 (hr.quiet h0);have HT:Hid (hi<=w.heap.size/\4<=w.heap.size/\n<=4096):=⟨hr.top,hr.tab.lt,hr.n2⟩
 have HF:=Z0 (fun w' (hT:Tab w')=>j5g k z hT z1 z2);have HI:=Z0 hi';have HQ2:=Z0 (hr.quiet ((Out.refl 0 0 w).alloc (.cells #[.int .i64 24,.int .i64 0] 39)));have HL:=Z0 (And.intro hl hi'.last0);cases hf:W8 k z with
 | false=>
  have ha:alF n st k z t=(0,24,0,st):=by unfold alF;rw[hf];rfl
  rw[hf] at HF;rw[ha];clear hr h0 hf ha hi' hl z1 z2;go_enter Tryz.func13,Tryz.ntmps13
  go_wp2_with (first
   | (go_at_call 48;refine Z5 (HF.out _ HQ.out.tab) ?_))
  refine z3s Tryz.results13 rfl rfl rfl (heap_alloc_new _ _) ⟨rfl,⟨HQ2.out,HI.out⟩,(((Out.refl 0 0 w).alloc _).any lo hi)⟩
 | true=>
  rw[hf] at HF;have hz:=J8 hf;have HTk:=Z0 (j3d (hr.quiet h0) (z:=z) hz.2.2.1 hz.2.2.2);have HFt:=Z0 hf;clear hr h0 hf hi' hl z1 z2 hz;go_enter Tryz.func13,Tryz.ntmps13
  go_wp2_with (first
   | (go_at_call 48;refine Z5 (HF.out _ HQ.out.tab) ?_)
   | (go_at_call 49;refine Z5 (z0f _ _) ?_))
  refine HTk.out.mono ?_;rintro e w1 ⟨v,e1,e2,rfl,ht,ho⟩;have HO1:=Z0 (ho.alloc (.cells #[.int .i64 e1,.int .i64 e2] 39));obtain⟨q4,q5,q6,q7⟩:=Z7 (HO1.out.heap HZ.out (.inr HT.out.1));rcases j0u (t:=t) HI.out HFt.out ht with ⟨hne,rfl,hr1,hal⟩ | ⟨rfl,rfl,a,r1,st',rfl,hr1,hl1,ha1,ha2,hal,htie,hinv⟩
  ·have HAL:=Z0 hal;have hb:(e1 != 0)=true:=by simp[hne]
   have HR1:=Z0 (hr1.quiet ((Out.refl 0 0 w1).alloc (.cells #[.int .i64 e1,.int .i64 e2] 39)));have qa:=Z7 (heap_alloc_new w1 (.cells #[.int .i64 e1,.int .i64 e2] 39));obtain⟨t4,t5,t6,t7⟩:=qa;have n1:w1.heap.size ≠ w.heap.size:=by have:=ho.size;simp at this;omega
   have n2:=Ne.symm n1;clear ht ho hr1 hal hne HTk;go_wp2_with fail;go_region_with fail
   all_goals (try go_wp2)
   all_goals
    refine z3s Tryz.results13 rfl rfl rfl (W7 (HO1.out.heap HZ.out (.inr HT.out.1))) ?_;rw[HAL.out];exact⟨rfl,⟨(HR1.out.kept ((Out.refl w.heap.size (w.heap.size+1) _).set2 (.inl ⟨Nat.le_refl _,Nat.lt_succ_self _⟩) _ _) (.inl HT.out.1) (.inl HT.out.2.1)).quiet ((Out.refl 0 0 _).drew),HI.out⟩,(((H0.out.any lo hi).trans HO1.out).set2 (.inr (Nat.le_refl _)) _ _).drew⟩
  ·have HAL:=Z0 hal;have HR1:=Z0 (hr1.quiet ((Out.refl 0 0 w1).alloc (.cells #[.int .i64 0,.int .i64 0] 39)));have HN:Hid (Calls Tryz.prog 52 #[.pointer (some ⟨s 14,0,none⟩),.int .i64 k] (w1.alloc (.cells #[.int .i64 0,.int .i64 0] 39)) fun e w'=>e=.returned (.int .i64 (Q9 st k))/\RawAt w' lo hi s n cap (x0f r1 st k)/\Out lo hi (w1.alloc (.cells #[.int .i64 0,.int .i64 0] 39)) w'):=by
    have:=q7i HR1.out k (by rw[hl1];exact HL.out.1) (by rw[hl1];exact HL.out.2);rw[hl1] at this;exact this
   have HTie:=Z0 htie;have HInv:=Z0 hinv;have HA:=Z0 (And.intro ha1 ha2);have hz:=J8 HFt.out;have HE:=Z0 (fun w' (h':RawAt w' lo hi s n cap (x0f r1 st k))=>q9e h' (a:=a) (k:=k) (z:=z) (x:=Q9 st k) (t:=t) hz.2.2.1 hz.2.2.2 ha1 ha2);clear ht ho hr1 hal htie hinv hl1 ha1 ha2 hz HTk;go_wp2_with (first
    | (go_at_call 52;refine HN.out.mono ?_;rintro e w2 ⟨rfl,hr,ho⟩;have HR2:=Z0 hr;have HO2:=Z0 (HO1.out.trans ho);clear hr ho)
    | (go_at_call 51;refine(HE.out _ HR2.out).mono ?_;rintro e w3 ⟨⟨v3,rfl⟩,hr,ho⟩;have HR3:=Z0 hr;have HO3:=Z0 (HO2.out.trans ho);obtain⟨s4,s5,s6,s7⟩:=Z7 ((HO2.out.trans ho).heap HZ.out (.inr HT.out.1));clear hr ho))
   refine z3s Tryz.results13 rfl rfl rfl (W7 (HO3.out.heap HZ.out (.inr HT.out.1))) ?_;rw[HAL.out];have h3:=HR3.out;rw[HTie.out] at h3;exact⟨rfl,⟨h3.kept ((Out.refl w.heap.size (w.heap.size+1) _).set2 (.inl ⟨Nat.le_refl _,Nat.lt_succ_self _⟩) _ _) (.inl HT.out.1) (.inl HT.out.2.1),HInv.out⟩,((H0.out.any lo hi).trans HO3.out).set2 (.inr (Nat.le_refl _)) _ _⟩
end
def drR (n:Nat) (r:Raw) (a:Nat) (z x:Int):Raw:=
 { r with S:=if 32<z then gvS r.S n ((a / 64:Nat):Int) else r.S,P:=upd r.P a false,M:=fun i=>if i=(a:Int) then none else r.M i,R:=fun i=>if i=x then none else r.R i }
section
variable {w:World} {lo hi n cap:Nat} {s:Nat->Nat} {r:Raw}
theorem j6g (M:Int->Option Blk) (a:Int):(fun y=>if y=a then none else z6b M y)=z6b (fun i=>if i=a then none else M i):=by
 funext y
 unfold z6b;by_cases e:y=a
 ·subst e;simp
 ·simp[e]
theorem j5t (R:Int->Option Int) (a:Int):(fun y=>if y=a then none else j2t R y)=j2t (fun i=>if i=a then none else R i):=by
 funext y
 unfold j2t;by_cases e:y=a
 ·subst e;simp
 ·simp[e]
theorem j3q (h:RawAt w lo hi s n cap r) {a:Nat} {k z x t:Int} (z1:1<=z) (z2:z<=1024) (ha:a<64*n) :
  Calls Tryz.prog 116 #[.pointer (some ⟨s 14,0,none⟩),.agg #[.int .i64 (a:Int),.int .i64 k,.int .i64 z,.int .i64 x,.int .i64 t]] w fun e w'=>(∃ v,e=.returned v)/\RawAt w' lo hi s n cap (drR n r a z x)/\Out lo hi w w':=by
 have h0:Out 0 0 w (w.alloc (bo (a:Int) k z x t)):=(Out.refl 0 0 w).alloc _;have hq:=h.quiet h0;have HQ:=Z0 hq;have H0:=Z0 h0;have HBX:Hid ((w.alloc (bo (a:Int) k z x t)).heap[w.heap.size]? = some (bo (a:Int) k z x t)):=heap_alloc_new _ _;have HD:Hid (hi<=w.heap.size/\4<=w.heap.size/\n<=4096/\(s 12<hi/\s 13<hi/\s 10<hi/\s 8+2<=hi/\s 14<hi)/\(s 14<s 12\/s 12+1<=s 14)/\(s 14<s 13\/s 13+1<=s 14)/\(s 14<s 10\/s 10+1<=s 14)/\(s 14<s 8\/s 8+2<=s 14)):=by
  have i12:=h.inn 12 (by omega);have i13:=h.inn 13 (by omega);have i11:=h.inn 10 (by omega);have i8:=h.inn 8 (by omega);have i14:=h.inn 14 (by omega);have a12:=h.apart 12 14 (by omega) (by omega) (by omega);have a13:=h.apart 13 14 (by omega) (by omega) (by omega);have a11:=h.apart 10 14 (by omega) (by omega) (by omega);have a8:=h.apart 8 14 (by omega) (by omega) (by omega);simp[ln] at i12 i13 i11 i8 i14 a12 a13 a11 a8;exact⟨h.top,h.tab.lt,h.n2,by omega,by omega,by omega,by omega,by omega⟩
 have HA:=Z0 ha;have HPg:=Z0 (fun w'=>U5 (z3x z w') (Out.refl 0 0 w'));have b0:(0:Int)<=(a:Int):=by omega
 obtain⟨d0,d1,d2,d3,d4,d5⟩:=hq.cells;obtain⟨q0,q1,q2,q3,q4⟩:=V7 HBX.out;have hqd:=hq.quiet ((Out.refl 0 0 _).drew);obtain⟨wM,hmu,hmM,hoM⟩:=j6v (ty:=0) Tryz.underlying86 Tryz.underlying3 hqd.objs (a:Int);have HRM:=Z0 (hqd.setM (M':=fun i=>if i=(a:Int) then none else r.M i) hoM (by rw[<-j6g];exact hmM));unfold bo at *;clear h h0 hq hqd ha hmM;go_enter Tryz.func116,Tryz.ntmps116
 go_wp2_with fail;refine wp_region_held_drew (S:=fun w'=>w'.cell? ⟨s 14,2,none⟩=some (.map (some (s 12)))/\w'.cell? ⟨w.heap.size,0,none⟩=some (.int .i64 (a:Int))/\w'.cell? ⟨w.heap.size,1,none⟩=some (.int .i64 k)/\w'.cell? ⟨w.heap.size,2,none⟩=some (.int .i64 z)/\w'.cell? ⟨w.heap.size,3,none⟩=some (.int .i64 x)/\w'.cell? ⟨w.heap.size,4,none⟩=some (.int .i64 t)) (by kernel_rfl) ?hS1 (fun hHeld=>?rest1)
 case hS1=>exact⟨d2,q0,q1,q2,q3,q4⟩
 refine tk 0 ?_;refine tk 1 ?_;refine tk 2 ?_;refine tk 3 ?_;refine tk 4 ?_;refine tk 5 ?_;refine rd1 6 fun KK hK=>?_
 simp only[xa,xb,xc];go_simp;refine hK.out _ _ ?hS8 (fun hHeld2=>?rest8)
 case hS8=>exact⟨hoM.cell hHeld.1 (by have:=HD.out;omega),hoM.cell hHeld.2.1 (by have:=HD.out;omega),hoM.cell hHeld.2.2.1 (by have:=HD.out;omega),hoM.cell hHeld.2.2.2.1 (by have:=HD.out;omega),hoM.cell hHeld.2.2.2.2.1 (by have:=HD.out;omega),hoM.cell hHeld.2.2.2.2.2 (by have:=HD.out;omega)⟩
 clear hK KK;replace hHeld:=hHeld2;clear hHeld2;refine dn ?_;clear hHeld;have ho1:Out lo hi (w.alloc (.cells #[.int .i64 (a:Int),.int .i64 k,.int .i64 z,.int .i64 x,.int .i64 t] 97)) wM:=(((Out.refl 0 0 _).drew).any lo hi).trans (HQ.out.quiet ((Out.refl 0 0 _).drew) |>.wide (i:=12) (by omega) hoM);have HO1:=Z0 ho1;have HBM:=Z0 (ho1.heap HBX.out (.inr HD.out.1));clear d0 d1 d2 d3 d4 d5 q0 q1 q2 q3 q4 hmu hoM ho1;obtain⟨d0,d1,d2,d3,d4,d5⟩:=HRM.out.cells;obtain⟨q0,q1,q2,q3,q4⟩:=V7 HBM.out;have hqd:=HRM.out.quiet ((Out.refl 0 0 _).drew);obtain⟨w2,hmu,hmR,hoR⟩:=j6v (ty:=0) Tryz.underlying89 Tryz.underlying3 hqd.sers x;have HR2:=Z0 (hqd.setR (R':=fun i=>if i=x then none else r.R i) hoR (by rw[<-j5t];exact hmR));have ho2:=HO1.out.trans ((((Out.refl 0 0 wM).drew).any lo hi).trans (hqd.wide (i:=13) (by omega) hoR));have HO2:=Z0 ho2;have HB2:=Z0 (ho2.heap HBX.out (.inr HD.out.1));have HRR:=Z0 (HR2.out.quiet ((Out.refl 0 0 _).drew));clear hqd hmR ho2;go_wp2_with fail;refine wp_region_held_drew (S:=fun w'=>w'.cell? ⟨s 14,12,none⟩=some (.map (some (s 13)))/\w'.cell? ⟨w.heap.size,0,none⟩=some (.int .i64 (a:Int))/\w'.cell? ⟨w.heap.size,1,none⟩=some (.int .i64 k)/\w'.cell? ⟨w.heap.size,2,none⟩=some (.int .i64 z)/\w'.cell? ⟨w.heap.size,3,none⟩=some (.int .i64 x)/\w'.cell? ⟨w.heap.size,4,none⟩=some (.int .i64 t)) (by kernel_rfl) ?hS9 (fun hHeld=>?rest9)
 case hS9=>exact⟨d4,q0,q1,q2,q3,q4⟩
 refine tk 0 ?_;refine tk 1 ?_;refine tk 2 ?_;refine tk 3 ?_;refine tk 4 ?_;refine tk 5 ?_;refine rd1 6 fun KK hK=>?_
 simp only[xa,xb,xc];go_simp;refine hK.out _ _ ?hS16 (fun hHeld2=>?rest16)
 case hS16=>exact⟨hoR.cell hHeld.1 (by have:=HD.out;omega),hoR.cell hHeld.2.1 (by have:=HD.out;omega),hoR.cell hHeld.2.2.1 (by have:=HD.out;omega),hoR.cell hHeld.2.2.2.1 (by have:=HD.out;omega),hoR.cell hHeld.2.2.2.2.1 (by have:=HD.out;omega),hoR.cell hHeld.2.2.2.2.2 (by have:=HD.out;omega)⟩
 clear hK KK;replace hHeld:=hHeld2;clear hHeld2;refine dn ?_;clear hHeld;clear d0 d1 d2 d3 d4 d5 q0 q1 q2 q3 q4 hmu hoR;obtain⟨d0,d1,d2,d3,d4,d5⟩:=HR2.out.cells;obtain⟨q0,q1,q2,q3,q4⟩:=V7 HB2.out;go_wp2_with fail;refine wp_region_held_drew (S:=fun w'=>w'.cell? ⟨s 14,3,none⟩=some (.pointer (some ⟨s 8+1,0,none⟩))/\w'.cell? ⟨w.heap.size,0,none⟩=some (.int .i64 (a:Int))/\w'.cell? ⟨w.heap.size,1,none⟩=some (.int .i64 k)/\w'.cell? ⟨w.heap.size,2,none⟩=some (.int .i64 z)/\w'.cell? ⟨w.heap.size,3,none⟩=some (.int .i64 x)/\w'.cell? ⟨w.heap.size,4,none⟩=some (.int .i64 t)) (by kernel_rfl) ?hS17 (fun hHeld=>?rest17)
 case hS17=>exact⟨d3,q0,q1,q2,q3,q4⟩
 refine tk 0 ?_;refine tk 1 ?_;refine tk 2 ?_;refine tk 3 ?_;refine tk 4 ?_;refine tk 5 ?_;refine rd1 6 fun KK hK=>?_
 simp only[xa,xb,xc];go_simp;refine(z7i HRR.out.places (a:Int)).mono ?_;rintro e w3 ⟨rfl,hmp,hop⟩;refine hK.out _ _ ?hS24 (fun hHeld2=>?rest24)
 case hS24=>exact⟨hop.cell hHeld.1 (by have:=HD.out;omega),hop.cell hHeld.2.1 (by have:=HD.out;omega),hop.cell hHeld.2.2.1 (by have:=HD.out;omega),hop.cell hHeld.2.2.2.1 (by have:=HD.out;omega),hop.cell hHeld.2.2.2.2.1 (by have:=HD.out;omega),hop.cell hHeld.2.2.2.2.2 (by have:=HD.out;omega)⟩
 clear hK KK;replace hHeld:=hHeld2;clear hHeld2;refine dn ?_;clear hHeld;have ho3:=HO2.out.trans ((((Out.refl 0 0 w2).drew).any lo hi).trans (HRR.out.wide (i:=8) (by omega) hop));have HR3:=Z0 (HRR.out.setP hop hmp);have HO3:=Z0 ho3;have HB3:=Z0 (ho3.heap HBX.out (.inr HD.out.1));have hPe:Hid (q1r r.P (64*n) (a:Int) false=upd r.P a false):=by
  show _=_
  unfold q1r;rw[if_pos (show inB (64*n) (a:Int)=true from by unfold inB;simp;have:=HA.out;omega)];rfl
 clear d0 d1 d2 d3 d4 d5 q0 q1 q2 q3 q4 hmp hop ho3;obtain⟨d0,d1,d2,d3,d4,d5⟩:=HR3.out.cells;obtain⟨q0,q1,q2,q3,q4⟩:=V7 HB3.out;by_cases hz:32<z
 ·have hpz:0<J4 z:=by unfold J4;rw[if_pos ⟨hz,z2⟩];omega
  have HZ:=Z0 hz;have hPv:=Z0 hpz;generalize J4 z=pv at *
  go_wp2_with (refine(HPg.out _).mono ?_;rintro e w4 ⟨rfl,ho4⟩);have HR4:=Z0 (HR3.out.quiet ho4);have HR4d:=Z0 ((HR3.out.quiet ho4).quiet ((Out.refl 0 0 _).drew));have HB4:=Z0 (ho4.heap HB3.out z0);have HO4:=Z0 (HO3.out.trans (ho4.any lo hi));clear d0 d1 d2 d3 d4 d5 q0 q1 q2 q3 q4 ho4;obtain⟨d0,d1,d2,d3,d4,d5⟩:=HR4.out.cells;obtain⟨q0,q1,q2,q3,q4⟩:=V7 HB4.out;have HQ64:Hid (IntKind.i64.wrap ((a:Int) / 64)=((a / 64:Nat):Int)):=by
   show _=_
   have:=HA.out;have:=HD.out.2.2.1;simp[IntKind.wrap,IntKind.signed,IntKind.bits];omega
  go_wp2_with fail;refine wp_region_held_drew (S:=fun w'=>w'.cell? ⟨s 14,1,none⟩=some (.pointer (some ⟨s 9,0,none⟩))/\w'.cell? ⟨w.heap.size,0,none⟩=some (.int .i64 (a:Int))/\w'.cell? ⟨w.heap.size,1,none⟩=some (.int .i64 k)/\w'.cell? ⟨w.heap.size,2,none⟩=some (.int .i64 z)/\w'.cell? ⟨w.heap.size,3,none⟩=some (.int .i64 x)/\w'.cell? ⟨w.heap.size,4,none⟩=some (.int .i64 t)) (by kernel_rfl) ?hS25 (fun hHeld=>?rest25)
  case hS25=>exact⟨d1,q0,q1,q2,q3,q4⟩
  refine tk 0 ?_;refine tk 1 ?_;refine tk 2 ?_;refine tk 3 ?_;refine tk 4 ?_;refine tk 5 ?_;refine tk 6 ?_;refine rd1 7 fun KK hK=>?_
  simp only[xa,xb,xc];go_simp;(try rw[HQ64.out]);refine(q6h HR4d.out.tbl HR4d.out.tab ((a / 64:Nat):Int)).mono ?_;rintro e w5 ⟨rfl,hmt,hot⟩;refine hK.out _ _ ?hS33 (fun hHeld2=>?rest33)
  case hS33=>exact⟨hot.cell hHeld.1 (by have:=HD.out;omega),hot.cell hHeld.2.1 (by have:=HD.out;omega),hot.cell hHeld.2.2.1 (by have:=HD.out;omega),hot.cell hHeld.2.2.2.1 (by have:=HD.out;omega),hot.cell hHeld.2.2.2.2.1 (by have:=HD.out;omega),hot.cell hHeld.2.2.2.2.2 (by have:=HD.out;omega)⟩
  clear hK KK;replace hHeld:=hHeld2;clear hHeld2;refine dn ?_;clear hHeld;go_wp2;have HR5:=HR4d.out.setT hot hmt;refine bodyPost_end (results_none Tryz.results116 _ _ _) rfl ⟨⟨_,rfl⟩,HR5.congr ?_,((H0.out.any lo hi).trans HO4.out).trans ((((Out.refl 0 0 _).drew).any lo hi).trans (HR4d.out.wide (i:=10) (by omega) hot))⟩;refine Raw.eq rfl ?_ rfl ?_ rfl rfl rfl
  ·show _=if 32<z then _ else _;rw[if_pos HZ.out]
  ·exact hPe.out
 ·have hpz:J4 z=0:=by unfold J4;rw[if_neg (by omega)]
  have HZ:=Z0 hz;rw[hpz] at HPg;clear hpz hz;go_wp2_with (refine(HPg.out _).mono ?_;rintro e w4 ⟨rfl,ho4⟩);go_wp2;refine bodyPost_end (results_none Tryz.results116 _ _ _) rfl ⟨⟨_,rfl⟩,(HR3.out.quiet ho4).congr ?_,((H0.out.any lo hi).trans HO3.out).trans (ho4.any lo hi)⟩;refine Raw.eq rfl ?_ rfl ?_ rfl rfl rfl
  ·show _=if 32<z then _ else _;rw[if_neg (by have:=HZ.out;omega)]
  ·exact hPe.out
end
section
variable {w:World} {lo hi n cap:Nat} {s:Nat->Nat} {r:Raw}
theorem j1k (h:RawAt w lo hi s n cap r) {p:Nat} (hp:p<n) :
  Calls Tryz.prog 148 #[.pointer (some ⟨s 14,0,none⟩),.int .i64 (p:Int)] w fun e w'=>e=.returned (.bool (z6o r.P (64*p) (64*p+64) == 0))/\Out 0 0 w w':=by
 have HD:Hid (n<=4096/\p<n):=⟨h.n2,hp⟩
 obtain⟨d0,d1,d2,d3,d4,d5⟩:=h.cells;have HP:=Z0 h.places;have HW1:Hid (wrap64 ((p:Int)*64)=((64*p:Nat):Int)):=by show _=_;have:=HD.out;unfold wrap64;omega
 have HW2:Hid (wrap64 (((64*p:Nat):Int)+64)=((64*p+64:Nat):Int)):=by show _=_;have:=HD.out;unfold wrap64;omega
 have HC:=Z0 (z8s HP.out ((64*p:Nat):Int) ((64*p+64:Nat):Int) (by have:=HD.out;omega));have HE:Hid (z6o r.P (((64*p:Nat):Int)).toNat (min ((64*p+64:Nat):Int) ((64*n:Nat):Int)).toNat=z6o r.P (64*p) (64*p+64)):=by
  show _=_
  congr 1
  have:=HD.out;omega
 clear h hp;go_enter Tryz.func148,Tryz.ntmps148
 go_wp2_with (rw[HW1.out,HW2.out];refine HC.out.mono ?_;rintro e w2 ⟨rfl,ho⟩;rw[HE.out]);go_ret;exact⟨K8 (by rw[Bool.eq_iff_iff];simp),ho⟩
end
end Go.Proofs.YtjbbkeoolodeaabGreatDoor
