import Derived.Test.YtjgnogflgoihfaaGreatDoorP03
import Derived.WalkSmall
namespace Go.Proofs.YtjgnogflgoihfaaGreatDoor
open Go.RowKit
set_option linter.unusedVariables false
set_option maxRecDepth 100000
set_option maxHeartbeats 16000000
set_option linter.unusedSimpArgs false
theorem j3k (w:World):(zeroValue 81).run Tryz.prog w=.ok (.agg #[.int .i64 0,.int .i64 0,.int .i64 0,.int .i64 0,.int .i64 0]) w:=by kernel_rfl
theorem x1x (w:World):(zeroValue 3).run Tryz.prog w=.ok (.int .i64 0) w:=by kernel_rfl
theorem x4e (a b c d e:Int):(Tryz.prog.info? 81).map (·.size)=some (#[Value.int .i64 a,.int .i64 b,.int .i64 c,.int .i64 d,.int .i64 e]).size:=by
 rw[show (#[Value.int .i64 a,.int .i64 b,.int .i64 c,.int .i64 d,.int .i64 e]).size=5 from rfl];kernel_rfl
theorem x4f (a b:Int):(Tryz.prog.info? 46).map (·.size)=some (#[Value.int .i64 a,.int .i64 b]).size:=by
 rw[show (#[Value.int .i64 a,.int .i64 b]).size=2 from rfl];kernel_rfl
def z7t (e a:Int):Value:=.agg #[.int .i64 e,.int .i64 a]
theorem z7j {fn:Func} {p u:Tmp} {a:Act} {w:World} {g:Nat} {x1 x2 x3 x4 x5:Int} {v:Value} {post:Ending->World->Prop} (hr:fn.results = #[.cell p 81,.tmp u]) (hp:a.tmps.getD p undef=.pointer (some ⟨g,0,none⟩)) (hu:a.tmps.getD u undef=v)
  (hd:a.defers=[]) (hg:w.heap[g]? = some (.cells #[.int .i64 x1,.int .i64 x2,.int .i64 x3,.int .i64 x4,.int .i64 x5] 81 (0,0))) (h:post (.returned (.tuple #[.agg #[.int .i64 x1,.int .i64 x2,.int .i64 x3,.int .i64 x4,.int .i64 x5],v])) w):bodyPost Tryz.prog fn post Exit.ret a w:=by
 refine bodyPost_ret (v:=.tuple #[.agg #[.int .i64 x1,.int .i64 x2,.int .i64 x3,.int .i64 x4,.int .i64 x5],v]) ?_ hd h;rw[results_cell_tmp hr,hp];simp[asAddr,run_loadVar_row w g 81 81 _ (0,0) _ hg Tryz.underlying81 rfl (x4e x1 x2 x3 x4 x5),Result.andThen];simpa using hu
theorem z4x {fn:Func} {p:Tmp} {a:Act} {w:World} {g:Nat} {x1 x2:Int} {post:Ending->World->Prop} (hr:fn.results = #[.cell p 46]) (hp:a.tmps.getD p undef=.pointer (some ⟨g,0,none⟩))
  (hd:a.defers=[]) (hg:w.heap[g]? = some (.cells #[.int .i64 x1,.int .i64 x2] 46 (0,0))) (h:post (.returned (z7t x1 x2)) w):bodyPost Tryz.prog fn post Exit.ret a w:=
 bodyPost_ret (v:=z7t x1 x2) (results_cell_row hr a.tmps _ g 46 _ (0,0) _ hp hg Tryz.underlying46 rfl (x4f x1 x2)) hd h
theorem Out.drewN {lo hi:Nat} {a w:World} (h:Out lo hi a w) (m:Nat):Out lo hi a (w.drewN m):=⟨h.1,h.2.1,h.2.2.1,h.size,h.2.2.2.2⟩
theorem J3 {w:World} {o o2:Obj}:((w.alloc o).alloc o2).heap[w.heap.size]? = some o:=by
 rw[Below.heap_alloc _ _ _ (by simp)];exact heap_alloc_new _ _
theorem z2t (b:Nat) (w:World):Kz 85 #[Pq b] w fun e w'=>e=.returned (Pq b)/\w'=w:=by
 go_enter Tryz.func85,Tryz.ntmps85
 go_wp2;go_ret;exact⟨rfl,rfl⟩
section
variable {w:World} {lo hi n cap:Nat} {s:Nat->Nat} {r:Raw}
theorem q0n (h:RawAt w lo hi s n cap r):Kz 135 #[Pq (s 14)] w fun e w'=>e=.returned (Iz ((64*n:Nat):Int))/\w'=w:=by
 obtain⟨c0,c1,c2,c3,c4,c5⟩:=h.cells;clear h;go_enter Tryz.func135,Tryz.ntmps135
 go_wp2_with (go_at_call 85;refine Q4 (z2t _ _) ?_);go_ret;exact⟨rfl,rfl⟩
theorem q6g (h:RawAt w lo hi s n cap r) (a:Int):Kz 103 #[Pq (s 14),Iz a] w fun e w'=>e=.returned (.bool (inB (64*n) a))/\w'=w:=by
 have HW:=Q3 (q0n h);have h2:=h.n2;generalize 64*n=m at *
 clear h;unfold inB;by_cases h0:0<=a
 ·go_enter Tryz.func103,Tryz.ntmps103
  go_wp2_with (go_at_call 135;refine Q4 HW.out ?_);go_ret;exact⟨B7 (by simp[h0]),rfl⟩
 ·have h0':a<0:=by omega
  go_enter Tryz.func103,Tryz.ntmps103
  go_wp2_with (go_at_call 135;refine Q4 HW.out ?_);go_ret;exact⟨B7 (by simp[h0];try omega),rfl⟩
def z3f (n:Nat) (W:Nat->Int) (a:Int):Int:=if inB (64*n) a then W a.toNat else 0
theorem j0t (h:RawAt w lo hi s n cap r) (a:Int):Kz 54 #[Pq (s 14),Iz a] w fun e w'=>e=.returned (.tuple #[Iz (z3f n r.W a),.bool (inB (64*n) a)])/\w'=w:=by
 have HH:=Q3 (q6g h a);obtain⟨c0,c1,c2,c3,c4,c5⟩:=h.cells;have h2:=h.n2;by_cases bV:inB (64*n) a=true
 ·obtain⟨k,rfl,hk,kP⟩:=z7d bV;have hc:=h.words.cell hk;have hv:z3f n r.W (k:Int)=r.W k:=by unfold z3f;rw[if_pos bV,kP]
  have b1:(0:Int)<=(k:Int):=by omega
  have b2:(k:Int)<((64*n:Nat):Int):=by omega
  have b3:((64*n:Nat):Int)<=262144:=by omega
  rw[bV] at HH ⊢;rw[hv];generalize r.W k=v at *
  generalize 64*n=m at *
  clear h hv bV hk kP h2;go_enter Tryz.func54,Tryz.ntmps54
  go_wp2_with (go_at_call 103;refine Q4 HH.out ?_);go_ret2;exact⟨rfl,rfl⟩
 ·have hf:inB (64*n) a=false:=by simpa using bV
  have hv:z3f n r.W a=0:=by unfold z3f;rw[hf];rfl
  rw[hf] at HH ⊢;rw[hv];clear h hv bV;go_enter Tryz.func54,Tryz.ntmps54
  go_wp2_with (go_at_call 103;refine Q4 HH.out ?_);go_ret2;exact⟨rfl,rfl⟩
theorem Row.upd {w:World} {b k:Nat} {T:TypeId} {W:Nat->Int} (h:Row w b T k (fun i=>.int .i64 (W i))) (a:Nat) (v:Int):Row (w.setCell ⟨b,a,none⟩ (.int .i64 v)) b T k (fun i=>.int .i64 (z3a W a v i)):=
 (h.set a (.int .i64 v)).congr fun i _=>by unfold z3a;split <;> rfl
theorem RawAt.poke (h:RawAt w lo hi s n cap r) (a:Nat) (v:Int):RawAt (w.setCell ⟨s 11,a,none⟩ (.int .i64 v)) lo hi s n cap { r with W:=z3a r.W a v }/\Out (s 11) (s 11+1) w (w.setCell ⟨s 11,a,none⟩ (.int .i64 v)):=by
 have o:Out (s 11) (s 11+1) w (w.setCell ⟨s 11,a,none⟩ (.int .i64 v)):=(Out.refl _ _ _).setCell z1 _;exact⟨h.setW o (h.words.upd a v),o⟩
def F8 (n:Nat) (W:Nat->Int) (a v:Int):Nat->Int:=if inB (64*n) a then z3a W a.toNat v else W
theorem q3i (h:RawAt w lo hi s n cap r) (a v:Int):Kz 44 #[Pq (s 14),Iz a,Iz v] w fun e w'=>e=.returned (.bool (inB (64*n) a))/\RawAt w' lo hi s n cap { r with W:=F8 n r.W a v }/\Out lo hi w w':=by
 have HH:=Q3 (q6g h a);obtain⟨c0,c1,c2,c3,c4,c5⟩:=h.cells;have h2:=h.n2;by_cases bV:inB (64*n) a=true
 ·obtain⟨k,rfl,hk,kP⟩:=z7d bV;have hc:=h.words.cell hk;have hfz:=h.words.frozen k;have hv:F8 n r.W (k:Int) v=z3a r.W k v:=by unfold F8;rw[if_pos bV,kP]
  have b1:(0:Int)<=(k:Int):=by omega
  have b2:(k:Int)<((64*n:Nat):Int):=by omega
  have b3:((64*n:Nat):Int)<=262144:=by omega
  have HP:=Q3 (h.poke k v);have HW:=Q3 (h.wide (i:=11) (by omega) HP.out.2);rw[bV] at HH ⊢;rw[hv];generalize r.W k=u at *
  generalize hm:64*n=m at *
  clear h hv bV hk kP h2 hm;go_enter Tryz.func44,Tryz.ntmps44
  go_wp2_with (go_at_call 103;refine Q4 HH.out ?_);go_ret;exact⟨rfl,HP.out.1,HW.out⟩
 ·have hf:inB (64*n) a=false:=by simpa using bV
  have hv:F8 n r.W a v=r.W:=by unfold F8;rw[hf];rfl
  have HP:=Q3 h;rw[hf] at HH ⊢;rw[hv];clear h hv bV;go_enter Tryz.func44,Tryz.ntmps44
  go_wp2_with (go_at_call 103;refine Q4 HH.out ?_);go_ret;exact⟨rfl,HP.out,Out.refl _ _ _⟩
theorem RawAt.look (h:RawAt w lo hi s n cap r) (c:Bool) (a:Int):(Instr.lookup 136 (.map (some (s 12))) (.int .i64 a) c).run Tryz.prog w =
  .ok (if c then .tuple #[(z7u r.M a).getD (.agg #[.int .i64 0,.int .i64 0,.int .i64 0,.int .i64 0,.int .i64 0]),.bool (z7u r.M a).isSome] else (z7u r.M a).getD (.agg #[.int .i64 0,.int .i64 0,.int .i64 0,.int .i64 0,.int .i64 0])) w:=
 x4s c Tryz.underlying136 Tryz.underlying3 (j3k w) h.objs a
theorem z0q (h:RawAt w lo hi s n cap r) {a k z x t:Int} (hm:r.M a=some (k,z,x,t)):Kz 100 #[Pq (s 14),Iz a] w fun e w'=>e=.returned (.tuple #[Wz a k z x t,.bool true])/\Out 0 0 w w':=by
 have h':=h.quiet ((Out.refl 0 0 w).alloc (Ez 0 0 0 0 0 81));obtain⟨c0,c1,c2,c3,c4,c5⟩:=h'.cells;have hl:=h'.look true a;have e1:z7u r.M a=some (Wz a k z x t):=by unfold z7u;rw[hm];rfl
 rw[e1] at hl;simp only[Option.getD_some,Option.isSome_some,if_true] at hl;clear h h' e1 hm;go_enter Tryz.func100,Tryz.ntmps100
 go_wp2_with (go_at_call 85;refine Q4 (z2t _ _) ?_);refine z7j (g:=w.heap.size) Tryz.results100 rfl rfl rfl J3 ⟨rfl,((Out.refl _ _ _).alloc _).alloc _⟩
theorem z5c (h:RawAt w lo hi s n cap r) {a:Int} (hm:r.M a=none):Kz 100 #[Pq (s 14),Iz a] w fun e w'=>e=.returned (.tuple #[Wz 0 0 0 0 0,.bool false])/\Out 0 0 w w':=by
 have h':=h.quiet ((Out.refl 0 0 w).alloc (Ez 0 0 0 0 0 81));obtain⟨c0,c1,c2,c3,c4,c5⟩:=h'.cells;have hl:=h'.look true a;have e1:z7u r.M a=none:=by unfold z7u;rw[hm];rfl
 rw[e1] at hl;simp only[Option.getD_none,Option.isSome_none,if_true] at hl;clear h h' e1 hm;go_enter Tryz.func100,Tryz.ntmps100
 go_wp2_with (go_at_call 85;refine Q4 (z2t _ _) ?_);refine z7j (g:=w.heap.size) Tryz.results100 rfl rfl rfl J3 ⟨rfl,((Out.refl _ _ _).alloc _).alloc _⟩
theorem j2k (h:RawAt w lo hi s n cap r) {a:Nat} (ha:a<64*n) (k z x t:Int):Kz 157 #[Pq (s 14),Wz (a:Int) k z x t] w fun e w'=>e=.returned (.bool (r.W a == F0 a k z))/\Out 0 0 w w':=by
 have h':=h.quiet ((Out.refl 0 0 w).alloc (Ez (a:Int) k z x t 81));obtain⟨c0,c1,c2,c3,c4,c5⟩:=h'.cells;have h2:=h.n2;have hc:=h'.words.cell ha;have b1:(0:Int)<=(a:Int):=by omega
 have b2:(a:Int)<((64*n:Nat):Int):=by omega
 have b3:((64*n:Nat):Int)<=262144:=by omega
 have HM:=Q3 (fun w=>q4y (a:Int) k z w);generalize F0 (a:Int) k z=mv at *
 generalize r.W a=u at *
 generalize 64*n=m at *
 clear h h' ha h2;go_enter Tryz.func157,Tryz.ntmps157
 go_wp2_with fail;go_quiet (first | (go_at_call 180;exact Calls.quiet_of_same (HM.out _)))
 go_wp2;go_ret;exact⟨rfl,((Out.refl 0 0 w).alloc _).drewN _⟩
end
def z0u (e a:Int):PanicEntry:={ v:=.iface 162 (.agg #[.int .i64 e,.int .i64 a]),recovered:=false }
theorem z0o (e:Int) (w:World):Kz 41 #[.bool true,Iz e] w fun x w'=>x=.returned (.tuple #[])/\w'=w:=by
 go_enter Tryz.func41,Tryz.ntmps41
 go_wp2;exact bodyPost_end (results_none Tryz.results41 _ _ _) rfl ⟨rfl,rfl⟩
theorem z2z (e:Int) (w:World):Kz 41 #[.bool false,Iz e] w fun x w'=>x=.panicked [z0u e 0]/\w'=w:=by
 go_enter Tryz.func41,Tryz.ntmps41
 go_wp2;exact⟨rfl,rfl,rfl⟩
theorem q7t (a:Int) (w:World):Kz 55 #[Vz 0 a] w fun x w'=>x=.returned (.tuple #[])/\Out 0 0 w w':=by
 go_enter Tryz.func55,Tryz.ntmps55
 go_wp2;exact bodyPost_end (results_none Tryz.results55 _ _ _) rfl ⟨rfl,(Out.refl 0 0 w).alloc _⟩
theorem q2q {e:Int} (he:e ≠ 0) (a:Int) (w:World):Kz 55 #[Vz e a] w fun x w'=>x=.panicked [z0u e a]/\Out 0 0 w w':=by
 have h1:(e != 0)=true:=by simpa using he
 go_enter Tryz.func55,Tryz.ntmps55
 go_wp2;exact⟨rfl,rfl,(Out.refl 0 0 w).alloc _⟩
theorem z2d (w:World):Kz 39 #[.nilIface] w fun x w'=>x=.returned (Vz 0 0)/\Out 0 0 w w':=by
 go_enter Tryz.func39,Tryz.ntmps39
 go_wp2;exact z4x Tryz.results39 rfl rfl (heap_alloc_new _ _) ⟨rfl,(Out.refl 0 0 w).alloc _⟩
theorem z1i (e a:Int) (w:World):Kz 39 #[.iface 162 (Vz e a)] w fun x w'=>x=.returned (Vz e a)/\Out 0 0 w w':=by
 have h1:∀ W,(binOp .eql 20 (.iface 162 (Vz e a)) .nilIface).run Tryz.prog W=.ok (.bool false) W:=fun W=>by kernel_rfl
 have h2:∀ W,(Instr.typeAssert (.iface 162 (Vz e a)) 20 162 true).run Tryz.prog W=.ok (.tuple #[Vz e a,.bool true]) W:=fun W=>by kernel_rfl
 go_enter Tryz.func39,Tryz.ntmps39
 go_wp2;exact z4x Tryz.results39 rfl rfl J3 ⟨rfl,((Out.refl 0 0 w).alloc _).alloc _⟩
theorem q5u {a b:Value} (h:a=b):Ending.returned a=.returned b:=by rw[h]
def z4l (v:Int):Bool:=decide (-1152921504606846976<=v/\v<=1152921504606846975)
def z2m (n:Int):Bool:=decide (0<=n/\n<=1114111/\(n<55296\/57343<n))
def J2 (k n:Int):Bool:=decide ((k=1/\-1152921504606846976<=n/\n<=1152921504606846975)\/(k=2/\0<=n/\n<=1152921504606846975)\/(k=3/\0<=n/\n<=5)\/(k=4/\0<=n/\n<=1114111/\(n<55296\/57343<n)))
def z5a (k n:Int):Value:=.agg #[.int .i64 k,.int .i64 n]
theorem z6b (v:Int) (w:World) :
  Kz 158 #[Iz v] w fun e w'=>e=.returned (.bool (z4l v))/\w'=w:=by
 go_enter Tryz.func158,Tryz.ntmps158
 go_wp2
 all_goals go_ret
 all_goals refine⟨B7 ?_,rfl⟩
 all_goals (unfold z4l;rw[Bool.eq_iff_iff];simp;try omega)
theorem q0p (v:Int) (w:World) :
  Kz 194 #[.int .i32 v] w fun e w'=>e=.returned (.bool (z2m v))/\w'=w:=by
 have c:(0<=v/\v<55296)\/(v<0)\/(55296<=v/\v<=57343)\/(57343<v/\v<=1114111)\/(1114111<v):=by omega
 rcases c with ⟨c1,c2⟩ | c1 | ⟨c1,c2⟩ | ⟨c1,c2⟩ | c1
 all_goals
  go_enter Tryz.func194,Tryz.ntmps194
  go_wp2;go_ret;refine⟨B7 ?_,rfl⟩;unfold z2m;first | (symm;rw[decide_eq_true_eq];omega) | (symm;rw[decide_eq_false_iff_not];omega)
theorem q6z (b:Int):bits .and .i64 b 7=b % 8:=by
 have h:(BitVec.ofInt 64 b &&& BitVec.ofInt 64 7).toNat=(b % 18446744073709551616).toNat % 8:=by
  have e7:(BitVec.ofInt 64 7).toNat=2 ^ 3-1:=by decide
  rw[BitVec.toNat_and,e7,Nat.and_two_pow_sub_one_eq_mod,z1q]
 have e:bits .and .i64 b 7=IntKind.wrap .i64 ((BitVec.ofInt 64 b &&& BitVec.ofInt 64 7).toNat:Nat):=rfl;rw[e,h];simp[IntKind.wrap,IntKind.signed,IntKind.bits];omega
theorem z6n {a b c d:Int} (h1:a=c) (h2:b=d):Ending.returned (.tuple #[.int .i64 a,.int .i64 b])=.returned (.tuple #[.int .i64 c,.int .i64 d]):=by rw[h1,h2]
theorem q9k (v:Int) (w:World) :
  Kz 111 #[Iz v] w fun e w'=>e=.returned (.tuple #[Iz (v / 8),Iz (v % 8)])/\w'=w:=by
 have H:=Q3 (q6z v);go_enter Tryz.func111,Tryz.ntmps111
 go_wp2;go_ret2;exact⟨z6n rfl (by first | rfl | exact H.out),rfl⟩
theorem q0x (n:Int) (w:World) :
  Kz 159 #[Iz n] w fun e w'=>e=.returned (.bool (z2m n))/\w'=w:=by
 go_enter Tryz.func159,Tryz.ntmps159
 go_wp2_with (go_at_call 194;refine Q4 (q0p _ _) ?_)
 all_goals go_ret
 all_goals refine⟨B7 ?_,rfl⟩
 ·rename_i h
  have e:wrap32 n=n:=by unfold wrap32 wrap64 at *;omega
  rw[e]
 ·rename_i h
  unfold z2m;symm;rw[decide_eq_false_iff_not]
  unfold wrap32 wrap64 at *;omega
theorem z3x {W:World} {g:Nat} {x y:Int} (h:W.heap[g]? = some (.cells #[.int .i64 x,.int .i64 y] 32 (0,0))) :
  W.cell? ⟨g,0,none⟩=some (.int .i64 x)/\W.cell? ⟨g,1,none⟩=some (.int .i64 y):=by
 simp[World.cell?,h]
theorem j5x (k:Int):k=1\/k=2\/k=3\/k=4\/((k == 1)=false/\(k == 2)=false/\(k == 3)=false/\(k == 4)=false):=by
 simp;omega
theorem j1f (n:Int):J2 1 n=z4l n:=by unfold J2 z4l;simp
theorem j1g (n:Int):J2 2 n=(decide (0<=n) && z4l n):=by unfold J2 z4l;rw[Bool.eq_iff_iff];simp;omega
theorem j1h (n:Int):J2 3 n=decide (0<=n/\n<=5):=by unfold J2;simp
theorem j1i (n:Int):J2 4 n=z2m n:=by unfold J2 z2m;simp
theorem j1j (k n:Int) (h:(k == 1)=false/\(k == 2)=false/\(k == 3)=false/\(k == 4)=false):J2 k n=false:=by
 unfold J2;simp at h ⊢;omega
theorem z1l (k n:Int) (w:World) :
  Kz 108 #[z5a k n] w fun e w'=>e=.returned (.bool (J2 k n))/\Below w.heap.size w w':=by
 unfold z5a;have h0:Below w.heap.size w (w.alloc (Dz k n 32)):=(Below.refl _ _).alloc (Nat.le_refl _) _;have hA:=heap_alloc_new w (Dz k n 32);obtain⟨x0,x1⟩:=z3x hA;clear hA;rcases j5x k with rfl | rfl | rfl | rfl | hk
 ·rw[j1f];go_enter Tryz.func108,Tryz.ntmps108
  go_wp2_with (go_at_call 158;refine Q4 (z6b _ _) ?_);go_ret;exact⟨rfl,h0⟩
 ·rw[j1g];by_cases hn:0<=n
  ·simp only[hn,decide_true,Bool.true_and];go_enter Tryz.func108,Tryz.ntmps108
   go_wp2_with (go_at_call 158;refine Q4 (z6b _ _) ?_);go_ret;exact⟨rfl,h0⟩
  ·have hn':n<0:=by omega
   simp only[hn,decide_false,Bool.false_and];clear hn;go_enter Tryz.func108,Tryz.ntmps108
   go_wp2_with fail;go_ret;exact⟨rfl,h0⟩
 ·rw[j1h];go_enter Tryz.func108,Tryz.ntmps108
  go_wp2_with fail
  all_goals go_ret
  all_goals refine⟨B7 ?_,h0⟩
  all_goals (rw[Bool.eq_iff_iff];simp;try omega)
 ·rw[j1i];go_enter Tryz.func108,Tryz.ntmps108
  go_wp2_with (go_at_call 159;refine Q4 (q0x _ _) ?_);go_ret;exact⟨rfl,h0⟩
 ·rw[j1j k n hk];obtain⟨k1,k2,k3,k4⟩:=hk;go_enter Tryz.func108,Tryz.ntmps108
  go_wp2_with fail;go_ret;exact⟨rfl,h0⟩
def VC_v (W:World) (g:Nat) (k n:Int):Prop:=W.heap[g]? = some (.cells #[.int .i64 k,.int .i64 n] 32 (0,0))
theorem VC_v.kept {W W':World} {g:Nat} {k n:Int} (h:VC_v W g k n) (hb:Below W.heap.size W W'):VC_v W' g k n:=by
 unfold VC_v at *;rw[<-h];exact hb.block g (Array.getElem?_eq_some_iff.1 h).1
theorem VC_v.facts {W:World} {g:Nat} {k n:Int} (h:VC_v W g k n) :
  W.cell? ⟨g,0,none⟩=some (.int .i64 k)/\W.cell? ⟨g,1,none⟩=some (.int .i64 n)/\W.frozen? ⟨g,0,none⟩=false/\W.frozen? ⟨g,1,none⟩=false:=by
 unfold VC_v at h;refine⟨(z3x h).1,(z3x h).2,?_,?_⟩ <;> simp[World.frozen?,h]
theorem VC_v.set {W:World} {g:Nat} {k n:Int} (h:VC_v W g k n) (x y:Int):VC_v ((W.setCell ⟨g,0,none⟩ (.int .i64 x)).setCell ⟨g,1,none⟩ (.int .i64 y)) g x y:=by
 unfold VC_v at *;simp only[World.setCell,Array.getElem?_modify,if_true,h];rfl
theorem VC_v.new (W:World) (k n:Int):VC_v (W.alloc (.cells #[.int .i64 k,.int .i64 n] 32)) W.heap.size k n:=heap_alloc_new _ _
theorem VC_v.lt {W:World} {g:Nat} {k n:Int} (h:VC_v W g k n):g<W.heap.size:=(Array.getElem?_eq_some_iff.1 h).1
theorem VC_v.alloc {W:World} {g:Nat} {k n:Int} (h:VC_v W g k n) (o:Obj):VC_v (W.alloc o) g k n:=by
 unfold VC_v;rw[heap_alloc_old _ _ h.lt];exact h
theorem j5t:(Tryz.prog.info? 32).map (·.size)=some 2:=by kernel_rfl
theorem z8u {fn:Func} {p:Tmp} {a:Act} {w:World} {g:Nat} {k n:Int} {post:Ending->World->Prop} (hr:fn.results = #[.cell p 32]) (hp:a.tmps.getD p undef=.pointer (some ⟨g,0,none⟩))
  (hd:a.defers=[]) (hg:VC_v w g k n) (h:post (.returned (z5a k n)) w):bodyPost Tryz.prog fn post Exit.ret a w:=
 bodyPost_ret (v:=z5a k n) (results_cell_row hr a.tmps _ g 32 _ (0,0) _ hp hg Tryz.underlying32 rfl j5t) hd h
theorem z6m {fn:Func} {p u:Tmp} {a:Act} {w:World} {g:Nat} {k n:Int} {v:Value} {post:Ending->World->Prop} (hr:fn.results = #[.cell p 32,.tmp u]) (hp:a.tmps.getD p undef=.pointer (some ⟨g,0,none⟩)) (hu:a.tmps.getD u undef=v)
  (hd:a.defers=[]) (hg:VC_v w g k n) (h:post (.returned (.tuple #[z5a k n,v])) w):bodyPost Tryz.prog fn post Exit.ret a w:=by
 refine bodyPost_ret (v:=.tuple #[z5a k n,v]) ?_ hd h;rw[results_cell_tmp hr,hp];simp[asAddr,run_loadVar_row w g 32 32 _ (0,0) _ hg Tryz.underlying32 rfl j5t,Result.andThen,z5a];simpa using hu
def z0z (k n:Int):Int:=if J2 k n=true then k else 0
def z1a (k n:Int):Int:=if J2 k n=true then n else 0
theorem q2z {k n:Int} (h:J2 k n=true):z5a k n=.agg #[.int .i64 (z0z k n),.int .i64 (z1a k n)]:=by unfold z0z z1a z5a;rw[if_pos h,if_pos h]
theorem q8d {k n:Int} (h:J2 k n=false):z5a 0 0=.agg #[.int .i64 (z0z k n),.int .i64 (z1a k n)]:=by
 unfold z0z z1a z5a;rw[h];rfl
theorem q1o (k n:Int) (w:World) :
  Kz 106 #[Iz k,Iz n] w fun e w'=>e=.returned (Vz (z0z k n) (z1a k n))/\Below w.heap.size w w':=by
 have b1:Below w.heap.size w (w.alloc (Dz 0 0 32)):=(Below.refl _ _).alloc (Nat.le_refl _) _;have b2:=b1.alloc b1.size (Dz k n 32);have HB:=Q3 b2;have V0:=Q3 ((VC_v.new w 0 0).alloc (Dz k n 32));have V1:Hid (VC_v ((w.alloc (Dz 0 0 32)).alloc (Dz k n 32)) (w.heap.size+1) k n):=heap_alloc2_new _ _ _;clear b1 b2;by_cases hv:J2 k n=true
 ·go_enter Tryz.func106,Tryz.ntmps106
  go_wp2_with fail;refine(z1l k n _).mono ?_;rintro e w1 ⟨rfl,hg⟩;rw[hv];have g0:=Q3 (V0.out.kept hg);have g1:=V1.out.kept hg;have hb:=HB.out.trans (hg.mono HB.out.size);clear hg HB V0 V1;obtain⟨x0,x1,x2,x3⟩:=g0.out.facts;obtain⟨x4,x5,x6,x7⟩:=g1.facts;go_wp2_with fail;refine z8u Tryz.results106 rfl rfl (g0.out.set k n) ⟨?_,?_⟩
  ·exact q5u (q2z hv)
  ·exact(hb.setCell (Nat.le_refl _) _).setCell (Nat.le_refl _) _
 ·have pK:=Bool.eq_false_iff.mpr hv;clear hv;go_enter Tryz.func106,Tryz.ntmps106
  go_wp2_with fail;refine(z1l k n _).mono ?_;rintro e w1 ⟨rfl,hg⟩;rw[pK];have g0:=Q3 (V0.out.kept hg);have g1:=V1.out.kept hg;have hb:=HB.out.trans (hg.mono HB.out.size);clear hg HB V0 V1;obtain⟨x0,x1,x2,x3⟩:=g0.out.facts;obtain⟨x4,x5,x6,x7⟩:=g1.facts;go_wp2_with fail;refine z8u Tryz.results106 rfl rfl (g0.out.set 0 0) ⟨?_,?_⟩
  ·exact q5u (q8d pK)
  ·exact(hb.setCell (Nat.le_refl _) _).setCell (Nat.le_refl _) _
theorem j2x (n:Int) (w:World):Kz 47 #[Iz n] w fun e w'=>e=.returned (Vz (z0z 2 n) (z1a 2 n))/\Below w.heap.size w w':=by
 have b1:Below w.heap.size w (w.alloc (Dz 0 0 32)):=(Below.refl _ _).alloc (Nat.le_refl _) _;have V0:=Q3 (VC_v.new w 0 0);go_enter Tryz.func47,Tryz.ntmps47
 go_wp2_with fail;refine(q1o _ _ _).mono ?_;rintro e w1 ⟨rfl,hg⟩;have g0:=Q3 (V0.out.kept hg);have hb:=b1.trans (hg.mono b1.size);clear hg b1 V0;obtain⟨x0,x1,x2,x3⟩:=g0.out.facts;go_wp2_with fail;exact z8u Tryz.results47 rfl rfl (g0.out.set _ _) ⟨rfl,(hb.setCell (Nat.le_refl _) _).setCell (Nat.le_refl _) _⟩
theorem q4z (n:Int) (w:World):Kz 105 #[Iz n] w fun e w'=>e=.returned (Vz (z0z 3 n) (z1a 3 n))/\Below w.heap.size w w':=by
 have b1:Below w.heap.size w (w.alloc (Dz 0 0 32)):=(Below.refl _ _).alloc (Nat.le_refl _) _;have V0:=Q3 (VC_v.new w 0 0);go_enter Tryz.func105,Tryz.ntmps105
 go_wp2_with fail;refine(q1o _ _ _).mono ?_;rintro e w1 ⟨rfl,hg⟩;have g0:=Q3 (V0.out.kept hg);have hb:=b1.trans (hg.mono b1.size);clear hg b1 V0;obtain⟨x0,x1,x2,x3⟩:=g0.out.facts;go_wp2_with fail;exact z8u Tryz.results105 rfl rfl (g0.out.set _ _) ⟨rfl,(hb.setCell (Nat.le_refl _) _).setCell (Nat.le_refl _) _⟩
def z0j (k n:Int):Int:=if J2 k n=true then n*8+(k-1) else 0
theorem z3y {k n:Int} (h:J2 k n=true):1<=k/\k<=4/\-1152921504606846976<=n/\n<=1152921504606846975:=by
 unfold J2 at h;rw[decide_eq_true_eq] at h;omega
theorem q1z (k n:Int) (w:World) :
  Kz 51 #[z5a k n] w fun e w'=>e=.returned (.tuple #[Iz (z0j k n),.bool (J2 k n)])/\Below w.heap.size w w':=by
 unfold z5a;have b1:Below w.heap.size w (w.alloc (Dz k n 32)):=(Below.refl _ _).alloc (Nat.le_refl _) _;have V0:=VC_v.new w k n;obtain⟨x0,x1,x2,x3⟩:=V0.facts;have HV:=Q3 V0;clear V0;by_cases hv:J2 k n=true
 ·have hw:z0j k n=n*8+(k-1):=by unfold z0j;rw[if_pos hv]
  obtain⟨r1,r2,r3,r4⟩:=z3y hv;have hj:=fun w=>j0l n (k-1) w r3 r4 (by omega) (by omega)
  rw[hw,hv];go_enter Tryz.func51,Tryz.ntmps51
  go_wp2_with fail;refine(z1l k n _).mono ?_;rintro e w1 ⟨rfl,hg⟩;rw[hv];obtain⟨x0,x1,x2,x3⟩:=(HV.out.kept hg).facts;have hb:=b1.trans (hg.mono b1.size);clear hg b1 HV;go_wp2_with (go_at_call 109;refine Q4 (hj _) ?_);go_ret2;exact⟨rfl,hb⟩
 ·have pK:=Bool.eq_false_iff.mpr hv;have hw:z0j k n=0:=by unfold z0j;rw[if_neg hv]
  rw[hw,pK];clear hv;go_enter Tryz.func51,Tryz.ntmps51
  go_wp2_with fail;refine(z1l k n _).mono ?_;rintro e w1 ⟨rfl,hg⟩;rw[pK];have hb:=b1.trans (hg.mono b1.size);clear hg b1 HV;go_wp2_with fail;go_ret2;exact⟨rfl,hb⟩
theorem q1s (v:Int) (w:World) :
  Kz 56 #[Iz v] w fun e w'=>e=.returned (.tuple #[.agg #[Iz (z0z (v % 8+1) (v / 8)),Iz (z1a (v % 8+1) (v / 8))],.bool (J2 (v % 8+1) (v / 8))])/\Below w.heap.size w w':=by
 obtain⟨t,ht⟩:∃ t,t=v % 8:=⟨_,rfl⟩
 obtain⟨b,hb⟩:∃ b,b=v / 8:=⟨_,rfl⟩
 have hs:=Q3 (fun w=>q9k v w);rw[<-ht,<-hb] at hs ⊢;have t1:0<=t:=by omega
 have t2:t<8:=by omega
 clear ht hb;have b1:Below w.heap.size w (w.alloc (Dz 0 0 32)):=(Below.refl _ _).alloc (Nat.le_refl _) _;have b2:=b1.alloc b1.size (Dz (t+1) b 32);have HB:=Q3 b2;have V0:=Q3 ((VC_v.new w 0 0).alloc (Dz (t+1) b 32));have V1:Hid (VC_v ((w.alloc (Dz 0 0 32)).alloc (Dz (t+1) b 32)) (w.heap.size+1) (t+1) b):=heap_alloc2_new _ _ _;clear b1 b2;by_cases hv:J2 (t+1) b=true
 ·go_enter Tryz.func56,Tryz.ntmps56
  go_wp2_with (go_at_call 111;refine Q4 (hs.out _) ?_);refine(z1l (t+1) b _).mono ?_;rintro e w1 ⟨rfl,hg⟩;rw[hv];have g0:=Q3 (V0.out.kept hg);have g1:=V1.out.kept hg;have hb:=HB.out.trans (hg.mono HB.out.size);clear hg HB V0 V1;obtain⟨x0,x1,x2,x3⟩:=g0.out.facts;obtain⟨x4,x5,x6,x7⟩:=g1.facts;go_wp2_with fail;refine z6m Tryz.results56 rfl rfl rfl (g0.out.set (t+1) b) ⟨?_,?_⟩
  ·rw[q2z hv,hv];rfl
  ·exact(hb.setCell (Nat.le_refl _) _).setCell (Nat.le_refl _) _
 ·have pK:=Bool.eq_false_iff.mpr hv;clear hv;go_enter Tryz.func56,Tryz.ntmps56
  go_wp2_with (go_at_call 111;refine Q4 (hs.out _) ?_);refine(z1l (t+1) b _).mono ?_;rintro e w1 ⟨rfl,hg⟩;rw[pK];have g0:=Q3 (V0.out.kept hg);have g1:=V1.out.kept hg;have hb:=HB.out.trans (hg.mono HB.out.size);clear hg HB V0 V1;obtain⟨x0,x1,x2,x3⟩:=g0.out.facts;obtain⟨x4,x5,x6,x7⟩:=g1.facts;go_wp2_with fail;refine z6m Tryz.results56 rfl rfl rfl (g0.out.set 0 0) ⟨?_,?_⟩
  ·rw[q8d pK,pK];rfl
  ·exact(hb.setCell (Nat.le_refl _) _).setCell (Nat.le_refl _) _
theorem q9n (k:Int) (w:World):Kz 161 #[Iz k] w fun e w'=>e=.returned (.bool (decide (1<=k) && decide (k<=10)))/\w'=w:=by
 go_enter Tryz.func161,Tryz.ntmps161
 go_wp2
 all_goals go_ret
 all_goals refine⟨B7 ?_,rfl⟩
 all_goals (rw[Bool.eq_iff_iff];simp;try omega)
theorem j5l (i:Int) (w:World):Kz 156 #[Iz i] w fun e w'=>e=.returned (Iz (q1j i))/\w'=w:=by
 go_enter Tryz.func156,Tryz.ntmps156
 go_wp2
 all_goals go_ret
 all_goals refine⟨G8 ?_,rfl⟩
 all_goals (unfold q1j;simp[*])
theorem q3q (k i:Int) (w:World):Kz 102 #[Iz k,Iz i] w fun e w'=>e=.returned (Iz (z4d k i))/\w'=w:=by
 have HF:=Q3 (j5l i);go_enter Tryz.func102,Tryz.ntmps102
 go_wp2_with (go_at_call 156;refine Q4 (HF.out _) ?_)
 all_goals go_ret
 all_goals refine⟨G8 ?_,rfl⟩
 all_goals (unfold z4d;simp[*];try (intro hh;omega))
theorem z3i (k s i:Int) {w:World} (hT:Tab w) (s1:-9223372036854775808<=s) (s2:s<=9223372036854775807) :
  Kz 46 #[Iz k,Iz s,Iz i] w fun e w'=>e=.returned (Iz (J9 k s i))/\w'=w:=by
 have HF:=Q3 (q2r k s hT s1 s2);have HR:=Q3 (q3q k i);clear s1 s2;by_cases hi:1<=i
 ·by_cases hs:i<s
  ·cases hf:F4 k s
   ·have e:J9 k s i=0:=by unfold J9;rw[if_neg (by rw[hf];simp)]
    rw[hf] at HF;rw[e];clear e hf;go_enter Tryz.func46,Tryz.ntmps46
    go_wp2_with (first | (go_at_call 101;refine Q4 HF.out ?_) | (go_at_call 102;refine Q4 (HR.out _) ?_));go_ret;exact⟨rfl,rfl⟩
   ·have e:J9 k s i=z4d k i:=by unfold J9;rw[if_pos ⟨hf,hi,hs⟩]
    rw[hf] at HF;rw[e];clear e hf;generalize z4d k i=r at *
    go_enter Tryz.func46,Tryz.ntmps46
    go_wp2_with (first | (go_at_call 101;refine Q4 HF.out ?_) | (go_at_call 102;refine Q4 (HR.out _) ?_));go_ret;exact⟨rfl,rfl⟩
  ·have e:J9 k s i=0:=by unfold J9;rw[if_neg (by omega)]
   rw[e];clear e;go_enter Tryz.func46,Tryz.ntmps46
   go_wp2;go_ret;exact⟨rfl,rfl⟩
 ·have e:J9 k s i=0:=by unfold J9;rw[if_neg (by omega)]
  rw[e];clear e;go_enter Tryz.func46,Tryz.ntmps46
  go_wp2;go_ret;exact⟨rfl,rfl⟩
def q1i (k:Int) (p:Nat):List Nat:=(List.range p).filter fun j=>decide (1<=j) && (z4d k j != 1)
theorem j9r (k:Int):q1i k 1=[]:=by simp[q1i,List.range_succ]
theorem x3w {k:Int} {p:Nat} (h:1<=p) (hr:z4d k p ≠ 1):q1i k (p+1)=q1i k p ++ [p]:=by
 unfold q1i;rw[List.range_succ,List.filter_append];simp[h,hr]
theorem j9s {k:Int} {p:Nat} (hr:z4d k p=1):q1i k (p+1)=q1i k p:=by
 unfold q1i;rw[List.range_succ,List.filter_append];simp[hr]
theorem q2s (k:Int) (p:Nat):(q1i k p).length<=p:=by
 unfold q1i;exact Nat.le_trans (List.length_filter_le _ _) (by simp)
def z0l (k s:Int):List Nat:=if F4 k s then q1i k s.toNat else []
def q1l (l:List Nat):List Value:=l.map (fun(x:Nat)=>Value.int .i64 (x:Int))
theorem z4m {k s:Int} (h:F4 k s=true):1<=s/\s<=1024:=by
 obtain⟨hk,a,b,c⟩:=fitsB_iff.1 h;obtain⟨j,rfl,j1,j2⟩:=z3d hk;obtain⟨w1,w2,w3,w4,w5,w6,w7⟩:=x1v j1 j2;rcases q2x j1 j2 with rfl | rfl | rfl | rfl | rfl | rfl | rfl | rfl | rfl | rfl | rfl | rfl | rfl <;> (simp[wd,mo,z3p] at a b;omega)
theorem j2m:(Tryz.prog.info? 3).map (fun i=>(i.zero,i.size,i.bytes))=some (some (.int .i64 0),1,8):=by kernel_rfl
theorem j2t {w w':World} {v:Value} {base k lo hi:Nat} {xs:List Value} {T:TypeId} (h:w.ownsRow base T 1 v k xs) (o:Out lo hi w w') (hd:hi<=base):w'.ownsRow base T 1 v k xs:=by
 obtain⟨cJ,kQ⟩:=h;refine⟨cJ,?_⟩;rcases kQ with ⟨hv,h0⟩ | ⟨g,eD,eT,rfl,hg1,pP,hg3⟩
 ·exact .inl ⟨hv,h0⟩
 ·exact .inr ⟨g,eD,eT,rfl,hg1,o.heap pP (.inr (by omega)),hg3⟩
theorem j6q {w w':World} {v:Value} {base k:Nat} {xs:List Value} {T:TypeId} (h:w.ownsRow base T 1 v k xs) (hg:w.grownBy w' v.ownBlock):Out base w.heap.size w w':=
 ⟨hg.os,hg.tape,hg.output,hg.size,fun j h1 h2=>hg.block j h1 (fun e=>by have:=(h.lt j e.symm).1;omega)⟩
theorem q5a {T:TypeId} {z:Value} {a b:Nat} (h:(Tryz.prog.info? T).map (fun i=>(i.zero,i.size,i.bytes))=some (some z,a,b)):∃ i,Tryz.prog.info? T=some i/\i.zero=some z/\i.size=a/\i.bytes=b:=by
 cases hi:Tryz.prog.info? T with
 | none=>rw[hi] at h;cases h
 | some i=>rw[hi] at h;simp at h;exact⟨i,rfl,h.1,h.2.1,h.2.2⟩
def ListIs_o (w:World) (base:Nat) (v:Value) (l:List Nat):Prop:=w.ownsRow base 3 1 v l.length (q1l l)
theorem ListIs_o.nil (w:World) (base:Nat):ListIs_o w base (.slice none 0 0) []:=World.ownsRow_nil _ _ _ _
theorem ListIs_o.kept {w w':World} {base lo hi:Nat} {v:Value} {l:List Nat} (h:ListIs_o w base v l) (o:Out lo hi w w') (hd:hi<=base):ListIs_o w' base v l:=j2t h o hd
theorem q4p (k s:Int) {w:World} (hT:Tab w) (s1:-9223372036854775808<=s) (s2:s<=9223372036854775807) :
  Kz 43 #[Iz k,Iz s] w fun e w'=>∃ v,e=.returned v/\ListIs_o w' w.heap.size v (z0l k s)/\Out 0 0 w w':=by
 have HF:=Q3 (q2r k s hT s1 s2);clear s1 s2;cases hf:F4 k s
 ·rw[hf] at HF;have e:z0l k s=[]:=by unfold z0l;rw[hf];rfl
  rw[e];clear e hf;go_enter Tryz.func43,Tryz.ntmps43
  go_wp2_with (go_at_call 101;refine Q4 HF.out ?_);go_ret;exact⟨_,rfl,ListIs_o.nil _ _,Out.refl _ _ _⟩
 ·rw[hf] at HF;obtain⟨b1,b2⟩:=z4m hf;have e:z0l k s=q1i k s.toNat:=by unfold z0l;rw[hf];rfl
  rw[e];obtain⟨q,rfl⟩:∃ q:Nat,s=q:=⟨s.toNat,by omega⟩
  rw[show ((q:Nat):Int).toNat=q from by omega];have HR:=Q3 (q3q k);obtain⟨i0,pA,jX,hz1,jW⟩:=q5a j2m;have HQ:Hid (1<=q/\q<=1024):=by show _/\_;omega
  clear e hf b1 b2;go_enter Tryz.func43,Tryz.ntmps43
  go_wp2_with (go_at_call 101;refine Q4 HF.out ?_);go_loopw [5,6] (fun o x wr=>∃ p:Nat,1<=p/\p<=q/\x=Iz p/\ListIs_o wr w.heap.size o (q1i k p)/\Out 0 0 w wr) (fun _ x _=>q-(intOf x).toNat)
  case atStart=>exact⟨1,Nat.le_refl _,HQ.out.1,rfl,by rw[j9r];exact ListIs_o.nil _ _,Out.refl _ _ _⟩
  case round=>
   obtain⟨p,p1,p2,rfl,hl,ho⟩:=hrel;have HL:=Q3 hl;have HO:=Q3 ho;have p0:(0:Int)<=(p:Int):=by omega
   have HP:=Q3 p1;clear hl ho p1;by_cases oQ:p<q
   ·have g1:(p:Int)<(q:Int):=by omega
    have g2:(q:Int)<=1024:=by have:=HQ.out;omega
    obtain⟨r,hr⟩:∃ r,z4d k p=r:=⟨_,rfl⟩
    have HRp:=Q3 (fun w=>q3q k p w);rw[hr] at HRp;by_cases h1:r=1
    ·have hn:(r != 1)=false:=by simp[h1]
     have HE:=Q3 (j9s (h1 ▸ hr));clear hr h1;go_wp2_with (go_at_call 102;refine Q4 (HRp.out _) ?_);go_roundw
     case rel=>exact⟨p+1,by omega,by omega,by go_num,by rw[HE.out];exact HL.out,HO.out⟩
     case measure=>simp[intOf];omega
    ·have hn:(r != 1)=true:=by simp[h1]
     have HE:=Q3 (x3w HP.out (by rw[hr];exact h1));clear hr h1;have HW:Hid (w.heap.size<=wr.heap.size):=HO.out.size;go_wp2_with (first | (go_at_call 102;refine Q4 (HRp.out _) ?_) | (at_builtin;refine wpList_append_lies _ rfl _ _ 70 rfl w.heap.size 3 i0 (Iz 0) 1 8 Tryz.underlying70 pA jX hz1 jW rfl (by decide) _ _ _ rfl (HL.out.kept ((Out.refl 0 0 _).alloc _) (Nat.zero_le _)) ⟨wr.heap.size,0,none⟩ 1 1 [Iz p] rfl rfl (cell_one_new _ _ _) ?c2 (by decide) ?c3 ?c4 ?c5 _ rfl ?_))
     case c2=>intro u hu;simp at hu;subst hu;rfl
     case c3=>unfold maxLen;have:=q2s k p;omega
     case c4=>have:=q2s k p;omega
     case c5=>have:=HW.out;simp;omega
     intro g cap w1 lF bC hat eR;have hO1:=j6q (HL.out.kept ((Out.refl 0 0 _).alloc _) (Nat.zero_le _)) bC;have bK:Hid (Out 0 0 w w1):=(HO.out.trans ((Out.refl 0 0 _).alloc _)).past hO1 (Nat.le_refl _);have HL1:Hid (ListIs_o w1 w.heap.size (Sz g ((q1i k p).length+1) cap) (q1i k (p+1))):=by
      show World.ownsRow _ _ _ _ _ _ _
      rw[HE.out,List.length_append];have:q1l (q1i k p ++ [p])=q1l (q1i k p) ++ [Iz p]:=by simp[q1l]
      rw[this];exact lF
     generalize (q1i k p).length+1=ln at *
     clear lF bC hat eR hO1;go_wp2;go_roundw
     case rel=>exact⟨p+1,by omega,by omega,by go_num,HL1.out,bK.out⟩
     case measure=>simp[intOf];omega
   ·have g1:(q:Int)<=(p:Int):=by omega
    have:p=q:=by omega
    subst this;clear oQ;go_wp2;go_ret;exact⟨_,rfl,HL.out,HO.out⟩
theorem x4x {w w1 w2:World} (h:Out 0 0 w w1) (g:Below w1.heap.size w1 w2):Out 0 0 w w2:=h.trans (Out.of_below g _ _)
theorem z0w {f:FuncId} {args:Array Value} {v:Value} {w:World} {w0:World} (h:Calls Tryz.prog f args w (fun e w'=>e=.returned v/\Below w.heap.size w w')) (h0:Out 0 0 w0 w):Calls Tryz.prog f args w (fun e w'=>e=.returned v/\Out 0 0 w0 w'):=
 h.mono fun _ _ ⟨he,hb⟩=>⟨he,x4x h0 hb⟩
theorem j7l {s:Int} (h:32<s) (h2:s<=1024):((U1 s:Nat):Int)=B9 s*64/\0<B9 s/\B9 s<=16:=by
 unfold U1 B9;rw[if_pos h,if_pos ⟨h,h2⟩];omega
theorem q0i {s:Int} (h1:1<=s) (h:s<=32):((U1 s:Nat):Int)=Y5 (ofV s)/\B9 s=0:=by
 have:=z0b h1 h;unfold U1 wN B9;rw[if_neg (by omega),if_neg (by omega)];omega
theorem j1a (s:Int) (h1:1<=s) (h2:s<=1024) (w:World):Kz 179 #[Iz s] w fun e w'=>e=.returned (Iz (U1 s:Nat))/\Out 0 0 w w':=by
 have HP:=Q3 (z0w (q0a s w) (Out.refl 0 0 w));by_cases h:32<s
 ·obtain⟨e1,e2,e3⟩:=j7l h h2;rw[e1];generalize B9 s=k at *
  clear h h1 h2 e1;go_enter Tryz.func179,Tryz.ntmps179
  go_wp2_with (go_at_call 175;refine HP.out.mono ?_;rintro e w1 ⟨rfl,ho⟩);go_ret;exact⟨rfl,ho⟩
 ·obtain⟨e1,e2⟩:=q0i h1 (by omega);rw[e1];rw[e2] at HP;have HO:=Q3 (fun w' (h:Out 0 0 w w')=>z0w (j0q s w') h);have HW:=Q3 (fun w' (h:Out 0 0 w w')=>z0w (q1f (ofV s) w') h);generalize ofV s=c at *
  generalize Y5 c=k at *
  clear h h1 h2 e1 e2;go_enter Tryz.func179,Tryz.ntmps179
  go_wp2_with (first
   | (go_at_call 175;refine HP.out.mono ?_;rintro e w1 ⟨rfl,ho⟩)
   | (go_at_call 178;refine(HO.out _ ho).mono ?_;rintro e w2 ⟨rfl,gN⟩)
   | (go_at_call 202;refine(HW.out _ gN).mono ?_;rintro e w3 ⟨rfl,fJ⟩))
  go_ret;exact⟨rfl,fJ⟩
section
variable {w:World} {lo hi n cap:Nat} {s:Nat->Nat} {r:Raw}
def z6u (r:Raw) (a:Int):Int:=match r.M a with | none=>22 | some b=>if r.W a.toNat=F0 a b.1 b.2.1 then 0 else 21
def z5m (r:Raw) (a:Int):Int:=match r.M a with | none=>0 | some b=>if r.W a.toNat=F0 a b.1 b.2.1 then 0 else a
def U6 (n:Nat) (r:Raw):Prop:=∀ a b,r.M a=some b->0<=a/\a+b.2.1<=64*n/\1<=b.2.1/\b.2.1<=1024
theorem flt_facts {w:World} {g:Nat} {x y:Int} {T:TypeId} (h:w.heap[g]? = some (.cells #[.int .i64 x,.int .i64 y] T (0,0))) :
  w.cell? ⟨g,0,none⟩=some (.int .i64 x)/\w.cell? ⟨g,1,none⟩=some (.int .i64 y)/\w.frozen? ⟨g,0,none⟩=false/\w.frozen? ⟨g,1,none⟩=false:=by
 refine⟨?_,?_,?_,?_⟩ <;> simp[World.cell?,World.frozen?,h]
theorem J5 {w:World} {g:Nat} {x y x' y':Int} {T:TypeId} (h:w.heap[g]? = some (.cells #[.int .i64 x,.int .i64 y] T (0,0))) :
  ((w.setCell ⟨g,0,none⟩ (.int .i64 x')).setCell ⟨g,1,none⟩ (.int .i64 y')).heap[g]? = some (.cells #[.int .i64 x',.int .i64 y'] T (0,0)):=by
 simp[World.setCell,Array.getElem?_modify,h]
theorem Out.set2 {lo hi:Nat} {a w:World} (h:Out lo hi a w) {b o o':Nat} (hp:(lo<=b/\b<hi)\/a.heap.size<=b) (x y:Value):Out lo hi a ((w.setCell ⟨b,o,none⟩ x).setCell ⟨b,o',none⟩ y):=
 (h.setCell (p:=⟨b,o,none⟩) hp x).setCell (p:=⟨b,o',none⟩) hp y
def bz:Obj:=.cells #[.int .i64 0,.int .i64 0,.int .i64 0,.int .i64 0,.int .i64 0] 81
def bo (a k z x t:Int):Obj:=.cells #[.int .i64 a,.int .i64 k,.int .i64 z,.int .i64 x,.int .i64 t] 81
theorem F7 {w:World} {g:Nat} {a k z x t:Int} (h:w.heap[g]? = some (bo a k z x t)) :
  w.cell? ⟨g,0,none⟩=some (.int .i64 a)/\w.cell? ⟨g,1,none⟩=some (.int .i64 k)/\w.cell? ⟨g,2,none⟩=some (.int .i64 z)/\w.cell? ⟨g,3,none⟩=some (.int .i64 x)/\w.cell? ⟨g,4,none⟩=some (.int .i64 t):=by
 unfold bo at h;refine⟨?_,?_,?_,?_,?_⟩ <;> simp[World.cell?,h]
theorem z9h (h:RawAt w lo hi s n cap r) (hM:U6 n r) (a:Int):Kz 107 #[Pq (s 14),Iz a] w fun e w'=>e=.returned (z7t (z6u r a) (z5m r a))/\Out 0 0 w w':=by
 have h0:Out 0 0 w (w.alloc (Dz 0 0 46)):=(Out.refl 0 0 w).alloc _;have hz:(w.alloc (Dz 0 0 46)).heap[w.heap.size]? = some (Dz 0 0 46):=heap_alloc_new _ _;have HZ:=Q3 hz;have H0:=Q3 h0;cases hm:r.M a with
 | none=>
  have HB:=Q3 (z5c (h.quiet h0) hm);have e1:z6u r a=22:=by unfold z6u;rw[hm]
  have e2:z5m r a=0:=by unfold z5m;rw[hm]
  rw[e1,e2];clear h hM hm e1 e2 h0 hz;go_enter Tryz.func107,Tryz.ntmps107
  go_wp2_with (go_at_call 100;refine HB.out.mono ?_;rintro e w1 ⟨rfl,ho⟩;obtain⟨q0,q1,q2,q3⟩:=flt_facts ((ho.alloc (Ez 0 0 0 0 0 81)).heap HZ.out z0);have HO:=Q3 ho;clear ho);refine z4x Tryz.results107 rfl rfl (J5 ((HO.out.alloc _).heap HZ.out z0)) ⟨rfl,((H0.out.trans HO.out).alloc _).set2 (.inr (Nat.le_refl _)) _ _⟩
 | some b=>
  obtain⟨k,z,x,t⟩:=b;obtain⟨a0,a1',a2',a3'⟩:=hM a _ hm;have a1:a<64*n:=by simp only at a1' a2';omega
  clear a1' a2' a3';obtain⟨c,rfl⟩:∃ c:Nat,a=c:=⟨a.toNat,by omega⟩
  have HB:=Q3 (z0q (h.quiet h0) hm);have HH:=Q3 (fun w' (o:Out 0 0 w w')=>j2k (h.quiet o) (a:=c) (by omega) k z x t);have e1:z6u r (c:Int)=if r.W c=F0 c k z then 0 else 21:=by unfold z6u;rw[hm];rfl
  have e2:z5m r (c:Int)=if r.W c=F0 c k z then 0 else (c:Int):=by unfold z5m;rw[hm];rfl
  rw[e1,e2];have b0:(0:Int)<=(c:Int):=by omega
  generalize hcc:(c:Int)=a at *
  by_cases hv:r.W c=F0 a k z
  ·rw[if_pos hv,if_pos hv];have hb:(r.W c == F0 a k z)=true:=by simp[hv]
   rw[hb] at HH;clear h hM hm e1 e2 h0 hz hv hb a1;go_enter Tryz.func107,Tryz.ntmps107
   go_wp2_with (first
    | (go_at_call 100;refine HB.out.mono ?_;rintro e w1 ⟨rfl,ho⟩;obtain⟨q0,q1,q2,q3⟩:=flt_facts ((ho.alloc (Ez a k z x t 81)).heap HZ.out z0);have HO:=Q3 (ho.alloc (Ez a k z x t 81));clear ho)
    | (go_at_call 157;refine(HH.out _ (H0.out.trans HO.out)).mono ?_;rintro e w2 ⟨rfl,ho⟩;obtain⟨q4,q5,q6,q7⟩:=flt_facts ((HO.out.trans ho).heap HZ.out z0);have aI:=Q3 (HO.out.trans ho);clear ho q0 q1 q2 q3))
   refine z4x Tryz.results107 rfl rfl (J5 (aI.out.heap HZ.out z0)) ⟨rfl,(H0.out.trans aI.out).set2 (.inr (Nat.le_refl _)) _ _⟩
  ·rw[if_neg hv,if_neg hv];have hb:(r.W c == F0 a k z)=false:=by simp[hv]
   rw[hb] at HH;clear h hM hm e1 e2 h0 hz hv hb a1;go_enter Tryz.func107,Tryz.ntmps107
   go_wp2_with (first
    | (go_at_call 100;refine HB.out.mono ?_;rintro e w1 ⟨rfl,ho⟩;obtain⟨q0,q1,q2,q3⟩:=flt_facts ((ho.alloc (Ez a k z x t 81)).heap HZ.out z0);have HO:=Q3 (ho.alloc (Ez a k z x t 81));clear ho)
    | (go_at_call 157;refine(HH.out _ (H0.out.trans HO.out)).mono ?_;rintro e w2 ⟨rfl,ho⟩;obtain⟨q4,q5,q6,q7⟩:=flt_facts ((HO.out.trans ho).heap HZ.out z0);have aI:=Q3 (HO.out.trans ho);clear ho q0 q1 q2 q3))
   refine z4x Tryz.results107 rfl rfl (J5 (aI.out.heap HZ.out z0)) ⟨rfl,(H0.out.trans aI.out).set2 (.inr (Nat.le_refl _)) _ _⟩
def q4b (r:Raw) (a i:Int):Int:=match r.M a with | none=>22 | some b=>if r.W a.toNat=F0 a b.1 b.2.1 then (if i<1\/b.2.1<=i then 23 else 0) else 21
theorem wrdA (r:Raw) (a i:Int) (h:z6u r a ≠ 0):q4b r a i=z6u r a:=by
 unfold q4b;unfold z6u at h ⊢;cases hm:r.M a with
 | none=>rfl
 | some b=>
  rw[hm] at h;by_cases hv:r.W a.toNat=F0 a b.1 b.2.1
  ·exact absurd (by simp[hv]) h
  ·simp[hv]
theorem chk0 {r:Raw} {a:Int} (h:z6u r a=0):z5m r a=0/\∃ b,r.M a=some b/\r.W a.toNat=F0 a b.1 b.2.1:=by
 unfold z6u at h;unfold z5m;cases hm:r.M a with
 | none=>rw[hm] at h;simp at h
 | some b=>
  rw[hm] at h;by_cases hv:r.W a.toNat=F0 a b.1 b.2.1
  ·exact⟨by simp[hv],b,rfl,hv⟩
  ·simp[hv] at h
theorem q2l (h:RawAt w lo hi s n cap r) (hM:U6 n r) (a i:Int):Kz 144 #[Pq (s 14),Iz a,Iz i] w fun e w'=>e=.returned (z7t (q4b r a i) (z5m r a))/\Out 0 0 w w':=by
 have h0:Out 0 0 w (w.alloc (Dz 0 0 46)):=(Out.refl 0 0 w).alloc _;have hz:(w.alloc (Dz 0 0 46)).heap[w.heap.size]? = some (Dz 0 0 46):=heap_alloc_new _ _;have HZ:=Q3 hz;have H0:=Q3 h0;have HC:=Q3 (z9h (h.quiet h0) hM a);unfold z7t at HC;by_cases hc:z6u r a=0
 ·obtain⟨e2,⟨k,z,x,t⟩,hm,hv⟩:=chk0 hc;rw[hc,e2] at HC;rw[e2];have HB:=Q3 (fun w' (o:Out 0 0 w w')=>z0q (h.quiet o) hm);have e3:q4b r a i=if i<1\/z<=i then 23 else 0:=by unfold q4b;rw[hm];simp only;rw[if_pos hv]
  rw[e3];have e4:((0:Int) != 0)=false:=rfl;by_cases h1:i<1
  ·rw[if_pos (.inl h1)];clear h hM hm e2 e3 h0 hz hv hc;go_enter Tryz.func144,Tryz.ntmps144
   go_wp2_with (first
    | (go_at_call 107;refine HC.out.mono ?_;rintro e w1 ⟨rfl,ho⟩;have HO:=Q3 (ho.alloc (Dz 0 0 46));clear ho)
    | (go_at_call 100;refine(HB.out _ (H0.out.trans HO.out)).mono ?_;rintro e w2 ⟨rfl,ho⟩;obtain⟨q4,q5,q6,q7⟩:=flt_facts (((HO.out.trans ho).alloc (Ez a k z x t 81)).heap HZ.out z0);have aI:=Q3 ((HO.out.trans ho).alloc (Ez a k z x t 81));clear ho))
   refine z4x Tryz.results144 rfl rfl (J5 (aI.out.heap HZ.out z0)) ⟨rfl,(H0.out.trans aI.out).set2 (.inr (Nat.le_refl _)) _ _⟩
  ·have h1':1<=i:=by omega
   by_cases h2:z<=i
   ·rw[if_pos (.inr h2)];clear h hM hm e2 e3 h0 hz hv hc h1;go_enter Tryz.func144,Tryz.ntmps144
    go_wp2_with (first
     | (go_at_call 107;refine HC.out.mono ?_;rintro e w1 ⟨rfl,ho⟩;have HO:=Q3 (ho.alloc (Dz 0 0 46));clear ho)
     | (go_at_call 100;refine(HB.out _ (H0.out.trans HO.out)).mono ?_;rintro e w2 ⟨rfl,ho⟩;obtain⟨q4,q5,q6,q7⟩:=flt_facts (((HO.out.trans ho).alloc (Ez a k z x t 81)).heap HZ.out z0);have aI:=Q3 ((HO.out.trans ho).alloc (Ez a k z x t 81));clear ho))
    refine z4x Tryz.results144 rfl rfl (J5 (aI.out.heap HZ.out z0)) ⟨rfl,(H0.out.trans aI.out).set2 (.inr (Nat.le_refl _)) _ _⟩
   ·rw[if_neg (by omega)];have jR:i<z:=by omega
    clear h hM hm e2 e3 h0 hz hv hc h1 h2;go_enter Tryz.func144,Tryz.ntmps144
    go_wp2_with (first
     | (go_at_call 107;refine HC.out.mono ?_;rintro e w1 ⟨rfl,ho⟩;have HO:=Q3 (ho.alloc (Dz 0 0 46));clear ho)
     | (go_at_call 100;refine(HB.out _ (H0.out.trans HO.out)).mono ?_;rintro e w2 ⟨rfl,ho⟩;obtain⟨q4,q5,q6,q7⟩:=flt_facts (((HO.out.trans ho).alloc (Ez a k z x t 81)).heap HZ.out z0);have aI:=Q3 ((HO.out.trans ho).alloc (Ez a k z x t 81));clear ho))
    refine z4x Tryz.results144 rfl rfl (J5 (aI.out.heap HZ.out z0)) ⟨rfl,(H0.out.trans aI.out).set2 (.inr (Nat.le_refl _)) _ _⟩
 ·rw[wrdA r a i hc];have e4:(z6u r a != 0)=true:=by simpa using hc
  generalize z6u r a=u at *
  generalize z5m r a=v at *
  clear h hM h0 hz hc;go_enter Tryz.func144,Tryz.ntmps144
  go_wp2_with (first
   | (go_at_call 107;refine HC.out.mono ?_;rintro e w1 ⟨rfl,ho⟩;obtain⟨q4,q5,q6,q7⟩:=flt_facts ((ho.alloc (Dz u v 46)).heap HZ.out z0);have HO:=Q3 (ho.alloc (Dz u v 46));clear ho))
  refine z4x Tryz.results144 rfl rfl (J5 (HO.out.heap HZ.out z0)) ⟨rfl,(H0.out.trans HO.out).set2 (.inr (Nat.le_refl _)) _ _⟩
end
theorem W8 {w w':World} (h:Below w.heap.size w w'):Out 0 0 w w':=⟨h.os,h.tape,h.output,h.size,fun k hk _=>h.block k hk⟩
theorem z1x (w:World) (g:Nat) (y0 y1:Value):Out g (g+1) w ((w.setCell ⟨g,0,none⟩ y0).setCell ⟨g,1,none⟩ y1):=
 (Out.refl _ _ _).zo2 z1 _ _
theorem q0r {g:Nat} {x y:Int} {w:World} (hg:w.heap[g]? = some (.cells #[.int .i64 x,.int .i64 y] 46 (0,0))) :
  CallsD Tryz.prog 38 #[.pointer (some ⟨g,0,none⟩)] .returning w fun e u' w'=>e=.returned (.tuple #[])/\u'=.returning/\w'.heap[g]? = some (.cells #[.int .i64 0,.int .i64 0] 46 (0,0))/\Out g (g+1) w w':=by
 refine callsD_of_wpS Tryz.func38 rfl fun c₀ cs hu=>?_
 apply wpS_region;simp[wpOpsS,go_sem,recoverD,hu,Tryz.ntmps38,Exit.thenS];refine(z2d w).mono ?_;rintro e w1 ⟨rfl,o1⟩;have h1:=o1.heap hg z0;obtain⟨a1,a2,a3,a4⟩:=flt_facts h1;have h2:=J5 (x':=0) (y':=0) h1;have h3:=(o1.any g (g+1)).trans (z1x w1 g (.int .i64 0) (.int .i64 0));have c2:(w1.setCell ⟨g,0,none⟩ (.int .i64 0)).cell? ⟨g,1,none⟩=some (.int .i64 y):=by simp[World.cell?,World.setCell,Array.getElem?_modify,h1]
 have c3:(w1.setCell ⟨g,0,none⟩ (.int .i64 0)).frozen? ⟨g,1,none⟩=false:=by simp[World.frozen?,World.setCell,Array.getElem?_modify,h1]
 simp[go_sem,storeCells,a1,a2,a3,a4,c2,c3,bodyPostS,results,Tryz.results38];cases c₀;simp_all
theorem z2w {g:Nat} {x y e a:Int} {older:List PanicEntry} {w:World} (hg:w.heap[g]? = some (.cells #[.int .i64 x,.int .i64 y] 46 (0,0))) :
  CallsD Tryz.prog 38 #[.pointer (some ⟨g,0,none⟩)] (.panicking (z0u e a :: older)) w fun e' u' w'=>e'=.returned (.tuple #[])/\u'=.panicking ({ v:=.iface 162 (.agg #[.int .i64 e,.int .i64 a]),recovered:=true } :: older)/\w'.heap[g]? = some (.cells #[.int .i64 e,.int .i64 a] 46 (0,0))/\Out g (g+1) w w':=by
 refine callsD_of_wpS Tryz.func38 rfl fun c₀ cs hu=>?_
 apply wpS_region;unfold z0u at hu;simp[wpOpsS,go_sem,recoverD,hu,Tryz.ntmps38,Exit.thenS];refine(z1i e a w).mono ?_;rintro e' w1 ⟨rfl,o1⟩;have h1:=o1.heap hg z0;obtain⟨a1,a2,a3,a4⟩:=flt_facts h1;have h2:=J5 (x':=e) (y':=a) h1;have h3:=(o1.any g (g+1)).trans (z1x w1 g (.int .i64 e) (.int .i64 a));have c2:(w1.setCell ⟨g,0,none⟩ (.int .i64 e)).cell? ⟨g,1,none⟩=some (.int .i64 y):=by simp[World.cell?,World.setCell,Array.getElem?_modify,h1]
 have c3:(w1.setCell ⟨g,0,none⟩ (.int .i64 e)).frozen? ⟨g,1,none⟩=false:=by simp[World.frozen?,World.setCell,Array.getElem?_modify,h1]
 simp[go_sem,storeCells,a1,a2,a3,a4,c2,c3,bodyPostS,results,Tryz.results38];exact⟨h2,h3⟩
theorem q2j {g:Nat} {x y:Int} {w:World} (hg:w.heap[g]? = some (.cells #[.int .i64 x,.int .i64 y] 46 (0,0))) :
  CallsD Tryz.prog 53 #[.pointer (some ⟨g,0,none⟩)] .returning w fun e u' w'=>e=.returned (.tuple #[])/\u'=.returning/\w'.heap[g]? = some (.cells #[.int .i64 0,.int .i64 0] 46 (0,0))/\Out g (g+1) w w':=by
 refine callsD_of_wpS Tryz.func53 rfl fun c₀ cs hu=>?_
 apply wpS_region;simp[wpOpsS,go_sem,recoverD,hu,Tryz.ntmps53,Exit.thenS];refine(z2d w).mono ?_;rintro e w1 ⟨rfl,o1⟩;have h1:=o1.heap hg z0;obtain⟨a1,a2,a3,a4⟩:=flt_facts h1;have h2:=J5 (x':=0) (y':=0) h1;have h3:=(o1.any g (g+1)).trans (z1x w1 g (.int .i64 0) (.int .i64 0));have c2:(w1.setCell ⟨g,0,none⟩ (.int .i64 0)).cell? ⟨g,1,none⟩=some (.int .i64 y):=by simp[World.cell?,World.setCell,Array.getElem?_modify,h1]
 have c3:(w1.setCell ⟨g,0,none⟩ (.int .i64 0)).frozen? ⟨g,1,none⟩=false:=by simp[World.frozen?,World.setCell,Array.getElem?_modify,h1]
 simp[go_sem,storeCells,a1,a2,a3,a4,c2,c3,bodyPostS,results,Tryz.results53];cases c₀;simp_all
theorem z3l {g:Nat} {x y e a:Int} {older:List PanicEntry} {w:World} (hg:w.heap[g]? = some (.cells #[.int .i64 x,.int .i64 y] 46 (0,0))) :
  CallsD Tryz.prog 53 #[.pointer (some ⟨g,0,none⟩)] (.panicking (z0u e a :: older)) w fun e' u' w'=>e'=.returned (.tuple #[])/\u'=.panicking ({ v:=.iface 162 (.agg #[.int .i64 e,.int .i64 a]),recovered:=true } :: older)/\w'.heap[g]? = some (.cells #[.int .i64 e,.int .i64 a] 46 (0,0))/\Out g (g+1) w w':=by
 refine callsD_of_wpS Tryz.func53 rfl fun c₀ cs hu=>?_
 apply wpS_region;unfold z0u at hu;simp[wpOpsS,go_sem,recoverD,hu,Tryz.ntmps53,Exit.thenS];refine(z1i e a w).mono ?_;rintro e' w1 ⟨rfl,o1⟩;have h1:=o1.heap hg z0;obtain⟨a1,a2,a3,a4⟩:=flt_facts h1;have h2:=J5 (x':=e) (y':=a) h1;have h3:=(o1.any g (g+1)).trans (z1x w1 g (.int .i64 e) (.int .i64 a));have c2:(w1.setCell ⟨g,0,none⟩ (.int .i64 e)).cell? ⟨g,1,none⟩=some (.int .i64 y):=by simp[World.cell?,World.setCell,Array.getElem?_modify,h1]
 have c3:(w1.setCell ⟨g,0,none⟩ (.int .i64 e)).frozen? ⟨g,1,none⟩=false:=by simp[World.frozen?,World.setCell,Array.getElem?_modify,h1]
 simp[go_sem,storeCells,a1,a2,a3,a4,c2,c3,bodyPostS,results,Tryz.results53];exact⟨h2,h3⟩
theorem q2k {g:Nat} {x y:Int} {w:World} (hg:w.heap[g]? = some (.cells #[.int .i64 x,.int .i64 y] 46 (0,0))) :
  CallsD Tryz.prog 48 #[.pointer (some ⟨g,0,none⟩)] .returning w fun e u' w'=>e=.returned (.tuple #[])/\u'=.returning/\w'.heap[g]? = some (.cells #[.int .i64 0,.int .i64 0] 46 (0,0))/\Out g (g+1) w w':=by
 refine callsD_of_wpS Tryz.func48 rfl fun c₀ cs hu=>?_
 apply wpS_region;simp[wpOpsS,go_sem,recoverD,hu,Tryz.ntmps48,Exit.thenS];refine(z2d w).mono ?_;rintro e w1 ⟨rfl,o1⟩;have h1:=o1.heap hg z0;obtain⟨a1,a2,a3,a4⟩:=flt_facts h1;have h2:=J5 (x':=0) (y':=0) h1;have h3:=(o1.any g (g+1)).trans (z1x w1 g (.int .i64 0) (.int .i64 0));have c2:(w1.setCell ⟨g,0,none⟩ (.int .i64 0)).cell? ⟨g,1,none⟩=some (.int .i64 y):=by simp[World.cell?,World.setCell,Array.getElem?_modify,h1]
 have c3:(w1.setCell ⟨g,0,none⟩ (.int .i64 0)).frozen? ⟨g,1,none⟩=false:=by simp[World.frozen?,World.setCell,Array.getElem?_modify,h1]
 simp[go_sem,storeCells,a1,a2,a3,a4,c2,c3,bodyPostS,results,Tryz.results48];cases c₀;simp_all
theorem z2c {g:Nat} {x y e a:Int} {older:List PanicEntry} {w:World} (hg:w.heap[g]? = some (.cells #[.int .i64 x,.int .i64 y] 46 (0,0))) :
  CallsD Tryz.prog 48 #[.pointer (some ⟨g,0,none⟩)] (.panicking (z0u e a :: older)) w fun e' u' w'=>e'=.returned (.tuple #[])/\u'=.panicking ({ v:=.iface 162 (.agg #[.int .i64 e,.int .i64 a]),recovered:=true } :: older)/\w'.heap[g]? = some (.cells #[.int .i64 e,.int .i64 a] 46 (0,0))/\Out g (g+1) w w':=by
 refine callsD_of_wpS Tryz.func48 rfl fun c₀ cs hu=>?_
 apply wpS_region;unfold z0u at hu;simp[wpOpsS,go_sem,recoverD,hu,Tryz.ntmps48,Exit.thenS];refine(z1i e a w).mono ?_;rintro e' w1 ⟨rfl,o1⟩;have h1:=o1.heap hg z0;obtain⟨a1,a2,a3,a4⟩:=flt_facts h1;have h2:=J5 (x':=e) (y':=a) h1;have h3:=(o1.any g (g+1)).trans (z1x w1 g (.int .i64 e) (.int .i64 a));have c2:(w1.setCell ⟨g,0,none⟩ (.int .i64 e)).cell? ⟨g,1,none⟩=some (.int .i64 y):=by simp[World.cell?,World.setCell,Array.getElem?_modify,h1]
 have c3:(w1.setCell ⟨g,0,none⟩ (.int .i64 e)).frozen? ⟨g,1,none⟩=false:=by simp[World.frozen?,World.setCell,Array.getElem?_modify,h1]
 simp[go_sem,storeCells,a1,a2,a3,a4,c2,c3,bodyPostS,results,Tryz.results48];exact⟨h2,h3⟩
theorem z5x {g:Nat} {x y:Int} {w:World} (hg:w.heap[g]? = some (.cells #[.int .i64 x,.int .i64 y] 46 (0,0))) :
  CallsD Tryz.prog 120 #[.pointer (some ⟨g,0,none⟩)] .returning w fun e u' w'=>e=.returned (.tuple #[])/\u'=.returning/\w'.heap[g]? = some (.cells #[.int .i64 0,.int .i64 0] 46 (0,0))/\Out g (g+1) w w':=by
 refine callsD_of_wpS Tryz.func120 rfl fun c₀ cs hu=>?_
 apply wpS_region;simp[wpOpsS,go_sem,recoverD,hu,Tryz.ntmps120,Exit.thenS];refine(z2d w).mono ?_;rintro e w1 ⟨rfl,o1⟩;have h1:=o1.heap hg z0;obtain⟨a1,a2,a3,a4⟩:=flt_facts h1;have h2:=J5 (x':=0) (y':=0) h1;have h3:=(o1.any g (g+1)).trans (z1x w1 g (.int .i64 0) (.int .i64 0));have c2:(w1.setCell ⟨g,0,none⟩ (.int .i64 0)).cell? ⟨g,1,none⟩=some (.int .i64 y):=by simp[World.cell?,World.setCell,Array.getElem?_modify,h1]
 have c3:(w1.setCell ⟨g,0,none⟩ (.int .i64 0)).frozen? ⟨g,1,none⟩=false:=by simp[World.frozen?,World.setCell,Array.getElem?_modify,h1]
 simp[go_sem,storeCells,a1,a2,a3,a4,c2,c3,bodyPostS,results,Tryz.results120];cases c₀;simp_all
theorem z2q {g:Nat} {x y e a:Int} {older:List PanicEntry} {w:World} (hg:w.heap[g]? = some (.cells #[.int .i64 x,.int .i64 y] 46 (0,0))) :
  CallsD Tryz.prog 120 #[.pointer (some ⟨g,0,none⟩)] (.panicking (z0u e a :: older)) w fun e' u' w'=>e'=.returned (.tuple #[])/\u'=.panicking ({ v:=.iface 162 (.agg #[.int .i64 e,.int .i64 a]),recovered:=true } :: older)/\w'.heap[g]? = some (.cells #[.int .i64 e,.int .i64 a] 46 (0,0))/\Out g (g+1) w w':=by
 refine callsD_of_wpS Tryz.func120 rfl fun c₀ cs hu=>?_
 apply wpS_region;unfold z0u at hu;simp[wpOpsS,go_sem,recoverD,hu,Tryz.ntmps120,Exit.thenS];refine(z1i e a w).mono ?_;rintro e' w1 ⟨rfl,o1⟩;have h1:=o1.heap hg z0;obtain⟨a1,a2,a3,a4⟩:=flt_facts h1;have h2:=J5 (x':=e) (y':=a) h1;have h3:=(o1.any g (g+1)).trans (z1x w1 g (.int .i64 e) (.int .i64 a));have c2:(w1.setCell ⟨g,0,none⟩ (.int .i64 e)).cell? ⟨g,1,none⟩=some (.int .i64 y):=by simp[World.cell?,World.setCell,Array.getElem?_modify,h1]
 have c3:(w1.setCell ⟨g,0,none⟩ (.int .i64 e)).frozen? ⟨g,1,none⟩=false:=by simp[World.frozen?,World.setCell,Array.getElem?_modify,h1]
 simp[go_sem,storeCells,a1,a2,a3,a4,c2,c3,bodyPostS,results,Tryz.results120];exact⟨h2,h3⟩
end Go.Proofs.YtjgnogflgoihfaaGreatDoor
