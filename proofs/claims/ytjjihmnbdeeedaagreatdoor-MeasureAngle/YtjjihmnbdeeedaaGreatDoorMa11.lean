/- Parts of the proof. -/
import Derived.Test.YtjjihmnbdeeedaaGreatDoorMa10
import Derived.Deep.RegionHeld3
import Derived.Test.YtjjihmnbdeeedaaGreatDoorMa8
import Derived.Test.YtjjihmnbdeeedaaGreatDoorMa7
import Derived.Test.YtjjihmnbdeeedaaGreatDoorMa6
import Derived.Test.YtjjihmnbdeeedaaGreatDoorMa9
import Derived.Test.YtjjihmnbdeeedaaGreatDoorMa5
set_option maxRecDepth 100000
set_option maxHeartbeats 8000000
set_option linter.unusedVariables false
set_option linter.unusedSimpArgs false
namespace Go.Proofs.YtjjihmnbdeeedaaGreatDoor
open Go Go.Proofs.Tryz Go.RowKit Go.Proofs.YtjjihmnbdeeedaaGreatDoor.M
theorem rG (w:World) (o0 o1:Obj):Below w.heap.size w ((w.alloc o0).alloc o1)∧((w.alloc o0).alloc o1).heap[w.heap.size]?=some o0∧((w.alloc o0).alloc o1).heap[w.heap.size+1]?=some o1∧((w.alloc o0).alloc o1).heap.size=w.heap.size+1+1 :=
 ⟨ac (af w o0) (af (w.alloc o0) o1),am o1 (aE o0 (by rfl)),aE o1 (by simp only[aw]),by simp only[aw]⟩
theorem Fc (w:World) (o0 o1 o2:Obj):Below w.heap.size w (((w.alloc o0).alloc o1).alloc o2)∧(((w.alloc o0).alloc o1).alloc o2).heap[w.heap.size]?=some o0∧(((w.alloc o0).alloc o1).alloc o2).heap[w.heap.size+1]?=some o1∧(((w.alloc o0).alloc o1).alloc o2).heap[w.heap.size+1+1]?=some o2∧(((w.alloc o0).alloc o1).alloc o2).heap.size=w.heap.size+1+1+1 :=
 ⟨ac (ac (af w o0) (af (w.alloc o0) o1)) (af ((w.alloc o0).alloc o1) o2),am o2 (am o1 (aE o0 (by rfl))),am o2 (aE o1 (by simp only[aw])),aE o2 (by simp only[aw]),by simp only[aw]⟩
theorem LG (w:World) (o0 o1 o2 o3:Obj):Below w.heap.size w ((((w.alloc o0).alloc o1).alloc o2).alloc o3)∧((((w.alloc o0).alloc o1).alloc o2).alloc o3).heap[w.heap.size]?=some o0∧((((w.alloc o0).alloc o1).alloc o2).alloc o3).heap[w.heap.size+1]?=some o1∧((((w.alloc o0).alloc o1).alloc o2).alloc o3).heap[w.heap.size+1+1]?=some o2∧((((w.alloc o0).alloc o1).alloc o2).alloc o3).heap[w.heap.size+1+1+1]?=some o3∧((((w.alloc o0).alloc o1).alloc o2).alloc o3).heap.size=w.heap.size+1+1+1+1 :=
 ⟨ac (ac (ac (af w o0) (af (w.alloc o0) o1)) (af ((w.alloc o0).alloc o1) o2)) (af (((w.alloc o0).alloc o1).alloc o2) o3),am o3 (am o2 (am o1 (aE o0 (by rfl)))),am o3 (am o2 (aE o1 (by simp only[aw]))),am o3 (aE o2 (by simp only[aw])),aE o3 (by simp only[aw]),by simp only[aw]⟩
theorem QU (w:World) (o0 o1 o2 o3 o4:Obj):Below w.heap.size w (((((w.alloc o0).alloc o1).alloc o2).alloc o3).alloc o4)∧(((((w.alloc o0).alloc o1).alloc o2).alloc o3).alloc o4).heap[w.heap.size]?=some o0∧(((((w.alloc o0).alloc o1).alloc o2).alloc o3).alloc o4).heap[w.heap.size+1]?=some o1∧(((((w.alloc o0).alloc o1).alloc o2).alloc o3).alloc o4).heap[w.heap.size+1+1]?=some o2∧(((((w.alloc o0).alloc o1).alloc o2).alloc o3).alloc o4).heap[w.heap.size+1+1+1]?=some o3∧(((((w.alloc o0).alloc o1).alloc o2).alloc o3).alloc o4).heap[w.heap.size+1+1+1+1]?=some o4∧(((((w.alloc o0).alloc o1).alloc o2).alloc o3).alloc o4).heap.size=w.heap.size+1+1+1+1+1 :=
 ⟨ac (ac (ac (ac (af w o0) (af (w.alloc o0) o1)) (af ((w.alloc o0).alloc o1) o2)) (af (((w.alloc o0).alloc o1).alloc o2) o3)) (af ((((w.alloc o0).alloc o1).alloc o2).alloc o3) o4),am o4 (am o3 (am o2 (am o1 (aE o0 (by rfl))))),am o4 (am o3 (am o2 (aE o1 (by simp only[aw])))),am o4 (am o3 (aE o2 (by simp only[aw]))),am o4 (aE o3 (by simp only[aw])),aE o4 (by simp only[aw]),by simp only[aw]⟩
theorem oH:wd 0=0:=by decide
def kV (p:Int):Int:=bH (au p) 0
theorem Fd {p:Int} (hp:ag p) (h:ak p=true):FloatKind.f64.format.order (wd p) (wd p)=some .eq:=ii hp hp (bW h) (bW h) rfl
theorem Id {p:Int} (hp:ag p) (h:ak p=true) (w:World) :
  Calls prog 127 #[G7 (wd p)] w fun r w'=>r=.returned (.bool false)∧w'=w:=by
 have e:=Fd hp h
 go_enter func127,ntmps127
 go_wp2
 go_ret
 exact⟨rfl,rfl⟩
theorem AU {p:Int} (hp:ag p) (h:ak p=true) (w:World) :
    Calls prog 64 #[G7 (wd p),G7 0] w fun r w'=>r=.returned (G6 (kV p))∧w'=w:=by
  have r0:ag 0:=by unfold ag;decide
  have p0:ak 0=true:=by decide
  have C1:Hid (∀ W,Calls prog 127 #[G7 (wd p)] W fun r w'=>r=.returned (.bool false)∧w'=W):=fun W=>Id hp h W
  have C2:Hid (∀ W,Calls prog 127 #[G7 0] W fun r w'=>r=.returned (.bool false)∧w'=W):=fun W=>by
    have:=Id r0 p0 W
    rw[oH] at this
    exact this
  have k0:au 0=0:=by decide
  have hord:(FloatKind.f64.format.order (wd p) 0=some .lt∧kV p=-1)∨(FloatKind.f64.format.order (wd p) 0=some .gt∧kV p=1)∨(FloatKind.f64.format.order (wd p) 0=some .eq∧kV p=0):=by
    unfold kV bH
    rcases Int.lt_trichotomy (au p) 0 with g|g|g
    · exact .inl ⟨by have:=iG hp r0 (bW h) (bW p0) (by rw[k0];exact g);rw[oH] at this;exact this,by first|simp[g]|(rw[if_pos g])⟩
    · exact .inr (.inr ⟨by have:=ii hp r0 (bW h) (bW p0) (by rw[k0];exact g);rw[oH] at this;exact this,by rw[g];decide⟩)
    · exact .inr (.inl ⟨by have:=iH hp r0 (bW h) (bW p0) (by rw [k0]; exact g); rw [oH] at this; exact this,by
        have:¬ au p<0:=by omega
        simp [this,g]⟩)
  clear hp h r0 p0 k0
  generalize kV p=s at *
  generalize wd p=P at *
  rcases hord with⟨ho,rfl⟩|⟨ho,rfl⟩|⟨ho,rfl⟩
  all_goals
    go_enter func64,ntmps64
    go_wp2_with fail
    refine(C1.out _).mono ?_
    rintro _ wz ⟨rfl,hwz⟩
    replace hwz:=hwz.symm
    subst hwz
    go_wp2_with fail
    refine(C2.out _).mono ?_
    rintro _ wz ⟨rfl,hwz⟩
    replace hwz:=hwz.symm
    subst hwz
    go_wp2
    go_ret
    exact⟨rfl,rfl⟩
def jb:Int:=4386506037058863104
theorem Ie:wd jb=4386506037058863104:=by decide
theorem qg:ag jb:=by unfold ag jb;omega
theorem DH:ak jb=true:=by decide
theorem If (F0 F1 F2 F3:Nat) (c0 c1 c2 c3:Array Value) {p s:Int} (hp:ag p) (pp:ak p=true) (hs:ag s) (ps:ak s=true) (pm:ak (aC jb s)=true) (hc:au (aC jb s)<rg p) (w:World) (hE0:∀ (cap:Array Value) (w:World),(callFunc F0 cap).run prog w=.ok (.enter F0 cap) w) (C0:∀ W,Below w.heap.size w W->Calls prog F0 c0 W fun r w'=>r=.returned (.tuple #[G7 (wd p),G7 (wd s)])∧Below W.heap.size W w') :
  Calls prog 102 #[.agg #[.func (.func F0) #[] c0,.func (.func F1) #[] c1,.func (.func F2) #[] c2,.func (.func F3) #[] c3]] w fun r w'=>r=.returned (.agg #[G6 (kV p),G6 1])∧Below w.heap.size w w':=by
 have hM:=fun W=>lB (P:=prog) 59 (FW.pat (bW DH) qg) (FW.pat (bW ps) hs) (bW pm) W
 rw[Ie] at hM
 have rM:ag (aC jb s):=bc qg hs
 obtain⟨q1,q2⟩:=jN hp
 have kR:au (rg p)=rg p:=lK q2
 have pR:ak (rg p)=true:=by
  have h1:=lq hp
  have h2:=lq q1
  rw[vQ hp,<- h1] at h2
  rw[h2];exact pp
 have ho:FloatKind.f64.format.order (wd (rg p)) (wd (aC jb s))=some .gt:=iH q1 rM (bW pR) (bW pm) (by rw[kR];exact hc)
 have CA:Hid (∀ W,Calls prog 34 #[G7 (wd p)] W fun e w'=>e=.returned (G7 (wd (rg p)))∧w'=W):=fun W=>eE hp W
 have CC:Hid (∀ W,Calls prog 64 #[G7 (wd p),G7 0] W fun r w'=>r=.returned (G6 (kV p))∧w'=W):=fun W=>AU hp pp W
 clear hp pp hs ps pm hc rM q1 q2 kR pR
 generalize kV p=sp at *
 generalize wd (rg p)=A at *
 generalize wd p=P at *
 generalize wd (aC jb s)=M at *
 generalize wd s=Z at *
 skip
 obtain⟨hb0,s_k,r_k,hsz0⟩:=rG w (.cells #[.func (.func F0) #[] c0,.func (.func F1) #[] c1,.func (.func F2) #[] c2,.func (.func F3) #[] c3] 88) (.cells #[G6 0,G6 0] 28)
 clear hsz0
 have f_s0:=ae s_k 0 rfl
 go_enter func102,ntmps102
 go_wp2_with fail
 clear f_s0
 generalize ((w.alloc (.cells #[.func (.func F0) #[] c0,.func (.func F1) #[] c1,.func (.func F2) #[] c2,.func (.func F3) #[] c3] 88)).alloc (.cells #[G6 0,G6 0] 28))=x0 at hb0 s_k r_k ⊢
 refine(C0 _ hb0).mono ?_
 rintro _ y1 ⟨rfl,hw1⟩
 replace s_k:=aj hw1 s_k
 replace r_k:=aj hw1 r_k
 replace hb0:=ac hb0 hw1
 go_wp2_with fail
 refine(CA.out _).mono ?_
 rintro _ wz ⟨rfl,hwz⟩
 replace hwz:=hwz.symm
 subst hwz
 go_wp2_with fail
 refine(CC.out _).mono ?_
 rintro _ wz ⟨rfl,hwz⟩
 replace hwz:=hwz.symm
 subst hwz
 have k0:=ae r_k 0 rfl
 have k1:=ae r_k 1 rfl
 have z0:=ah r_k 0
 have z1:=ah r_k 1
 go_wp2
 exact bodyPost_ret (v:=.agg #[G6 sp,G6 1]) (by simp[results,results102,go_sem,k0,k1]) rfl ⟨rfl,((hb0.setCell (p:=⟨w.heap.size+1,0,none⟩) (show w.heap.size<=w.heap.size+1 by omega) _).setCell (p:=⟨w.heap.size+1,1,none⟩) (show w.heap.size<=w.heap.size+1 by omega) _)⟩
theorem Ky (F0 F1 F2 F3:Nat) (c0 c1 c2 c3:Array Value) {p s:Int} (hp:ag p) (pp:ak p=true) (hs:ag s) (ps:ak s=true) (pm:ak (aC jb s)=true) (hc:rg p<=au (aC jb s)) (w:World) (hE0:∀ (cap:Array Value) (w:World),(callFunc F0 cap).run prog w=.ok (.enter F0 cap) w) (C0:∀ W,Below w.heap.size w W->Calls prog F0 c0 W fun r w'=>r=.returned (.tuple #[G7 (wd p),G7 (wd s)])∧Below W.heap.size W w') {V:Int} (hE1:∀ (cap:Array Value) (w:World),(callFunc F1 cap).run prog w=.ok (.enter F1 cap) w) (C1:∀ W,Below w.heap.size w W->Calls prog F1 c1 W fun r w'=>∃ o n c,r=.returned (.slice o n c)∧(∀ W2,Below w'.heap.size w' W2->Calls prog 126 #[.slice o n c] W2 fun r2 w2=>r2=.returned (.tuple #[G6 V,G6 0])∧Below W2.heap.size W2 w2)∧Below W.heap.size W w') :
  Calls prog 102 #[.agg #[.func (.func F0) #[] c0,.func (.func F1) #[] c1,.func (.func F2) #[] c2,.func (.func F3) #[] c3]] w fun r w'=>r=.returned (.agg #[G6 V,G6 4])∧Below w.heap.size w w':=by
 have hM:=fun W=>lB (P:=prog) 59 (FW.pat (bW DH) qg) (FW.pat (bW ps) hs) (bW pm) W
 rw[Ie] at hM
 have rM:ag (aC jb s):=bc qg hs
 obtain⟨q1,q2⟩:=jN hp
 have kR:au (rg p)=rg p:=lK q2
 have pR:ak (rg p)=true:=by
  have h1:=lq hp
  have h2:=lq q1
  rw[vQ hp,<- h1] at h2
  rw[h2];exact pp
 have ho:FloatKind.f64.format.order (wd (rg p)) (wd (aC jb s))=some .lt∨FloatKind.f64.format.order (wd (rg p)) (wd (aC jb s))=some .eq:=by
  rcases Int.lt_or_eq_of_le hc with g|g
  ·exact .inl ((iG q1 rM (bW pR) (bW pm) (by rw[kR];exact g)))
  ·exact .inr ((ii q1 rM (bW pR) (bW pm) (by rw[kR];exact g)))
 have CA:Hid (∀ W,Calls prog 34 #[G7 (wd p)] W fun e w'=>e=.returned (G7 (wd (rg p)))∧w'=W):=fun W=>eE hp W
 have CC:Hid (∀ W,Calls prog 64 #[G7 (wd p),G7 0] W fun r w'=>r=.returned (G6 (kV p))∧w'=W):=fun W=>AU hp pp W
 clear hp pp hs ps pm hc rM q1 q2 kR pR
 generalize kV p=sp at *
 generalize wd (rg p)=A at *
 generalize wd p=P at *
 generalize wd (aC jb s)=M at *
 generalize wd s=Z at *
 skip
 rcases ho with ho|ho
 all_goals
  obtain⟨hb0,s_k,r_k,hsz0⟩:=rG w (.cells #[.func (.func F0) #[] c0,.func (.func F1) #[] c1,.func (.func F2) #[] c2,.func (.func F3) #[] c3] 88) (.cells #[G6 0,G6 0] 28)
  clear hsz0
  have f_s0:=ae s_k 0 rfl
  go_enter func102,ntmps102
  go_wp2_with fail
  clear f_s0
  generalize ((w.alloc (.cells #[.func (.func F0) #[] c0,.func (.func F1) #[] c1,.func (.func F2) #[] c2,.func (.func F3) #[] c3] 88)).alloc (.cells #[G6 0,G6 0] 28))=x0 at hb0 s_k r_k ⊢
  refine(C0 _ hb0).mono ?_
  rintro _ y1 ⟨rfl,hw1⟩
  replace s_k:=aj hw1 s_k
  replace r_k:=aj hw1 r_k
  replace hb0:=ac hb0 hw1
  go_wp2_with fail
  refine(CA.out _).mono ?_
  rintro _ wz ⟨rfl,hwz⟩
  replace hwz:=hwz.symm
  subst hwz
  have f_s1:=ae s_k 1 rfl
  go_wp2_with fail
  clear f_s1
  refine(C1 _ hb0).mono ?_
  rintro _ y2 ⟨o,n,c,rfl,CS,hw2⟩
  replace s_k:=aj hw2 s_k
  replace r_k:=aj hw2 r_k
  replace hb0:=ac hb0 hw2
  have CS:Hid (∀ W2,Below y2.heap.size y2 W2->Calls prog 126 #[.slice o n c] W2 fun r2 w2=>r2=.returned (.tuple #[G6 V,G6 0])∧Below W2.heap.size W2 w2):=CS
  go_wp2_with fail
  refine(CS.out _ (ap _)).mono ?_
  rintro _ y3 ⟨rfl,hw3⟩
  replace r_k:=aj hw3 r_k
  replace hb0:=ac hb0 hw3
  have k0:=ae r_k 0 rfl
  have k1:=ae r_k 1 rfl
  have z0:=ah r_k 0
  have z1:=ah r_k 1
  go_wp2
  exact bodyPost_ret (v:=.agg #[G6 V,G6 4]) (by simp[results,results102,go_sem,k0,k1]) rfl ⟨rfl,((hb0.setCell (p:=⟨w.heap.size+1,0,none⟩) (show w.heap.size<=w.heap.size+1 by omega) _).setCell (p:=⟨w.heap.size+1,1,none⟩) (show w.heap.size<=w.heap.size+1 by omega) _)⟩
theorem Ig (F0 F1 F2 F3:Nat) (c0 c1 c2 c3:Array Value) {lo hi V U E:Int} (w:World) (hE2:∀ (cap:Array Value) (w:World),(callFunc F2 cap).run prog w=.ok (.enter F2 cap) w) (C2:∀ W,Below w.heap.size w W->Calls prog F2 c2 W fun r w'=>r=.returned (.agg #[G6 lo,G6 hi])∧Below W.heap.size W w')
  (CS:∀ W,Calls prog 69 #[.agg #[G6 lo,G6 hi]] W fun r w'=>r=.returned (.tuple #[G6 V,.bool true,G6 E])∧Below W.heap.size W w') :
  Calls prog 104 #[.agg #[.func (.func F0) #[] c0,.func (.func F1) #[] c1,.func (.func F2) #[] c2,.func (.func F3) #[] c3]] w fun r w'=>r=.returned (.agg #[G6 V,G6 5])∧Below w.heap.size w w':=by
 obtain⟨hb0,s_k,r_k,hsz0⟩:=rG w (.cells #[.func (.func F0) #[] c0,.func (.func F1) #[] c1,.func (.func F2) #[] c2,.func (.func F3) #[] c3] 88) (.cells #[G6 0,G6 0] 28)
 clear hsz0
 have f_s2:=ae s_k 2 rfl
 go_enter func104,ntmps104
 go_wp2_with fail
 clear f_s2
 generalize ((w.alloc (.cells #[.func (.func F0) #[] c0,.func (.func F1) #[] c1,.func (.func F2) #[] c2,.func (.func F3) #[] c3] 88)).alloc (.cells #[G6 0,G6 0] 28))=x0 at hb0 s_k r_k ⊢
 refine(C2 _ hb0).mono ?_
 rintro _ y1 ⟨rfl,hw1⟩
 replace s_k:=aj hw1 s_k
 replace r_k:=aj hw1 r_k
 replace hb0:=ac hb0 hw1
 have CS:Hid (∀ W,Calls prog 69 #[.agg #[G6 lo,G6 hi]] W fun r w'=>r=.returned (.tuple #[G6 V,.bool true,G6 E])∧Below W.heap.size W w'):=CS
 go_wp2_with fail
 refine(CS.out _).mono ?_
 rintro _ y2 ⟨rfl,hw2⟩
 replace s_k:=aj hw2 s_k
 replace r_k:=aj hw2 r_k
 replace hb0:=ac hb0 hw2
 have k0:=ae r_k 0 rfl
 have k1:=ae r_k 1 rfl
 have z0:=ah r_k 0
 have z1:=ah r_k 1
 go_wp2
 exact bodyPost_ret (v:=.agg #[G6 V,G6 5]) (by simp[results,results104,go_sem,k0,k1]) rfl ⟨rfl,((hb0.setCell (p:=⟨w.heap.size+1,0,none⟩) (show w.heap.size<=w.heap.size+1 by omega) _).setCell (p:=⟨w.heap.size+1,1,none⟩) (show w.heap.size<=w.heap.size+1 by omega) _)⟩
theorem Kz (F0 F1 F2 F3:Nat) (c0 c1 c2 c3:Array Value) {lo hi V U E:Int} (w:World) (hE2:∀ (cap:Array Value) (w:World),(callFunc F2 cap).run prog w=.ok (.enter F2 cap) w) (C2:∀ W,Below w.heap.size w W->Calls prog F2 c2 W fun r w'=>r=.returned (.agg #[G6 lo,G6 hi])∧Below W.heap.size W w')
  (CS:∀ W,Calls prog 69 #[.agg #[G6 lo,G6 hi]] W fun r w'=>r=.returned (.tuple #[G6 V,.bool false,G6 E])∧Below W.heap.size W w') (hE3:∀ (cap:Array Value) (w:World),(callFunc F3 cap).run prog w=.ok (.enter F3 cap) w) (C3:∀ W,Below w.heap.size w W->Calls prog F3 c3 W fun r w'=>∃ g o n c e,r=.returned (.agg #[.bool g,.slice o n c,G6 e])∧(∀ W2,Below w'.heap.size w' W2->Calls prog 70 #[.agg #[.bool g,.slice o n c,G6 e]] W2 fun r2 w2=>r2=.returned (.tuple #[G6 U,G6 0])∧Below W2.heap.size W2 w2)∧Below W.heap.size W w') :
  Calls prog 104 #[.agg #[.func (.func F0) #[] c0,.func (.func F1) #[] c1,.func (.func F2) #[] c2,.func (.func F3) #[] c3]] w fun r w'=>r=.returned (.agg #[G6 U,G6 6])∧Below w.heap.size w w':=by
 obtain⟨hb0,s_k,r_k,hsz0⟩:=rG w (.cells #[.func (.func F0) #[] c0,.func (.func F1) #[] c1,.func (.func F2) #[] c2,.func (.func F3) #[] c3] 88) (.cells #[G6 0,G6 0] 28)
 clear hsz0
 have f_s2:=ae s_k 2 rfl
 go_enter func104,ntmps104
 go_wp2_with fail
 clear f_s2
 generalize ((w.alloc (.cells #[.func (.func F0) #[] c0,.func (.func F1) #[] c1,.func (.func F2) #[] c2,.func (.func F3) #[] c3] 88)).alloc (.cells #[G6 0,G6 0] 28))=x0 at hb0 s_k r_k ⊢
 refine(C2 _ hb0).mono ?_
 rintro _ y1 ⟨rfl,hw1⟩
 replace s_k:=aj hw1 s_k
 replace r_k:=aj hw1 r_k
 replace hb0:=ac hb0 hw1
 have CS:Hid (∀ W,Calls prog 69 #[.agg #[G6 lo,G6 hi]] W fun r w'=>r=.returned (.tuple #[G6 V,.bool false,G6 E])∧Below W.heap.size W w'):=CS
 go_wp2_with fail
 refine(CS.out _).mono ?_
 rintro _ y2 ⟨rfl,hw2⟩
 replace s_k:=aj hw2 s_k
 replace r_k:=aj hw2 r_k
 replace hb0:=ac hb0 hw2
 have f_s3:=ae s_k 3 rfl
 go_wp2_with fail
 clear f_s3
 refine(C3 _ hb0).mono ?_
 rintro _ y3 ⟨g,o,n,c,e,rfl,CD,hw3⟩
 replace r_k:=aj hw3 r_k
 replace hb0:=ac hb0 hw3
 have CD:Hid (∀ W2,Below y3.heap.size y3 W2->Calls prog 70 #[.agg #[.bool g,.slice o n c,G6 e]] W2 fun r2 w2=>r2=.returned (.tuple #[G6 U,G6 0])∧Below W2.heap.size W2 w2):=CD
 go_wp2_with fail
 refine(CD.out _ (ap _)).mono ?_
 rintro _ y4 ⟨rfl,hw4⟩
 replace r_k:=aj hw4 r_k
 replace hb0:=ac hb0 hw4
 have k0:=ae r_k 0 rfl
 have k1:=ae r_k 1 rfl
 have z0:=ah r_k 0
 have z1:=ah r_k 1
 go_wp2
 exact bodyPost_ret (v:=.agg #[G6 U,G6 6]) (by simp[results,results104,go_sem,k0,k1]) rfl ⟨rfl,((hb0.setCell (p:=⟨w.heap.size+1,0,none⟩) (show w.heap.size<=w.heap.size+1 by omega) _).setCell (p:=⟨w.heap.size+1,1,none⟩) (show w.heap.size<=w.heap.size+1 by omega) _)⟩
theorem yR (F0 F1 F2 F3:Nat) (c0 c1 c2 c3:Array Value) {ao:Option Addr} {n cap:Nat} {V U:Int} (w:World) (CT:∀ W,Below w.heap.size w W->Calls prog 101 #[.slice ao n cap] W fun r w'=>r=.returned (.bool true)∧Below W.heap.size W w') (CV:∀ W,Below w.heap.size w W->Calls prog 102 #[.agg #[.func (.func F0) #[] c0,.func (.func F1) #[] c1,.func (.func F2) #[] c2,.func (.func F3) #[] c3]] W fun r w'=>r=.returned (.agg #[G6 V,G6 U])∧Below W.heap.size W w') :
  Calls prog 44 #[.agg #[.func (.func F0) #[] c0,.func (.func F1) #[] c1,.func (.func F2) #[] c2,.func (.func F3) #[] c3],.slice ao n cap] w fun r w'=>r=.returned (.tuple #[.agg #[G6 V,G6 U],G6 0])∧Below w.heap.size w w':=by
 obtain⟨hb0,s_k,r_k,hsz0⟩:=rG w (.cells #[.func (.func F0) #[] c0,.func (.func F1) #[] c1,.func (.func F2) #[] c2,.func (.func F3) #[] c3] 88) (.cells #[G6 0,G6 0] 28)
 clear hsz0
 go_enter func44,ntmps44
 go_wp2_with fail
 generalize ((w.alloc (.cells #[.func (.func F0) #[] c0,.func (.func F1) #[] c1,.func (.func F2) #[] c2,.func (.func F3) #[] c3] 88)).alloc (.cells #[G6 0,G6 0] 28))=x0 at hb0 s_k r_k ⊢
 refine(CT _ hb0).mono ?_
 rintro _ y1 ⟨rfl,hw1⟩
 replace s_k:=aj hw1 s_k
 replace r_k:=aj hw1 r_k
 replace hb0:=ac hb0 hw1
 have CV:Hid (∀ W,Below w.heap.size w W->Calls prog 102 #[.agg #[.func (.func F0) #[] c0,.func (.func F1) #[] c1,.func (.func F2) #[] c2,.func (.func F3) #[] c3]] W fun r w'=>r=.returned (.agg #[G6 V,G6 U])∧Below W.heap.size W w'):=CV
 have f_s0:=ae s_k 0 rfl
 have f_s1:=ae s_k 1 rfl
 have f_s2:=ae s_k 2 rfl
 have f_s3:=ae s_k 3 rfl
 go_wp2_with fail
 clear f_s0 f_s1 f_s2 f_s3
 refine(CV.out _ hb0).mono ?_
 rintro _ y3 ⟨rfl,hw1⟩
 replace s_k:=aj hw1 s_k
 replace r_k:=aj hw1 r_k
 replace hb0:=ac hb0 hw1
 have k0:=ae r_k 0 rfl
 have k1:=ae r_k 1 rfl
 have z0:=ah r_k 0
 have z1:=ah r_k 1
 go_wp2
 exact bodyPost_ret (v:=.tuple #[.agg #[G6 V,G6 U],G6 0]) (by simp[results,results44,go_sem,k0,k1]) rfl ⟨rfl,by first|exact hb0|exact((hb0.setCell (p:=⟨w.heap.size+1,0,none⟩) (show w.heap.size<=w.heap.size+1 by omega) _).setCell (p:=⟨w.heap.size+1,1,none⟩) (show w.heap.size<=w.heap.size+1 by omega) _)⟩
theorem yT (F0 F1 F2 F3:Nat) (c0 c1 c2 c3:Array Value) {ao:Option Addr} {n cap:Nat} {V U:Int} (w:World) (CT:∀ W,Below w.heap.size w W->Calls prog 101 #[.slice ao n cap] W fun r w'=>r=.returned (.bool false)∧Below W.heap.size W w') (CG:∀ W,Below w.heap.size w W->Calls prog 103 #[.slice ao n cap] W fun r w'=>r=.returned (.bool false)∧Below W.heap.size W w') :
  Calls prog 44 #[.agg #[.func (.func F0) #[] c0,.func (.func F1) #[] c1,.func (.func F2) #[] c2,.func (.func F3) #[] c3],.slice ao n cap] w fun r w'=>r=.returned (.tuple #[.agg #[G6 0,G6 0],G6 10])∧Below w.heap.size w w':=by
 obtain⟨hb0,s_k,r_k,hsz0⟩:=rG w (.cells #[.func (.func F0) #[] c0,.func (.func F1) #[] c1,.func (.func F2) #[] c2,.func (.func F3) #[] c3] 88) (.cells #[G6 0,G6 0] 28)
 clear hsz0
 go_enter func44,ntmps44
 go_wp2_with fail
 generalize ((w.alloc (.cells #[.func (.func F0) #[] c0,.func (.func F1) #[] c1,.func (.func F2) #[] c2,.func (.func F3) #[] c3] 88)).alloc (.cells #[G6 0,G6 0] 28))=x0 at hb0 s_k r_k ⊢
 refine(CT _ hb0).mono ?_
 rintro _ y1 ⟨rfl,hw1⟩
 replace s_k:=aj hw1 s_k
 replace r_k:=aj hw1 r_k
 replace hb0:=ac hb0 hw1
 have CG:Hid (∀ W,Below w.heap.size w W->Calls prog 103 #[.slice ao n cap] W fun r w'=>r=.returned (.bool false)∧Below W.heap.size W w'):=CG
 go_wp2_with fail
 refine(CG.out _ hb0).mono ?_
 rintro _ y2 ⟨rfl,hw1⟩
 replace s_k:=aj hw1 s_k
 replace r_k:=aj hw1 r_k
 replace hb0:=ac hb0 hw1
 have k0:=ae r_k 0 rfl
 have k1:=ae r_k 1 rfl
 have z0:=ah r_k 0
 have z1:=ah r_k 1
 go_wp2
 exact bodyPost_ret (v:=.tuple #[.agg #[G6 0,G6 0],G6 10]) (by simp[results,results44,go_sem,k0,k1]) rfl ⟨rfl,by first|exact hb0|exact((hb0.setCell (p:=⟨w.heap.size+1,0,none⟩) (show w.heap.size<=w.heap.size+1 by omega) _).setCell (p:=⟨w.heap.size+1,1,none⟩) (show w.heap.size<=w.heap.size+1 by omega) _)⟩
theorem yU (F0 F1 F2 F3:Nat) (c0 c1 c2 c3:Array Value) {ao:Option Addr} {n cap:Nat} {V U:Int} (w:World) (CT:∀ W,Below w.heap.size w W->Calls prog 101 #[.slice ao n cap] W fun r w'=>r=.returned (.bool false)∧Below W.heap.size W w') (CG:∀ W,Below w.heap.size w W->Calls prog 103 #[.slice ao n cap] W fun r w'=>r=.returned (.bool true)∧Below W.heap.size W w') (CV:∀ W,Below w.heap.size w W->Calls prog 104 #[.agg #[.func (.func F0) #[] c0,.func (.func F1) #[] c1,.func (.func F2) #[] c2,.func (.func F3) #[] c3]] W fun r w'=>r=.returned (.agg #[G6 V,G6 U])∧Below W.heap.size W w') :
  Calls prog 44 #[.agg #[.func (.func F0) #[] c0,.func (.func F1) #[] c1,.func (.func F2) #[] c2,.func (.func F3) #[] c3],.slice ao n cap] w fun r w'=>r=.returned (.tuple #[.agg #[G6 V,G6 U],G6 0])∧Below w.heap.size w w':=by
 obtain⟨hb0,s_k,r_k,hsz0⟩:=rG w (.cells #[.func (.func F0) #[] c0,.func (.func F1) #[] c1,.func (.func F2) #[] c2,.func (.func F3) #[] c3] 88) (.cells #[G6 0,G6 0] 28)
 clear hsz0
 go_enter func44,ntmps44
 go_wp2_with fail
 generalize ((w.alloc (.cells #[.func (.func F0) #[] c0,.func (.func F1) #[] c1,.func (.func F2) #[] c2,.func (.func F3) #[] c3] 88)).alloc (.cells #[G6 0,G6 0] 28))=x0 at hb0 s_k r_k ⊢
 refine(CT _ hb0).mono ?_
 rintro _ y1 ⟨rfl,hw1⟩
 replace s_k:=aj hw1 s_k
 replace r_k:=aj hw1 r_k
 replace hb0:=ac hb0 hw1
 have CG:Hid (∀ W,Below w.heap.size w W->Calls prog 103 #[.slice ao n cap] W fun r w'=>r=.returned (.bool true)∧Below W.heap.size W w'):=CG
 go_wp2_with fail
 refine(CG.out _ hb0).mono ?_
 rintro _ y2 ⟨rfl,hw1⟩
 replace s_k:=aj hw1 s_k
 replace r_k:=aj hw1 r_k
 replace hb0:=ac hb0 hw1
 have CV:Hid (∀ W,Below w.heap.size w W->Calls prog 104 #[.agg #[.func (.func F0) #[] c0,.func (.func F1) #[] c1,.func (.func F2) #[] c2,.func (.func F3) #[] c3]] W fun r w'=>r=.returned (.agg #[G6 V,G6 U])∧Below W.heap.size W w'):=CV
 have f_s0:=ae s_k 0 rfl
 have f_s1:=ae s_k 1 rfl
 have f_s2:=ae s_k 2 rfl
 have f_s3:=ae s_k 3 rfl
 go_wp2_with fail
 clear f_s0 f_s1 f_s2 f_s3
 refine(CV.out _ hb0).mono ?_
 rintro _ y3 ⟨rfl,hw1⟩
 replace s_k:=aj hw1 s_k
 replace r_k:=aj hw1 r_k
 replace hb0:=ac hb0 hw1
 have k0:=ae r_k 0 rfl
 have k1:=ae r_k 1 rfl
 have z0:=ah r_k 0
 have z1:=ah r_k 1
 go_wp2
 exact bodyPost_ret (v:=.tuple #[.agg #[G6 V,G6 U],G6 0]) (by simp[results,results44,go_sem,k0,k1]) rfl ⟨rfl,by first|exact hb0|exact((hb0.setCell (p:=⟨w.heap.size+1,0,none⟩) (show w.heap.size<=w.heap.size+1 by omega) _).setCell (p:=⟨w.heap.size+1,1,none⟩) (show w.heap.size<=w.heap.size+1 by omega) _)⟩
theorem KA {eo fo:Option Addr} {n ec m fc:Nat} {d f:Nat->Int} (w:World) (h:aU w eo n ec d) (hf:aU w fo m fc f) (hr:∀ i,i<n->ag (d i)) (hrf:∀ i,i<m->ag (f i)) (hv:iK d n=true) (hu:iK f m=true) (hn:n<=200) (hm:m<=200) (H:aO w) :
  Calls prog 93 #[.slice eo n ec,.slice fo m fc] w fun r w'=>XA w (lT d n f m) (ji d n f m) r w':=by
 have hEG:∀ (cap:Array Value) (w:World),(callFunc 160 cap).run prog w=.ok (.enter 160 cap) w:=by
  intro cap w
  simp[go_sem]
 have hd:∀ i,i<n->ag (d i)∧ak (d i)=true:=fun i hi=>⟨hr i hi,ou hv i hi⟩
 have hff:∀ i,i<m->ag (f i)∧ak (f i)=true:=fun i hi=>⟨hrf i hi,ou hu i hi⟩
 have CW:=GW 160 w (lT d n f m) (ji d n f m) hEG h hf hv hu H (fun W hW=>AG W (h.keeps hW) (hf.keeps hW) hd hff hn hm (H.keeps hW))
 generalize lT d n f m=X at *
 generalize ji d n f m=S at *
 go_enter func93,ntmps93
 go_wp2_with fail
 refine CW.mono ?_
 rintro _ w1 ⟨(⟨h1,v,rfl,h2⟩|⟨h1,rfl⟩),hb⟩
 ·obtain⟨ao,cc,rfl⟩:=h2.shape
  go_wp2
  refine bodyPost_ret (v:=.tuple #[.slice ao S.n cc,G6 0]) (by simp[results,results93,go_sem]) rfl ⟨.inl ⟨h1,_,rfl,h2⟩,hb⟩
 ·go_wp2
  refine bodyPost_ret (v:=.tuple #[.slice none 0 0,G6 14]) (by simp[results,results93,go_sem]) rfl ⟨.inr ⟨h1,rfl⟩,hb⟩
theorem yC {p:Int} (h:ak p=true):aY p=p:=by unfold aY;rw[if_neg (bW h)]
theorem Nw {p q:Int} (hp:Mz p) (hq:Mz q) (w:World) (H:aO w) :
  Calls prog 156 #[G6 p,G6 q] w fun r w'=>r=.returned (.tuple #[G7 (wd (aF p (neg q))),G7 (wd (sL p (neg q)))])∧Below w.heap.size w w':=by
 obtain⟨n1,n2,n3⟩:=gM hq.1 hq.2.1
 have CT:Hid (∀ W,aO W->Calls prog 210 #[G6 p,G6 q] W fun e w'=>e=.returned (.tuple #[G6 (aF p (neg q)),G6 (sL p (neg q)),.bool (ak (sL p (neg q)))])∧Below W.heap.size W w'):=fun W h=>by
  have:=BU hp.1 hq.1 W h.env.lays
  rw[yC hp.2.1,yC n2] at this
  exact this
 have C1:Hid (∀ W,Calls prog 58 #[G6 (aF p (neg q))] W fun e w'=>e=.returned (G7 (wd (aF p (neg q))))∧w'=W):=fun W=>bU _ W
 have C2:Hid (∀ W,Calls prog 58 #[G6 (sL p (neg q))] W fun e w'=>e=.returned (G7 (wd (sL p (neg q))))∧w'=W):=fun W=>bU _ W
 clear hp hq n1 n2 n3
 generalize wd (aF p (neg q))=Wa at *
 generalize wd (sL p (neg q))=Wb at *
 generalize ak (sL p (neg q))=Wc at *
 generalize aF p (neg q)=a at *
 generalize sL p (neg q)=b at *
 go_enter func156,ntmps156
 go_wp2_with fail
 refine(CT.out _ H).mono ?_
 rintro _ y1 ⟨rfl,hw1⟩
 go_wp2_with fail
 refine(C1.out _).mono ?_
 rintro _ wz ⟨rfl,hwz⟩
 replace hwz:=hwz.symm
 subst hwz
 go_wp2_with fail
 refine(C2.out _).mono ?_
 rintro _ wz ⟨rfl,hwz⟩
 replace hwz:=hwz.symm
 subst hwz
 go_wp2
 exact bodyPost_ret (v:=.tuple #[G7 Wa,G7 Wb]) (by simp[results,results156,go_sem]) rfl ⟨rfl,hw1⟩
theorem yD {f:Int} (hf:ag f) (pf:ak f=true):(rg f=0->FloatKind.f64.format.order (wd f) 0=some .eq)∧(¬ rg f=0->FloatKind.f64.format.order (wd f) 0=some .lt∨FloatKind.f64.format.order (wd f) 0=some .gt):=by
 have r0:ag 0:=by unfold ag;decide
 have p0:ak 0=true:=by decide
 have k0:au 0=0:=by decide
 have kz:au f=0↔rg f=0:=by
  unfold au rg
  unfold ag at hf
  split<;>omega
 refine⟨fun h=>?_,fun h=>?_⟩
 ·have:=ii hf r0 (bW pf) (bW p0) (by rw[k0];exact kz.2 h)
  rw[oH] at this
  exact this
 ·rcases Int.lt_trichotomy (au f) 0 with g|g|g
  ·have:=iG hf r0 (bW pf) (bW p0) (by rw[k0];exact g)
   rw[oH] at this
   exact .inl this
  ·exact absurd (kz.1 g) h
  ·have:=iH hf r0 (bW pf) (bW p0) (by rw[k0];exact g)
   rw[oH] at this
   exact .inr this
def PA:Ls:=⟨0,fun _=>0⟩
theorem AV {N:Nat} {w w1:World} {o:Obj} {v:Value} {s:Nat} {d:Nat->Int} (h:bI N w v s d) (g:(w.alloc o).grownBy w1 v.ownBlock) (hN:N<=w.heap.size):Below N w w1:=by
 have ha:=af w o
 refine⟨g.os.trans ha.os,g.tape.trans ha.tape,g.output.trans ha.output,Nat.le_trans ha.size g.size,fun k hk=>?_⟩
 have hk':=Nat.lt_of_lt_of_le hk hN
 refine(g.block k (Nat.lt_of_lt_of_le hk' ha.size) fun e=>?_).trans (ha.block k hk')
 have:=(h.ge e.symm).1
 omega
theorem DI {B:Nat} {w:World} {v:Value} {s:Ls} {b:Int} (h0:¬ rg b=0) (h:bI B w v (s.n+1) (kS s.d s.n (fun _=>b))):bI B w v (s.add b).n (s.add b).d:=by
 have e:s.add b=⟨s.n+1,cr s.d s.n b⟩:=by unfold Ls.add;rw[if_neg h0]
 rw[e]
 refine h.congr fun i hi=>?_
 by_cases e:i<s.n
 ·simp[kS,e,bg s.d _ (show i≠s.n by omega)]
 ·obtain rfl:i=s.n:=by omega
  simp[kS,bG]
def jc (h t:Int):Nat->Ls
 | 0=>PA
 | 1=>PA.add t
 | _=>(PA.add t).add h
def rW (h t:Int) (k:Nat):Int:=if k=0 then t else h
theorem rI (h t:Int) {k:Nat} (hk:k<2):jc h t (k+1)=(jc h t k).add (rW h t k):=by
 match k,hk with
 | 0,_=>rfl
 | 1,_=>rfl
theorem LH (h t:Int):∀ {k:Nat},k<=2->(jc h t k).n<=2:=fun {k} hk=>by
 have a1:∀ (s:Ls) (b:Int),(s.add b).n<=s.n+1:=fun s b=>(s.add_le b).2
 match k,hk with
 | 0,_=>exact Nat.zero_le _
 | 1,_=>exact Nat.le_trans (a1 _ _) (by show 0+1<=2;omega)
 | 2,_=>exact Nat.le_trans (a1 _ _) (Nat.succ_le_succ (a1 _ _))
theorem PC {h t:Int} (rh:ag h) (ph:ak h=true) (rt:ag t) (pt:ak t=true) (w:World) :
    Calls prog 155 #[G7 (wd h),G7 (wd t)] w fun r w'=>∃ v,r=.returned v∧bI w.heap.size w' v (jc h t 2).n (jc h t 2).d∧Below w.heap.size w w':=by
  have CO:Hid (∀ k W,k<2->Calls prog 124 #[G7 (wd (rW h t k))] W fun e w'=>e=.returned (G6 (rW h t k))∧w'=W):=fun k W _=>by
    unfold rW
    split
    · exact qU (FW.pat (bW pt) rt) W
    · exact qU (FW.pat (bW ph) rh) W
  have HN:Hid (∀ k,k<2->(rg (rW h t k)=0->FloatKind.f64.format.order (wd (rW h t k)) 0=some .eq)∧(¬ rg (rW h t k)=0->FloatKind.f64.format.order (wd (rW h t k)) 0=some .lt∨FloatKind.f64.format.order (wd (rW h t k)) 0=some .gt)):=fun k _=>by
    unfold rW
    split
    · exact yD rt pt
    · exact yD rh ph
  have HR:Hid (∀ k,k<2->ag (rW h t k)):=fun k _=>by unfold rW;split<;>assumption
  have hix0:∀ w,(Instr.index 227 (.agg #[G7 (wd t),G7 (wd h)]) (G6 0)).run prog w=.ok (G7 (wd t)) w:=fun _=>by kernel_rfl
  have hix1:∀ w,(Instr.index 227 (.agg #[G7 (wd t),G7 (wd h)]) (G6 1)).run prog w=.ok (G7 (wd h)) w:=fun _=>by kernel_rfl
  clear rh ph rt pt
  go_enter func155,ntmps155
  go_wp2_with fail
  go_loopw [5,11] (fun v i wr=>∃ k:Nat,k<=2∧i=G6 k∧Hid (bI w.heap.size wr v (jc h t k).n (jc h t k).d)∧Below w.heap.size w wr) (fun _ i _=>2-(intOf i).toNat)
  case atStart=>exact⟨0,by omega,rfl,bI.nil _ _ _,ap _⟩
  case round=>
    obtain⟨k,hk,rfl,HO,hbw⟩:=hrel
    by_cases hlt:k<2
    · rcases (show k=0∨k=1 by omega) with rfl|rfl
      · have CK:Hid (∀ W,Calls prog 124 #[G7 (wd t)] W fun e w'=>e=.returned (G6 t)∧w'=W):=fun W=>CO.out 0 W (by omega)
        have HK:(rg t=0->FloatKind.f64.format.order (wd t) 0=some .eq)∧(¬ rg t=0->FloatKind.f64.format.order (wd t) 0=some .lt∨FloatKind.f64.format.order (wd t) 0=some .gt):=HN.out 0 (by omega)
        have rK:ag t:=HR.out 0 (by omega)
        have hN:=LH h t (show 0<=2 by omega)
        by_cases h0:rg t=0
        · have ho:=HK.1 h0
          have HE:Hid (jc h t (0+1)=jc h t 0):=(rI h t (by omega)).trans (if_pos h0)
          clear HK h0 CK
          go_wp2
          go_roundw
          case rel=>exact⟨0+1,by omega,by go_num,(show bI w.heap.size wr _ (jc h t (0+1)).n (jc h t (0+1)).d by rw[HE.out];exact HO.out),hbw⟩
          case measure=>simp[intOf]
        · have ho:=HK.2 h0
          have HE:Hid (jc h t (0+1)=(jc h t 0).add t):=rI h t (by omega)
          have H0:Hid (¬ rg t=0):=h0
          clear HK h0
          rcases ho with ho|ho
          all_goals
            go_wp2_with (first
              | (go_at_call 124;refine(CK.out _).mono ?_;rintro _ wz ⟨rfl,hwz⟩;replace hwz:=hwz.symm;subst hwz)
              | (at_builtin; refine cL rfl _ _ rfl w.heap.size _ (jc h t 0).n (jc h t 0).d rfl (HO.out.stays (af _ _)) _ 1 1 (fun _=>t) rfl (iR _ _ rfl) (by omega) (Nat.le_trans hbw.size (af _ _).size) ?_; intro v' w1 hO1 hg1))
            go_roundw
            case rel=>exact⟨0+1,by omega,by go_num,(show bI w.heap.size _ _ (jc h t (0+1)).n (jc h t (0+1)).d by rw[HE.out];exact DI H0.out hO1),hbw.trans (AV HO.out hg1 hbw.size)⟩
            case measure=>simp[intOf]
      · have CK:Hid (∀ W,Calls prog 124 #[G7 (wd h)] W fun e w'=>e=.returned (G6 h)∧w'=W):=fun W=>CO.out 1 W (by omega)
        have HK:(rg h=0->FloatKind.f64.format.order (wd h) 0=some .eq)∧(¬ rg h=0->FloatKind.f64.format.order (wd h) 0=some .lt∨FloatKind.f64.format.order (wd h) 0=some .gt):=HN.out 1 (by omega)
        have rK:ag h:=HR.out 1 (by omega)
        have hN:=LH h t (show 1<=2 by omega)
        by_cases h0:rg h=0
        · have ho:=HK.1 h0
          have HE:Hid (jc h t (1+1)=jc h t 1):=(rI h t (by omega)).trans (if_pos h0)
          clear HK h0 CK
          go_wp2
          go_roundw
          case rel=>exact⟨1+1,by omega,by go_num,(show bI w.heap.size wr _ (jc h t (1+1)).n (jc h t (1+1)).d by rw[HE.out];exact HO.out),hbw⟩
          case measure=>simp[intOf]
        · have ho:=HK.2 h0
          have HE:Hid (jc h t (1+1)=(jc h t 1).add h):=rI h t (by omega)
          have H0:Hid (¬ rg h=0):=h0
          clear HK h0
          rcases ho with ho|ho
          all_goals
            go_wp2_with (first
              | (go_at_call 124;refine(CK.out _).mono ?_;rintro _ wz ⟨rfl,hwz⟩;replace hwz:=hwz.symm;subst hwz)
              | (at_builtin; refine cL rfl _ _ rfl w.heap.size _ (jc h t 1).n (jc h t 1).d rfl (HO.out.stays (af _ _)) _ 1 1 (fun _=>h) rfl (iR _ _ rfl) (by omega) (Nat.le_trans hbw.size (af _ _).size) ?_; intro v' w1 hO1 hg1))
            go_roundw
            case rel=>exact⟨1+1,by omega,by go_num,(show bI w.heap.size _ _ (jc h t (1+1)).n (jc h t (1+1)).d by rw[HE.out];exact DI H0.out hO1),hbw.trans (AV HO.out hg1 hbw.size)⟩
            case measure=>simp[intOf]
    · obtain rfl:k=2:=by omega
      go_wp2
      go_ret
      exact⟨_,rfl,HO.out,hbw⟩
def iO (w:World) (v:Value) (s:Ls):Prop:=∃ ao cap,v=.slice ao s.n cap∧aU w ao s.n cap s.d
theorem iO.keeps {w w':World} {v:Value} {s:Ls} (h:iO w v s) (hb:Below w.heap.size w w'):iO w' v s:=by
 obtain⟨ao,cap,e,hR⟩:=h
 exact⟨ao,cap,e,hR.keeps hb⟩
theorem Fe {p q:Int} (hp:Mz p) (hq:Mz q) (w:World) (H:aO w) :
  Calls prog 90 #[G6 p,G6 q] w fun r w'=>∃ o c,r=.returned (.slice o (dY p q).n c)∧iO w' (.slice o (dY p q).n c) (dY p q)∧Below w.heap.size w w':=by
 obtain⟨n1,n2,n3⟩:=gM hq.1 hq.2.1
 obtain⟨f1,f2⟩:=AH hp hq
 have CF:Hid (∀ W,aO W->Calls prog 156 #[G6 p,G6 q] W fun r w'=>r=.returned (.tuple #[G7 (wd (aF p (neg q))),G7 (wd (sL p (neg q)))])∧Below W.heap.size W w'):=fun W h=>Nw hp hq W h
 have CP:Hid (∀ W,Calls prog 155 #[G7 (wd (aF p (neg q))),G7 (wd (sL p (neg q)))] W fun r w'=>∃ o c,r=.returned (.slice o (dY p q).n c)∧iO w' (.slice o (dY p q).n c) (dY p q)∧Below W.heap.size W w'):=fun W=>by
  refine(PC (aT hp.1 n1) f1 (kT hp.1 n1) f2 W).mono ?_
  rintro _ w' ⟨v,rfl,hO,hb⟩
  obtain⟨ao,cap,rfl,hR⟩:=hO.row
  exact⟨ao,cap,rfl,⟨ao,cap,rfl,hR⟩,hb⟩
 clear hp hq n1 n2 n3 f1 f2
 generalize dY p q=L at *
 generalize wd (aF p (neg q))=Wa at *
 generalize wd (sL p (neg q))=Wb at *
 go_enter func90,ntmps90
 go_wp2_with fail
 refine(CF.out _ H).mono ?_
 rintro _ y1 ⟨rfl,hw1⟩
 go_wp2_with fail
 refine(CP.out _).mono ?_
 rintro _ y2 ⟨o,c,rfl,hL,hw2⟩
 have hb:=ac hw1 hw2
 go_wp2
 go_ret
 exact⟨o,c,rfl,hL,hb⟩
theorem AW (o:Option Addr) (n c:Nat) (e:Int) (w:World) :
  Calls prog 94 #[.slice o n c,G6 e] w fun r w'=>r=.returned (.slice o n c)∧Below w.heap.size w w':=by
 go_enter func94,ntmps94
 go_wp2
 go_ret
 exact⟨rfl,ap _⟩
theorem Ce (w:World) :
  Calls prog 36 #[] w fun r w'=>r=.returned (.agg #[.func (.func 90) #[] #[],.func (.func 91) #[] #[],.func (.func 92) #[] #[],.func (.func 93) #[] #[]])∧Below w.heap.size w w':=by
 have hst:∀ p F m w,(store p (.func (.func F) #[] #[]) m).run prog w=stored prog w p (.func (.func F) #[] #[]) m:=fun p F m w=>run_store _ w p _ m rfl
 go_enter func36,ntmps36
 go_wp2_with fail
 have r_j:=aD w (.cells #[.func (.func 90) #[] #[],.func (.func 91) #[] #[],.func (.func 92) #[] #[],.func (.func 93) #[] #[]] 67)
 have k0:=ae r_j 0 rfl
 have k1:=ae r_j 1 rfl
 have k2:=ae r_j 2 rfl
 have k3:=ae r_j 3 rfl
 exact bodyPost_ret (v:=.agg #[.func (.func 90) #[] #[],.func (.func 91) #[] #[],.func (.func 92) #[] #[],.func (.func 93) #[] #[]]) (by simp[results,results36,go_sem,k0,k1,k2,k3]) rfl ⟨rfl,af _ _⟩
theorem QV {p:Int} (hp:ag p) (h:iV p≠0):iV p<0↔p<0:=by
 obtain⟨k1,k2⟩:=tf hp
 rw[k1]
 have hz:au p≠0:=fun e=>by
  have a:=mt k1.1
  rcases Int.lt_trichotomy (iV p) 0 with g|g|g
  ·have:=k1.1 g;omega
  ·exact h g
  ·have:=k2.1 g;omega
 unfold ag at hp
 by_cases c:p<0
 ·have e:au p=-(p+9223372036854775808):=by unfold au;rw[if_pos c]
  rw[e] at hz ⊢
  omega
 ·have e:au p=p:=by unfold au;rw[if_neg c]
  rw[e]
theorem QW {v:Value} {s:Ls} (w:World) (h:iO w v s) (hx:XV s.d s.n) (H:aO w) :
  Calls prog 126 #[v] w fun r w'=>r=.returned (.tuple #[G6 (bH (dM s.d s.n) 0),G6 0])∧Below w.heap.size w w':=by
 obtain⟨ao,cap,rfl,hR⟩:=h
 obtain⟨n,d⟩:=s
 simp only at *
 have hle:=hR.le
 have hmx:=hR.max
 have CV:Hid (∀ W,Below w.heap.size w W->Calls prog 185 #[.slice ao n cap] W fun e w'=>e=.returned (.bool true)∧Below W.heap.size W w'):=fun W hb=>by
  have:=qZ W (hR.keeps hb) (H.keeps hb)
  rw[nQ hx] at this
  exact this
 cases n with
 | zero=>
  have e:bH (dM d 0) 0=0:=by show bH 0 0=0;decide
  rw[e]
  go_enter func126,ntmps126
  go_wp2_with fail
  refine(CV.out _ (ap _)).mono ?_
  rintro _ y1 ⟨rfl,hw1⟩
  go_wp2
  exact bodyPost_ret (v:=.tuple #[G6 0,G6 0]) (by simp[results,results126,go_sem]) rfl ⟨rfl,hw1⟩
 | succ n=>
  obtain⟨s1,s2⟩:=Kb hx
  have hr:=(hx.fin n (by omega)).1
  have hne:=hx.ne (show n<n+1 by omega)
  have hl:=QV hr hne
  obtain⟨b,off,rfl,hb,hc⟩:=hR.spot (by omega)
  have i0:(0:Int)<=(n:Int):=by omega
  have i1:(n:Int)<((n+1:Nat):Int):=by omega
  have hidx:((n+1:Nat):Int)-1=(n:Int):=by omega
  by_cases hd:d n<0
  ·have e:bH (dM d (n+1)) 0=-1:=by
    have:dM d (n+1)<0:=s2.2 (hl.2 hd)
    unfold bH;rw[if_pos this]
   rw[e]
   have hdd:decide (d n<0)=true:=decide_eq_true hd
   clear s1 s2 hl hne hr e
   have HC:Hid (∀ W,Below w.heap.size w W->W.cell? ⟨b,off+n,none⟩=some (G6 (d n))):=fun W hw=>(hw.cell (p:=⟨b,off+n,none⟩) hb).trans (hc n (by omega))
   clear hc hx hd
   go_enter func126,ntmps126
   go_wp2_with fail
   refine(CV.out _ (ap _)).mono ?_
   rintro _ y1 ⟨rfl,hw1⟩
   have c1:=HC.out _ hw1
   go_wp2
   exact bodyPost_ret (v:=.tuple #[G6 (-1),G6 0]) (by simp[results,results126,go_sem]) rfl ⟨rfl,hw1⟩
  ·have e:bH (dM d (n+1)) 0=1:=by
    have h1:¬ iV (d n)<0:=fun q=>hd (hl.1 q)
    have:0<dM d (n+1):=s1.2 (by omega)
    have h2:¬ dM d (n+1)<0:=by omega
    unfold bH;rw[if_neg h2];first|rw[if_pos this]|(simp[this];omega)
   rw[e]
   have hdd:decide (d n<0)=false:=decide_eq_false hd
   clear s1 s2 hl hne hr e
   have HC:Hid (∀ W,Below w.heap.size w W->W.cell? ⟨b,off+n,none⟩=some (G6 (d n))):=fun W hw=>(hw.cell (p:=⟨b,off+n,none⟩) hb).trans (hc n (by omega))
   clear hc hx hd
   go_enter func126,ntmps126
   go_wp2_with fail
   refine(CV.out _ (ap _)).mono ?_
   rintro _ y1 ⟨rfl,hw1⟩
   have c1:=HC.out _ hw1
   go_wp2
   exact bodyPost_ret (v:=.tuple #[G6 1,G6 0]) (by simp[results,results126,go_sem]) rfl ⟨rfl,hw1⟩
def pL (a b c:Int):Ls:=ji (dY a b).d (dY a b).n (dY c b).d (dY c b).n
def dL (ax ay bx by' cx cy:Int):Ls:=dw ⟨(pL ax bx cx).n,(pL ax bx cx).d⟩ (pL ay by' cy).d (pL ay by' cy).n
theorem ti {a b c:Int} (ha:Mz a) (hb:Mz b) (hc:Mz c):lT (dY a b).d (dY a b).n (dY c b).d (dY c b).n=true∧XV (pL a b c).d (pL a b c).n∧LB (pL a b c) 1552∧(pL a b c).n<=8∧2^1074*dM (pL a b c).d (pL a b c).n=(iV a-iV b)*(iV c-iV b):=by
 obtain⟨u1,u2,u3,u4⟩:=tJ ha hb
 obtain⟨v1,v2,v3,v4⟩:=tJ hc hb
 obtain⟨l1,l2,l3,l4⟩:=Hf u1 u2 (by omega) v2 (by omega) (dY c b).n (Nat.le_refl _)
 rw[u4,v4] at l4
 refine⟨l1,l2,fun i hi=>oV (l3 i hi) (by omega),Nat.le_trans (AD _ _ _ _) ?_,l4⟩
 have:2*(dY a b).n*(dY c b).n<=2*2*2:=Nat.mul_le_mul (by omega) (by omega)
 omega
theorem Ih {ax ay bx by' cx cy:Int} (hax:Mz ax) (hay:Mz ay) (hbx:Mz bx) (hby:Mz by') (hcx:Mz cx) (hcy:Mz cy) :
  fe ⟨(pL ax bx cx).n,(pL ax bx cx).d⟩ (pL ay by' cy).d (pL ay by' cy).n=true∧XV (dL ax ay bx by' cx cy).d (dL ax ay bx by' cx cy).n∧LB (dL ax ay bx by' cx cy) 1576 ∧
  2^1074*dM (dL ax ay bx by' cx cy).d (dL ax ay bx by' cx cy).n=(iV ax-iV bx)*(iV cx-iV bx)+(iV ay-iV by')*(iV cy-iV by'):=by
 obtain⟨a1,a2,a3,a4,a5⟩:=ti hax hbx hcx
 obtain⟨b1,b2,b3,b4,b5⟩:=ti hay hby hcy
 obtain⟨g1,g2,g3,g4⟩:=uM (s:=⟨(pL ax bx cx).n,(pL ax bx cx).d⟩) (f:=(pL ay by' cy).d) (m:=(pL ay by' cy).n) (b:=1552) a2 b2.fn a3 b3 (by omega) (pL ay by' cy).n (Nat.le_refl _)
 refine⟨g1,g2,fun i hi=>oV (g3 i hi) (by omega),?_⟩
 show 2^1074*dM (dw ⟨(pL ax bx cx).n,(pL ax bx cx).d⟩ (pL ay by' cy).d (pL ay by' cy).n).d (dw ⟨(pL ax bx cx).n,(pL ax bx cx).d⟩ (pL ay by' cy).d (pL ay by' cy).n).n=_
 rw[g4,Int.mul_add,b5]
 have:2^1074*dM (pL ax bx cx).d (pL ax bx cx).n=_:=a5
 rw[<- this]
theorem Ii {a b c:Int} (ha:Mz a) (hb:Mz b) (hc:Mz c) {x y:Value} (w:World) (hx:iO w x (dY a b)) (hy:iO w y (dY c b)) (H:aO w) :
  Calls prog 93 #[x,y] w fun r w'=>∃ o c',r=.returned (.tuple #[.slice o (pL a b c).n c',G6 0])∧iO w' (.slice o (pL a b c).n c') (pL a b c)∧Below w.heap.size w w':=by
 obtain⟨xo,xc,rfl,hR⟩:=hx
 obtain⟨yo,yc,rfl,hS⟩:=hy
 obtain⟨u1,u2,u3,u4⟩:=tJ ha hb
 obtain⟨v1,v2,v3,v4⟩:=tJ hc hb
 refine(KA w hR hS (fun i hi=>(u1.fin i hi).1) (fun i hi=>(v1.fin i hi).1) (nQ u1) (nQ v1) (by omega) (by omega) H).mono ?_
 intro r w' h
 obtain⟨ao,cap,e,hQ,hb'⟩:=h.yes (ti ha hb hc).1
 exact⟨ao,cap,e,⟨ao,cap,rfl,hQ⟩,hb'⟩
theorem QY {ax ay bx by' cx cy:Int} (hax:Mz ax) (hay:Mz ay) (hbx:Mz bx) (hby:Mz by') (hcx:Mz cx) (hcy:Mz cy) {x y:Value} (w:World) (hx:iO w x (pL ax bx cx)) (hy:iO w y (pL ay by' cy)) (H:aO w) :
  Calls prog 91 #[x,y] w fun r w'=>∃ o c',r=.returned (.tuple #[.slice o (dL ax ay bx by' cx cy).n c',G6 0])∧iO w' (.slice o (dL ax ay bx by' cx cy).n c') (dL ax ay bx by' cx cy)∧Below w.heap.size w w':=by
 obtain⟨xo,xc,rfl,hR⟩:=hx
 obtain⟨yo,yc,rfl,hS⟩:=hy
 obtain⟨a1,a2,a3,a4,a5⟩:=ti hax hbx hcx
 obtain⟨b1,b2,b3,b4,b5⟩:=ti hay hby hcy
 refine(RV w hR hS (fun i hi=>(a2.fin i hi).1) (fun i hi=>(b2.fin i hi).1) (nQ a2) (nQ b2) (by omega) H).mono ?_
 intro r w' h
 obtain⟨ao,cap,e,hQ,hb'⟩:=h.yes (Ih hax hay hbx hby hcx hcy).1
 exact⟨ao,cap,e,⟨ao,cap,rfl,hQ⟩,hb'⟩
theorem Ij {ax ay bx by' cx cy:Int} (hax:Mz ax) (hay:Mz ay) (hbx:Mz bx) (hby:Mz by') (hcx:Mz cx) (hcy:Mz cy) (w:World) (H:aO w) :
    Calls prog 37 #[.agg #[.func (.func 90) #[] #[],.func (.func 91) #[] #[],.func (.func 92) #[] #[],.func (.func 93) #[] #[]],.agg #[G6 ax,G6 ay],.agg #[G6 bx,G6 by'],.agg #[G6 cx,G6 cy]] w fun r w'=>∃ o c',r=.returned (.slice o (dL ax ay bx by' cx cy).n c')∧iO w' (.slice o (dL ax ay bx by' cx cy).n c') (dL ax ay bx by' cx cy)∧Below w.heap.size w w':=by
  have A1:Hid (∀ W,aO W->Calls prog 90 #[G6 ax,G6 bx] W fun r w'=>∃ o c,r=.returned (.slice o (dY ax bx).n c)∧iO w' (.slice o (dY ax bx).n c) (dY ax bx)∧Below W.heap.size W w'):=fun W h=>Fe hax hbx W h
  have A2:Hid (∀ W,aO W->Calls prog 90 #[G6 cx,G6 bx] W fun r w'=>∃ o c,r=.returned (.slice o (dY cx bx).n c)∧iO w' (.slice o (dY cx bx).n c) (dY cx bx)∧Below W.heap.size W w'):=fun W h=>Fe hcx hbx W h
  have A3:Hid (∀ W,aO W->Calls prog 90 #[G6 ay,G6 by'] W fun r w'=>∃ o c,r=.returned (.slice o (dY ay by').n c)∧iO w' (.slice o (dY ay by').n c) (dY ay by')∧Below W.heap.size W w'):=fun W h=>Fe hay hby W h
  have A4:Hid (∀ W,aO W->Calls prog 90 #[G6 cy,G6 by'] W fun r w'=>∃ o c,r=.returned (.slice o (dY cy by').n c)∧iO w' (.slice o (dY cy by').n c) (dY cy by')∧Below W.heap.size W w'):=fun W h=>Fe hcy hby W h
  have M1:Hid (∀ (x y:Value) W,iO W x (dY ax bx)->iO W y (dY cx bx)->aO W->Calls prog 93 #[x,y] W fun r w'=>∃ o c',r=.returned (.tuple #[.slice o (pL ax bx cx).n c',G6 0])∧iO w' (.slice o (pL ax bx cx).n c') (pL ax bx cx)∧Below W.heap.size W w'):=fun x y W hx hy h=>Ii hax hbx hcx W hx hy h
  have M2:Hid (∀ (x y:Value) W,iO W x (dY ay by')->iO W y (dY cy by')->aO W->Calls prog 93 #[x,y] W fun r w'=>∃ o c',r=.returned (.tuple #[.slice o (pL ay by' cy).n c',G6 0])∧iO w' (.slice o (pL ay by' cy).n c') (pL ay by' cy)∧Below W.heap.size W w'):=fun x y W hx hy h=>Ii hay hby hcy W hx hy h
  have S1:Hid (∀ (x y:Value) W,iO W x (pL ax bx cx)->iO W y (pL ay by' cy)->aO W->Calls prog 91 #[x,y] W fun r w'=>∃ o c',r=.returned (.tuple #[.slice o (dL ax ay bx by' cx cy).n c',G6 0])∧iO w' (.slice o (dL ax ay bx by' cx cy).n c') (dL ax ay bx by' cx cy)∧Below W.heap.size W w'):=fun x y W hx hy h=>QY hax hay hbx hby hcx hcy W hx hy h
  clear hax hay hbx hby hcx hcy
  generalize dL ax ay bx by' cx cy=D at *
  generalize pL ax bx cx=P1 at *
  generalize pL ay by' cy=P2 at *
  generalize dY ax bx=E1 at *
  generalize dY cx bx=E2 at *
  generalize dY ay by'=E3 at *
  generalize dY cy by'=E4 at *
  have k_k:(w.alloc (.cells #[.func (.func 90) #[] #[],.func (.func 91) #[] #[],.func (.func 92) #[] #[],.func (.func 93) #[] #[]] 67)).heap[w.heap.size]?=some (.cells #[.func (.func 90) #[] #[],.func (.func 91) #[] #[],.func (.func 92) #[] #[],.func (.func 93) #[] #[]] 67):=aE (.cells #[.func (.func 90) #[] #[],.func (.func 91) #[] #[],.func (.func 92) #[] #[],.func (.func 93) #[] #[]] 67) (by rfl)
  have hb0:=af w (.cells #[.func (.func 90) #[] #[],.func (.func 91) #[] #[],.func (.func 92) #[] #[],.func (.func 93) #[] #[]] 67)
  replace k_k:=am (.cells #[G6 ax,G6 ay] 33) k_k
  have a_k:((w.alloc (.cells #[.func (.func 90) #[] #[],.func (.func 91) #[] #[],.func (.func 92) #[] #[],.func (.func 93) #[] #[]] 67)).alloc (.cells #[G6 ax,G6 ay] 33)).heap[w.heap.size+1]?=some (.cells #[G6 ax,G6 ay] 33):=aE (.cells #[G6 ax,G6 ay] 33) (by simp only[aw])
  replace hb0:=ac hb0 (af (w.alloc (.cells #[.func (.func 90) #[] #[],.func (.func 91) #[] #[],.func (.func 92) #[] #[],.func (.func 93) #[] #[]] 67)) (.cells #[G6 ax,G6 ay] 33))
  replace k_k:=am (.cells #[G6 bx,G6 by'] 33) k_k
  replace a_k:=am (.cells #[G6 bx,G6 by'] 33) a_k
  have b_k:(((w.alloc (.cells #[.func (.func 90) #[] #[],.func (.func 91) #[] #[],.func (.func 92) #[] #[],.func (.func 93) #[] #[]] 67)).alloc (.cells #[G6 ax,G6 ay] 33)).alloc (.cells #[G6 bx,G6 by'] 33)).heap[w.heap.size+1+1]?=some (.cells #[G6 bx,G6 by'] 33):=aE (.cells #[G6 bx,G6 by'] 33) (by simp only[aw])
  replace hb0:=ac hb0 (af ((w.alloc (.cells #[.func (.func 90) #[] #[],.func (.func 91) #[] #[],.func (.func 92) #[] #[],.func (.func 93) #[] #[]] 67)).alloc (.cells #[G6 ax,G6 ay] 33)) (.cells #[G6 bx,G6 by'] 33))
  replace k_k:=am (.cells #[G6 cx,G6 cy] 33) k_k
  replace a_k:=am (.cells #[G6 cx,G6 cy] 33) a_k
  replace b_k:=am (.cells #[G6 cx,G6 cy] 33) b_k
  have c_k:((((w.alloc (.cells #[.func (.func 90) #[] #[],.func (.func 91) #[] #[],.func (.func 92) #[] #[],.func (.func 93) #[] #[]] 67)).alloc (.cells #[G6 ax,G6 ay] 33)).alloc (.cells #[G6 bx,G6 by'] 33)).alloc (.cells #[G6 cx,G6 cy] 33)).heap[w.heap.size+1+1+1]?=some (.cells #[G6 cx,G6 cy] 33):=aE (.cells #[G6 cx,G6 cy] 33) (by simp only[aw])
  replace hb0:=ac hb0 (af (((w.alloc (.cells #[.func (.func 90) #[] #[],.func (.func 91) #[] #[],.func (.func 92) #[] #[],.func (.func 93) #[] #[]] 67)).alloc (.cells #[G6 ax,G6 ay] 33)).alloc (.cells #[G6 bx,G6 by'] 33)) (.cells #[G6 cx,G6 cy] 33))
  go_enter func37,ntmps37
  go_wp2_with fail
  generalize ((((w.alloc (.cells #[.func (.func 90) #[] #[],.func (.func 91) #[] #[],.func (.func 92) #[] #[],.func (.func 93) #[] #[]] 67)).alloc (.cells #[G6 ax,G6 ay] 33)).alloc (.cells #[G6 bx,G6 by'] 33)).alloc (.cells #[G6 cx,G6 cy] 33))=x0 at hb0 k_k a_k b_k c_k ⊢
  have H:=H.keeps hb0
  have KK1:∀ W,Below x0.heap.size x0 W->W.cell? ⟨w.heap.size,0,none⟩=some (.func (.func 90) #[] #[])∧W.cell? ⟨w.heap.size,3,none⟩=some (.func (.func 93) #[] #[])∧W.cell? ⟨w.heap.size+1,0,none⟩=some (G6 ax)∧W.cell? ⟨w.heap.size+2,0,none⟩=some (G6 bx)∧W.cell? ⟨w.heap.size+3,0,none⟩=some (G6 cx):=fun W hb=>⟨ar (ae k_k 0 rfl) hb,ar (ae k_k 3 rfl) hb,ar (ae a_k 0 rfl) hb,ar (ae b_k 0 rfl) hb,ar (ae c_k 0 rfl) hb⟩
  have hC1_0:=(ap x0).drew
  have hs1_0:=(ap x0).drew
  have hT1_0:Below w.heap.size w x0.drew:=hb0.drew
  have H_1_0:=H.keeps (ap x0).drew
  go_region_held3 (fun W=>W.cell? ⟨w.heap.size,0,none⟩=some (.func (.func 90) #[] #[])∧W.cell? ⟨w.heap.size,3,none⟩=some (.func (.func 93) #[] #[])∧W.cell? ⟨w.heap.size+1,0,none⟩=some (G6 ax)∧W.cell? ⟨w.heap.size+2,0,none⟩=some (G6 bx)∧W.cell? ⟨w.heap.size+3,0,none⟩=some (G6 cx))
    (with_reducible first|assumption|exact KK1 _ hC1_0|exact KK1 _ hC1_1|exact KK1 _ hC1_2|exact KK1 _ hC1_3|exact KK1 _ hC1_4|fail)
    (first
      | (go_at_call 94;have _t:=hs1_3;refine(AW _ _ _ _ _).mono ?_;rintro _ y1_4 ⟨rfl,hq1_4⟩;have hs1_4:Below y1_3.heap.size y1_3 y1_4:=(by with_reducible first|exact hq1_4|exact ac (af _ _) hq1_4|exact ac (aS _ _) hq1_4);have hT1_4:=ac hT1_3 hs1_4;have hC1_4:=ac hC1_3 hs1_4;have H_1_4:=H_1_3.keeps hs1_4;have l_D:=nm1.keeps hs1_4)
      | (go_at_call 93;have _t:=hs1_2;refine(M1.out _ _ _ np1 nb1 (H_1_2.keeps (by with_reducible first|exact ap _|exact af _ _|exact aS _ _))).mono ?_;rintro _ y1_3 ⟨l_o,l_c,rfl,nm1,hq1_3⟩;have hs1_3:Below y1_2.heap.size y1_2 y1_3:=(by with_reducible first|exact hq1_3|exact ac (af _ _) hq1_3|exact ac (aS _ _) hq1_3);have hT1_3:=ac hT1_2 hs1_3;have hC1_3:=ac hC1_2 hs1_3;have H_1_3:=H_1_2.keeps hs1_3)
      | (go_at_call 90;have _t:=hs1_1;refine(A2.out _ (H_1_1.keeps (by with_reducible first|exact ap _|exact af _ _|exact aS _ _))).mono ?_;rintro _ y1_2 ⟨qo1,qc1,rfl,nb1,hq1_2⟩;have hs1_2:Below y1_1.heap.size y1_1 y1_2:=(by with_reducible first|exact hq1_2|exact ac (af _ _) hq1_2|exact ac (aS _ _) hq1_2);have hT1_2:=ac hT1_1 hs1_2;have hC1_2:=ac hC1_1 hs1_2;have H_1_2:=H_1_1.keeps hs1_2;have np1:=na1.keeps hs1_2)
      | (go_at_call 90; refine (A1.out _ (H_1_0.keeps (by with_reducible first | exact ap _ | exact af _ _ | exact aS _ _))).mono ?_; rintro _ y1_1 ⟨po1,pc1,rfl,na1,hq1_1⟩; have hs1_1:Below x0.drew.heap.size x0.drew y1_1:=(by with_reducible first | exact hq1_1 | exact ac (af _ _) hq1_1 | exact ac (aS _ _) hq1_1); have hT1_1:=ac hT1_0 hs1_1; have hC1_1:=ac hC1_0 hs1_1; have H_1_1:=H_1_0.keeps hs1_1))
  have hw1:=ac (ac (ac (ac hs1_0 hs1_1) hs1_2) hs1_3) hs1_4
  have H:=H.keeps hw1
  have k_k:=(hw1.block _ (aGe k_k).1).trans k_k
  have a_k:=(hw1.block _ (aGe a_k).1).trans a_k
  have b_k:=(hw1.block _ (aGe b_k).1).trans b_k
  have c_k:=(hw1.block _ (aGe c_k).1).trans c_k
  have hb1:=ac hb0 hw1
  go_wp2_with fail
  have KK2:∀ W,Below y1_4.heap.size y1_4 W->W.cell? ⟨w.heap.size,0,none⟩=some (.func (.func 90) #[] #[])∧W.cell? ⟨w.heap.size,3,none⟩=some (.func (.func 93) #[] #[])∧W.cell? ⟨w.heap.size+1,1,none⟩=some (G6 ay)∧W.cell? ⟨w.heap.size+2,1,none⟩=some (G6 by')∧W.cell? ⟨w.heap.size+3,1,none⟩=some (G6 cy):=fun W hb=>⟨ar (ae k_k 0 rfl) hb,ar (ae k_k 3 rfl) hb,ar (ae a_k 1 rfl) hb,ar (ae b_k 1 rfl) hb,ar (ae c_k 1 rfl) hb⟩
  have hC2_0:=(ap y1_4).drew
  have hs2_0:=(ap y1_4).drew
  have hT2_0:Below w.heap.size w y1_4.drew:=hb1.drew
  have H_2_0:=H.keeps (ap y1_4).drew
  go_region_held3 (fun W=>W.cell? ⟨w.heap.size,0,none⟩=some (.func (.func 90) #[] #[])∧W.cell? ⟨w.heap.size,3,none⟩=some (.func (.func 93) #[] #[])∧W.cell? ⟨w.heap.size+1,1,none⟩=some (G6 ay)∧W.cell? ⟨w.heap.size+2,1,none⟩=some (G6 by')∧W.cell? ⟨w.heap.size+3,1,none⟩=some (G6 cy))
    (with_reducible first|assumption|exact KK2 _ hC2_0|exact KK2 _ hC2_1|exact KK2 _ hC2_2|exact KK2 _ hC2_3|exact KK2 _ hC2_4|fail)
    (first
      | (go_at_call 94;have _t:=hs2_3;refine(AW _ _ _ _ _).mono ?_;rintro _ y2_4 ⟨rfl,hq2_4⟩;have hs2_4:Below y2_3.heap.size y2_3 y2_4:=(by with_reducible first|exact hq2_4|exact ac (af _ _) hq2_4|exact ac (aS _ _) hq2_4);have hT2_4:=ac hT2_3 hs2_4;have hC2_4:=ac hC2_3 hs2_4;have H_2_4:=H_2_3.keeps hs2_4;have s_D:=nm2.keeps hs2_4)
      | (go_at_call 93;have _t:=hs2_2;refine(M2.out _ _ _ np2 nb2 (H_2_2.keeps (by with_reducible first|exact ap _|exact af _ _|exact aS _ _))).mono ?_;rintro _ y2_3 ⟨s_o,s_c,rfl,nm2,hq2_3⟩;have hs2_3:Below y2_2.heap.size y2_2 y2_3:=(by with_reducible first|exact hq2_3|exact ac (af _ _) hq2_3|exact ac (aS _ _) hq2_3);have hT2_3:=ac hT2_2 hs2_3;have hC2_3:=ac hC2_2 hs2_3;have H_2_3:=H_2_2.keeps hs2_3)
      | (go_at_call 90;have _t:=hs2_1;refine(A4.out _ (H_2_1.keeps (by with_reducible first|exact ap _|exact af _ _|exact aS _ _))).mono ?_;rintro _ y2_2 ⟨qo2,qc2,rfl,nb2,hq2_2⟩;have hs2_2:Below y2_1.heap.size y2_1 y2_2:=(by with_reducible first|exact hq2_2|exact ac (af _ _) hq2_2|exact ac (aS _ _) hq2_2);have hT2_2:=ac hT2_1 hs2_2;have hC2_2:=ac hC2_1 hs2_2;have H_2_2:=H_2_1.keeps hs2_2;have np2:=na2.keeps hs2_2)
      | (go_at_call 90; refine (A3.out _ (H_2_0.keeps (by with_reducible first | exact ap _ | exact af _ _ | exact aS _ _))).mono ?_; rintro _ y2_1 ⟨po2,pc2,rfl,na2,hq2_1⟩; have hs2_1:Below y1_4.drew.heap.size y1_4.drew y2_1:=(by with_reducible first | exact hq2_1 | exact ac (af _ _) hq2_1 | exact ac (aS _ _) hq2_1); have hT2_1:=ac hT2_0 hs2_1; have hC2_1:=ac hC2_0 hs2_1; have H_2_1:=H_2_0.keeps hs2_1))
  have hw2:=ac (ac (ac (ac hs2_0 hs2_1) hs2_2) hs2_3) hs2_4
  have H:=H.keeps hw2
  have l_D:=l_D.keeps hw2
  have k_k:=(hw2.block _ (aGe k_k).1).trans k_k
  have a_k:=(hw2.block _ (aGe a_k).1).trans a_k
  have b_k:=(hw2.block _ (aGe b_k).1).trans b_k
  have c_k:=(hw2.block _ (aGe c_k).1).trans c_k
  have hb2:=ac hb1 hw2
  have f_k1:=ae k_k 1 rfl
  go_wp2_with fail
  clear f_k1
  refine(S1.out _ _ _ l_D s_D H).mono ?_
  rintro _ ye ⟨n_o,n_c,rfl,hn,hwe⟩
  have hbe:=ac hb2 hwe
  go_wp2_with fail
  refine(AW _ _ _ _ _).mono ?_
  rintro _ yf ⟨rfl,hwf⟩
  replace hbe:=ac hbe hwf
  go_wp2
  go_ret
  exact⟨n_o,n_c,rfl,hn.keeps hwf,hbe⟩
def jq (V:Int):Int:=if V=0 then 0 else aL (fH 1 V)
def jr (V:Int):Int:=if V=0 then 0 else aL (fH 2 V)
theorem vW {g:Bool} {r:Int} (h0:0<=r) (h1:r<=9218868437227405312):aL (aG g r)=aG (g&&decide (0<r)) r:=by
 obtain⟨a,b,c⟩:=eM (ng:=g) h0 h1
 obtain⟨d1,d2⟩:=eZ a
 rw[b] at d1 d2
 unfold aL
 have n4:¬ aH (aG g r)=4:=fun q=>by have:=d1.1 q;omega
 rw[if_neg n4]
 by_cases hr:r=0
 ·rw[if_pos (d2.2 hr),hr]
  cases g<;>decide
 ·rw[if_neg (fun q=>hr (d2.1 q)),decide_eq_true (show 0<r by omega),Bool.and_true]
theorem vX {V:Int} (h0:V≠0):∃ (g:Bool) (A:Int) (r0:Nat) (left:Int),V=sg g A∧0<A∧fi A r0 left∧jq V=aG (g&&decide (0<bF 1 g r0 left)) (bF 1 g r0 left)∧jr V=aG (g&&decide (0<bF 2 g r0 left)) (bF 2 g r0 left):=by
 obtain⟨g,A,r0,left,e,hA,hR,_,e1,e2⟩:=te h0
 have r1:=dJ 1 g r0 left
 have r2:=dJ 2 g r0 left
 refine⟨g,A,r0,left,e,hA,hR,?_,?_⟩
 ·unfold jq;rw[if_neg h0,e1,vW r1.1 r1.2]
 ·unfold jr;rw[if_neg h0,e2,vW r2.1 r2.2]
theorem uQ {V:Int} {ng:Bool} {f:Int->Int × Bool} (h:pF V ng f):(f 1).1=jq V∧(f 2).1=jr V:=by
 obtain⟨A,r0,left,e,hng,hR,hf⟩:=h
 rw[hf 1,hf 2]
 by_cases h0:V=0
 ·have hA:A=0:=by
   rw[h0] at e
   cases ng
   ·exact e.symm
   ·have:(0:Int)=-A:=e
    omega
  have hn:ng=false:=by
   cases ng
   ·rfl
   ·have:=hng rfl;omega
  subst hn
  rw[hA] at hR
  obtain⟨u1,u2⟩:=hR.unique xQ
  subst u1 u2
  unfold jq jr
  rw[if_pos h0,if_pos h0]
  have t1:=zX 1
  have t2:=zX 2
  refine⟨?_,?_⟩
  ·simp only[t1];rfl
  ·simp only[t2];rfl
 ·obtain⟨g,B,s0,l,e',hB,hR',c1,c2⟩:=vX h0
  have hA:0<A:=by
   have hA0:0<=A:=by
    have:=hR.lo
    have hv:0<=vS r0:=Int.mul_nonneg (by omega) (Int.le_of_lt (bR _))
    omega
   have:A≠0:=fun q=>h0 (by rw[e,q];cases ng<;>rfl)
   omega
  have s1:decide (V<0)=ng:=by rw[e];exact tK hA
  have s2:decide (V<0)=g:=by rw[e'];exact tK hB
  have hg:ng=g:=s1.symm.trans s2
  subst hg
  have hAB:=lR (e.symm.trans e')
  subst hAB
  obtain⟨u1,u2⟩:=hR.unique hR'
  subst u1 u2
  exact⟨c1.symm,c2.symm⟩
theorem PD {p q:Int} (rp:ag p) (rq:ag q) (hp:ak p=true) (hq:ak q=true):aL (fA p q)=jq (dr p q)∧aL (fB p q)=jr (dr p q):=by
 have h1:=(bM rp).1 hp
 have h2:=(bM rq).1 hq
 have i2:¬ (rg p=9218868437227405312∨rg q=9218868437227405312):=by omega
 by_cases h0:rg p=0∨rg q=0
 ·have hz:dr p q=0:=by
   obtain⟨_,_,_,_,hC⟩:=mT rp rq hp hq
   have:aq p*aq q=0:=by
    rcases h0 with h|h
    ·have:aq p=0:=by rw[cQ rp hp];unfold iV;rw[h];cases decide (p<0)<;>exact Int.zero_mul _
     rw[this,Int.zero_mul]
    ·have:aq q=0:=by rw[cQ rq hq];unfold iV;rw[h];cases decide (q<0)<;>exact Int.zero_mul _
     rw[this,Int.mul_zero]
   rw[this] at hC
   rcases Int.mul_eq_zero.1 hC with k|k
   ·exact k
   ·exact absurd k (Int.ne_of_gt (aR 4194304))
  unfold fA fB jq jr
  rw[if_pos h0,if_pos h0,if_pos hz,if_pos hz]
  exact⟨by decide,by decide⟩
 ·have hz:=vU rp rq hp hq (fun k=>h0 (.inl k)) (fun k=>h0 (.inr k))
  unfold fA fB jq jr
  rw[if_neg h0,if_neg h0,if_neg i2,if_neg i2,if_neg hz,if_neg hz]
  exact⟨rfl,rfl⟩
theorem KB {p q:Int} (rp:ag p) (rq:ag q) (hp:ak p=true) (hq:ak q=true):ck p q=if aq p+aq q=0 then aG (decide (fN p q<0)&&decide (jT p q<0)) 0 else bT (aq p+aq q):=by
 unfold ck fN jT
 by_cases h:rg p<rg q
 ·rw[if_pos h,if_pos h,qW rq rp hq hp,Int.add_comm]
 ·rw[if_neg h,if_neg h,qW rp rq hp hq]
theorem QZ {p q:Int} (rp:ag p) (rq:ag q) (hp:ak p=true) (hq:ak q=true):nn (ck p q)∧aL (fj (ck p q) (eJ p q))=jq (aq p+aq q)∧aL (fl (ck p q) (eJ p q))=jr (aq p+aq q):=by
 have hN:=KB rp rq hp hq
 have hVi:aq p+aq q=(iV p+iV q)*pw (-1074):=by rw[cQ rp hp,cQ rq hq,Int.add_mul]
 have hq0:=bR (-1074)
 by_cases h0:aq p+aq q=0
 ·rw[if_pos h0] at hN
  have hnn:nn (ck p q):=by rw[hN];exact lA (by decide) (by decide)
  have hz:iV p+iV q=0:=by
   rcases Int.mul_eq_zero.1 (hVi.symm.trans h0) with k|k
   ·exact k
   ·omega
  have hpok:ak (ck p q)=true:=by rw[hN];cases (decide (fN p q<0)&&decide (jT p q<0))<;>decide
  have hi0:iV (ck p q)=0:=by rw[hN];cases (decide (fN p q<0)&&decide (jT p q<0))<;>decide
  obtain⟨_,_,hc⟩:=Ht rp rq hp hq hpok hnn
  rw[hi0,hz] at hc
  refine⟨hnn,?_⟩
  rcases hc with⟨_,b1,b2⟩|⟨k,_⟩|⟨k,_⟩
  ·rw[b1,b2]
   unfold jq jr
   rw[if_pos h0,if_pos h0,hN]
   exact⟨by cases (decide (fN p q<0)&&decide (jT p q<0))<;>decide,by cases (decide (fN p q<0)&&decide (jT p q<0))<;>decide⟩
  ·omega
  ·omega
 ·rw[if_neg h0] at hN
  obtain⟨g1,g2⟩:=gh h0
  have hnn:nn (ck p q):=by rw[hN];exact⟨g1,g2⟩
  refine⟨hnn,?_⟩
  unfold jq jr
  rw[if_neg h0,if_neg h0]
  cases hf:ak (bT (aq p+aq q))
  ·have hi:=DD h0 hf
   have hr:rg (ck p q)=9218868437227405312:=by
    rw[hN]
    have k1:=kI (show nn (bT (aq p+aq q)) from⟨g1,g2⟩)
    rcases Int.lt_or_le (rg (bT (aq p+aq q))) 9218868437227405312 with k|k
    ·rw[(bM g1).2 k] at hf;cases hf
    ·omega
   have h1:=(bM rp).1 hp
   have h2:=(bM rq).1 hq
   obtain⟨o1,o2⟩:=Ns ⟨rp,eN rp hp⟩ ⟨rq,eN rq hq⟩ (by omega) (by omega) hnn hr
   rcases Int.lt_or_gt_of_ne h0 with k|k
   ·obtain⟨e0,e1,e2⟩:=hi.2 k
    obtain⟨b1,b2⟩:=o2 (by rw[hN,e0];decide)
    rw[b1,b2,hN,e0,e1,e2]
    exact⟨by decide,by decide⟩
   ·obtain⟨e0,e1,e2⟩:=hi.1 k
    obtain⟨b1,b2⟩:=o1 (by rw[hN,e0];decide)
    rw[b1,b2,hN,e0,e1,e2]
    exact⟨by decide,by decide⟩
  ·obtain⟨d1,d2,d3⟩:=DC h0 hf
   rw[<- hN] at d1 d2 d3 hf
   obtain⟨_,_,hc⟩:=Ht rp rq hp hq hf hnn
   have hvn:=cQ hnn.1 hf
   rw[hvn,hVi] at d1 d2 d3
   rw[hVi]
   generalize pw (-1074)=w at *
   rcases hc with⟨k,b1,b2⟩|⟨k,b1,b2⟩|⟨k,b1,b2⟩
   ·rw[b1,b2]
    obtain⟨f1,f2⟩:=d3 (by rw[k])
    rw[<- f1,<- f2]
    exact⟨rfl,rfl⟩
   ·rw[b1,b2]
    obtain⟨f1,f2⟩:=d1 (Int.mul_lt_mul_of_pos_right k hq0)
    rw[<- f1,<- f2]
    exact⟨rfl,rfl⟩
   ·rw[b1,b2]
    obtain⟨f1,f2⟩:=d2 (Int.mul_lt_mul_of_pos_right k hq0)
    rw[<- f1,<- f2]
    exact⟨rfl,rfl⟩
theorem Nx (r:Nat):fi (vS r) r 0:=by
 have h:=mH (show r<r+1 by omega)
 refine⟨Int.le_refl _,h,⟨fun _=>rfl,fun _=>rfl⟩,⟨fun q=>by omega,fun q=>by omega⟩,⟨fun q=>by omega,fun q=>by omega⟩,⟨fun q=>by omega,fun q=>by omega⟩⟩
theorem Ik (way:Int) (g:Bool) {r:Nat} (h:(r:Int)<9218868437227405312):bF way g r 0=(r:Int):=by
 rw[kH way h,(vR (decide (r % 2=1)) 0).2.2.2.2 way g rfl]
 simp
theorem Sl {g:Bool} {r:Nat} (h:(r:Int)<9218868437227405312) (h0:0<r):jq (sg g (vS r))=aG g (r:Int)∧jr (sg g (vS r))=aG g (r:Int):=by
 have hp:0<vS r:=by
  have:=mH h0
  have hz:vS 0=0:=by unfold vS;rw[pJ];exact Int.zero_mul _
  omega
 have hn:sg g (vS r)≠0:=fun q=>by
  generalize vS r=y at *
  cases g
  ·rw[rB] at q;omega
  ·rw[rA] at q;omega
 obtain⟨g',A,r0,left,e,hA,hR,c1,c2⟩:=vX hn
 have s1:decide (sg g (vS r)<0)=g:=tK hp
 have s2:decide (sg g (vS r)<0)=g':=by rw[e];exact tK hA
 have hg:g=g':=s1.symm.trans s2
 subst hg
 have hAB:=lR e
 rw[<- hAB] at hR
 obtain⟨u1,u2⟩:=hR.unique (Nx r)
 subst u1 u2
 rw[c1,c2,Ik 1 g h,Ik 2 g h,decide_eq_true (show(0:Int)<(r0:Int) by omega),Bool.and_true]
 exact⟨rfl,rfl⟩
theorem vY {p B:Nat} {x0 x1:Value} {W W':World} (h:p<B∧B<=W.heap.size∧W.cell? ⟨p,0,none⟩=some x0∧W.cell? ⟨p,1,none⟩=some x1) (hb:Below W.heap.size W W') :
  p<B∧B<=W'.heap.size∧W'.cell? ⟨p,0,none⟩=some x0∧W'.cell? ⟨p,1,none⟩=some x1 :=
 ⟨h.1,Nat.le_trans h.2.1 hb.size,ar h.2.2.1 hb,ar h.2.2.2 hb⟩
theorem lL.below' {w w':World} (h:lL w) (hb:Below w.heap.size w w'):lL w' :=
 ⟨ar h.a0 hb,ar h.a1 hb,ar h.a2 hb,trivial,trivial,trivial⟩
theorem AX {lo hi:Int} (hl:nn lo) (hh:nn hi) (w:World) (L:lL w) :
    Calls prog 187 #[gk lo hi] w fun e w'=>e=.returned (ek (aL lo) (aL hi))∧Below w.heap.size w w':=by
  unfold gk ek
  have CO1:Hid (∀ W,Calls prog 124 #[G7 (wd lo)] W fun e w'=>e=.returned (G6 lo)∧w'=W):=fun W=>by
    have:=sw lo W hl.1
    rw[show aY lo=lo from if_neg hl.2] at this
    exact this
  have CO2:Hid (∀ W,Calls prog 124 #[G7 (wd hi)] W fun e w'=>e=.returned (G6 hi)∧w'=W):=fun W=>by
    have:=sw hi W hh.1
    rw[show aY hi=hi from if_neg hh.2] at this
    exact this
  have CX':Hid (∀ W,lL W->Calls prog 246 #[G6 lo] W fun e w'=>e=.returned (G6 (aL lo))∧Gr W w'):=fun W LW=>xA lo W LW
  have CY':Hid (∀ W,lL W->Calls prog 246 #[G6 hi] W fun e w'=>e=.returned (G6 (aL hi))∧Gr W w'):=fun W LW=>xA hi W LW
  generalize aL lo=X at *
  generalize aL hi=Y at *
  generalize wd lo=A at *
  generalize wd hi=B at *
  have hb2:=aM w (.cells #[G7 A,G7 B] 160) (.cells #[G6 0,G6 0] 72)
  have p0:=ew w (.cells #[G7 A,G7 B] 160) (.cells #[G6 0,G6 0] 72)
  have p1:=cZ w (.cells #[G7 A,G7 B] 160) (.cells #[G6 0,G6 0] 72)
  have hs:=jR w (.cells #[G7 A,G7 B] 160) (.cells #[G6 0,G6 0] 72)
  have c0:=ae p0 0 rfl
  have c1:=ae p0 1 rfl
  have hbd:=hb2.drew
  have L1:=L.below' hbd
  clear hl hh
  go_enter func187,ntmps187
  go_wp2_with fail
  generalize (w.alloc (.cells #[G7 A,G7 B] 160)).alloc (.cells #[G6 0,G6 0] 72)=w1 at *
  have hc:w.heap.size<w.heap.size+1∧w.heap.size+1<=w1.drew.heap.size∧w1.drew.cell? ⟨w.heap.size,0,none⟩=some (G7 A)∧w1.drew.cell? ⟨w.heap.size,1,none⟩=some (G7 B):=⟨by omega,by show _<=w1.heap.size;omega,c0,c1⟩
  have hd:w1.drew.heap[w.heap.size+1]?=some (.cells #[G6 0,G6 0] 72 (0,0)):=p1
  go_region_held3 (fun W=>w.heap.size<w.heap.size+1∧w.heap.size+1<=W.heap.size∧W.cell? ⟨w.heap.size,0,none⟩=some (G7 A)∧W.cell? ⟨w.heap.size,1,none⟩=some (G7 B))
    (first|assumption|(repeat (first|exact hc|exact hc1|exact hc2|refine xB (by omega) ?_)))
    (first
      | (go_at_call 124;have _t:=LA;refine(CO2.out _).mono ?_;rintro _ _ ⟨rfl,rfl⟩)
      | (go_at_call 124;refine(CO1.out _).mono ?_;rintro _ _ ⟨rfl,rfl⟩)
      | (go_at_call 246;have _t:=LA;refine(CY'.out _ LA).mono ?_;rintro _ w3 ⟨rfl,g3⟩;have hc2:=vY hc1 g3.be;have d2:=(g3.be.block _ (aGe d1).1).trans d1;have d3:=az d2 0 (G6 X);have d4:=az d3 1 (G6 Y);have f0:=ae d2 0 rfl;have z0:=ah d2 0;have f1:=ae d3 1 rfl;have z1:=ah d3 1)
      | (go_at_call 246; refine (CX'.out _ L1).mono ?_; rintro _ w2 ⟨rfl,g2⟩; have LA:=L1.grown g2; have hc1:=vY hc g2.be; have d1:=(g2.be.block _ (Array.getElem?_eq_some_iff.1 hd).1).trans hd))
  have e0:=ae d4 0 rfl
  have e1:=ae d4 1 rfl
  have hbe:Below w.heap.size w ((w3.setCell ⟨w.heap.size+1,0,none⟩ (G6 X)).setCell ⟨w.heap.size+1,1,none⟩ (G6 Y)):=((ac hbd (ac g2.be g3.be)).setCell (p:=⟨w.heap.size+1,0,none⟩) (Nat.le_succ _) _).setCell (p:=⟨w.heap.size+1,1,none⟩) (Nat.le_succ _) _
  clear d1 d2 d3 d4 f0 f1 z0 z1 hd hc hc1 hc2
  generalize (w3.setCell ⟨w.heap.size+1,0,none⟩ (G6 X)).setCell ⟨w.heap.size+1,1,none⟩ (G6 Y)=wy at *
  go_wp2
  refine bodyPost_ret (v:=.agg #[G6 X,G6 Y]) (by simp[results,results187,go_sem,e0,e1]) rfl ⟨rfl,hbe⟩
def kM (ok:Bool) (v:Value):Value:=if ok then v else .agg #[G6 0,G6 0]
def lV (ok:Bool):Int:=if ok then 0 else 1
theorem DJ {n:Nat} (w:World) (o:Obj) (h:n=w.heap.size):(w.alloc o).heap[n]?=some o:=by
 subst h
 show(w.heap.push o)[w.heap.size]?=_
 simp
theorem DK (w:World) (o0 o1 o2 o3 o4 o5:Obj):((((((w.alloc o0).alloc o1).alloc o2).alloc o3).alloc o4).alloc o5).drew.drew.drew.heap=(((((w.heap.push o0).push o1).push o2).push o3).push o4).push o5:=rfl
theorem Ra {n m:Nat} {w:World} {o0 o1 o2 o3 o4 o5:Obj} (hs:w.heap.size=m) (h:n=m+0):(((((((w.alloc o0).alloc o1).alloc o2).alloc o3).alloc o4).alloc o5).drew.drew.drew).heap[n]?=some o0:=by
 subst hs
 subst h
 rw[DK]
 rw[Array.getElem?_push,if_neg (by first|(simp;done)|(simp;omega))]
 rw[Array.getElem?_push,if_neg (by first|(simp;done)|(simp;omega))]
 rw[Array.getElem?_push,if_neg (by first|(simp;done)|(simp;omega))]
 rw[Array.getElem?_push,if_neg (by first|(simp;done)|(simp;omega))]
 rw[Array.getElem?_push,if_neg (by first|(simp;done)|(simp;omega))]
 rw[Array.getElem?_push,if_pos (by simp)]
theorem Rb {n m:Nat} {w:World} {o0 o1 o2 o3 o4 o5:Obj} (hs:w.heap.size=m) (h:n=m+1):(((((((w.alloc o0).alloc o1).alloc o2).alloc o3).alloc o4).alloc o5).drew.drew.drew).heap[n]?=some o1:=by
 subst hs
 subst h
 rw[DK]
 rw[Array.getElem?_push,if_neg (by first|(simp;done)|(simp;omega))]
 rw[Array.getElem?_push,if_neg (by first|(simp;done)|(simp;omega))]
 rw[Array.getElem?_push,if_neg (by first|(simp;done)|(simp;omega))]
 rw[Array.getElem?_push,if_neg (by first|(simp;done)|(simp;omega))]
 rw[Array.getElem?_push,if_pos (by simp)]
theorem Rc {n m:Nat} {w:World} {o0 o1 o2 o3 o4 o5:Obj} (hs:w.heap.size=m) (h:n=m+2):(((((((w.alloc o0).alloc o1).alloc o2).alloc o3).alloc o4).alloc o5).drew.drew.drew).heap[n]?=some o2:=by
 subst hs
 subst h
 rw[DK]
 rw[Array.getElem?_push,if_neg (by first|(simp;done)|(simp;omega))]
 rw[Array.getElem?_push,if_neg (by first|(simp;done)|(simp;omega))]
 rw[Array.getElem?_push,if_neg (by first|(simp;done)|(simp;omega))]
 rw[Array.getElem?_push,if_pos (by simp)]
theorem Rd {n m:Nat} {w:World} {o0 o1 o2 o3 o4 o5:Obj} (hs:w.heap.size=m) (h:n=m+3):(((((((w.alloc o0).alloc o1).alloc o2).alloc o3).alloc o4).alloc o5).drew.drew.drew).heap[n]?=some o3:=by
 subst hs
 subst h
 rw[DK]
 rw[Array.getElem?_push,if_neg (by first|(simp;done)|(simp;omega))]
 rw[Array.getElem?_push,if_neg (by first|(simp;done)|(simp;omega))]
 rw[Array.getElem?_push,if_pos (by simp)]
theorem Re {n m:Nat} {w:World} {o0 o1 o2 o3 o4 o5:Obj} (hs:w.heap.size=m) (h:n=m+4):(((((((w.alloc o0).alloc o1).alloc o2).alloc o3).alloc o4).alloc o5).drew.drew.drew).heap[n]?=some o4:=by
 subst hs
 subst h
 rw[DK]
 rw[Array.getElem?_push,if_neg (by first|(simp;done)|(simp;omega))]
 rw[Array.getElem?_push,if_pos (by simp)]
theorem Rg {n m:Nat} {w:World} {o0 o1 o2 o3 o4 o5:Obj} (hs:w.heap.size=m) (h:n=m+5):(((((((w.alloc o0).alloc o1).alloc o2).alloc o3).alloc o4).alloc o5).drew.drew.drew).heap[n]?=some o5:=by
 subst hs
 subst h
 rw[DK]
 rw[Array.getElem?_push,if_pos (by simp)]
theorem Rh {w:World} {o0 o1 o2 o3 o4 o5:Obj}:Below w.heap.size w (((((((w.alloc o0).alloc o1).alloc o2).alloc o3).alloc o4).alloc o5).drew.drew.drew) :=
 (ac (aM w o0 o1) (ac (aM _ o2 o3) (aM _ o4 o5))).drew.drew.drew
theorem qh {a b B:Nat} {x0 x1 x2 x3:Value} {W W':World} (h:(a<B∧b<B∧B<=W.heap.size)∧W.cell? ⟨a,0,none⟩=some x0∧W.cell? ⟨a,1,none⟩=some x1∧W.cell? ⟨b,0,none⟩=some x2∧W.cell? ⟨b,1,none⟩=some x3) (hb:Below W.heap.size W W') :
  (a<B∧b<B∧B<=W'.heap.size)∧W'.cell? ⟨a,0,none⟩=some x0∧W'.cell? ⟨a,1,none⟩=some x1∧W'.cell? ⟨b,0,none⟩=some x2∧W'.cell? ⟨b,1,none⟩=some x3 :=
 ⟨⟨h.1.1,h.1.2.1,Nat.le_trans h.1.2.2 hb.size⟩,ar h.2.1 hb,ar h.2.2.1 hb,ar h.2.2.2.1 hb,ar h.2.2.2.2 hb⟩
theorem KC {a b B:Nat} {x0 x1 x2 x3:Value} {W:World} (o:Obj) (h:(a<B∧b<B∧B<=W.heap.size)∧W.cell? ⟨a,0,none⟩=some x0∧W.cell? ⟨a,1,none⟩=some x1∧W.cell? ⟨b,0,none⟩=some x2∧W.cell? ⟨b,1,none⟩=some x3) :
  (a<B∧b<B∧B<=(W.alloc o).heap.size)∧(W.alloc o).cell? ⟨a,0,none⟩=some x0∧(W.alloc o).cell? ⟨a,1,none⟩=some x1∧(W.alloc o).cell? ⟨b,0,none⟩=some x2∧(W.alloc o).cell? ⟨b,1,none⟩=some x3:=qh h (af _ _)
theorem xi {a b B:Nat} {x0 x1 x2 x3:Value} {W:World} (h:(a<B∧b<B∧B<=W.heap.size)∧W.cell? ⟨a,0,none⟩=some x0∧W.cell? ⟨a,1,none⟩=some x1∧W.cell? ⟨b,0,none⟩=some x2∧W.cell? ⟨b,1,none⟩=some x3) :
  (a<B∧b<B∧B<=W.drew.heap.size)∧W.drew.cell? ⟨a,0,none⟩=some x0∧W.drew.cell? ⟨a,1,none⟩=some x1∧W.drew.cell? ⟨b,0,none⟩=some x2∧W.drew.cell? ⟨b,1,none⟩=some x3:=h
theorem AY {p q way:Int} (rp:ag p) (rq:ag q) (hp:ak p=true) (hq:ak q=true) (h:dr p q≠0) (hw:way≠0):iM way p q=fH way (dr p q):=by
 unfold iM
 have n1:¬ (way=0∨(ak p&&ak q)=false):=fun k=>by
  rcases k with k|k
  ·exact hw k
  ·rw[hp,hq] at k;cases k
 rw[if_neg n1,if_pos h]
theorem eF {p q:Int} (hp:nn p) (hq:nn q):nn (fA p q)∧nn (fB p q):=by
 unfold fA fB
 by_cases h0:rg p=0∨rg q=0
 ·rw[if_pos h0,if_pos h0];exact⟨kK.1,kK.1⟩
 ·rw[if_neg h0,if_neg h0]
  by_cases hi:rg p=9218868437227405312∨rg q=9218868437227405312
  ·rw[if_pos hi,if_pos hi];exact⟨lA (by decide) (by decide),lA (by decide) (by decide)⟩
  ·rw[if_neg hi,if_neg hi]
   have pp:=fh hp (fun k=>hi (.inl k))
   have pq:=fh hq (fun k=>hi (.inr k))
   have hz:=vU hp.1 hq.1 pp pq (fun k=>h0 (.inl k)) (fun k=>h0 (.inr k))
   exact⟨⟨(nU 1 hz).1,(nU 1 hz).2⟩,⟨(nU 2 hz).1,(nU 2 hz).2⟩⟩
theorem oZ {p q:Int} (hp:nn p) (hq:nn q) (w:World) (H:aO w) :
  Calls prog 188 #[G7 (wd p),G7 (wd q)] w fun e w'=>e=.returned (gk (fA p q) (fB p q))∧Below w.heap.size w w':=by
 by_cases h0:rg p=0∨rg q=0
 ·have e1:fA p q=0:=by unfold fA;rw[if_pos h0]
  have e2:fB p q=0:=by unfold fB;rw[if_pos h0]
  rw[e1,e2]
  exact AP hp hq h0 w
 ·have p0:rg p≠0:=fun k=>h0 (.inl k)
  have q0:rg q≠0:=fun k=>h0 (.inr k)
  by_cases hi:rg p=9218868437227405312∨rg q=9218868437227405312
  ·obtain⟨f1,f2⟩:=Nt hp hq p0 q0 hi
   have hn:nn (aC p q):=by rw[f1];exact lA (by decide) (by decide)
   have hd:283726776524341248<=rg (aC p q):=by rw[f1,(eM (by decide) (by decide)).2.1];decide
   have:=vV hp hq p0 q0 hn hd w
   rw[f2,f1] at this
   have e1:fA p q=aG (bN p q) 9218868437227405312:=by unfold fA;rw[if_neg h0,if_pos hi]
   have e2:fB p q=aG (bN p q) 9218868437227405312:=by unfold fB;rw[if_neg h0,if_pos hi]
   have b1:fj (aG (bN p q) 9218868437227405312) 9221120237041090561=aG (bN p q) 9218868437227405312:=by unfold fj;rw[show cm 9221120237041090561 0=false by decide];rfl
   have b2:fl (aG (bN p q) 9218868437227405312) 9221120237041090561=aG (bN p q) 9218868437227405312:=by unfold fl;rw[show cm 9221120237041090561 0=false by decide,show cm 0 9221120237041090561=false by decide];rfl
   rw[b1,b2] at this
   rw[e1,e2]
   exact this
  ·have pp:=fh hp (fun k=>hi (.inl k))
   have pq:=fh hq (fun k=>hi (.inr k))
   have hz:=vU hp.1 hq.1 pp pq p0 q0
   have e1:fA p q=fH 1 (dr p q):=by unfold fA;rw[if_neg h0,if_neg hi]
   have e2:fB p q=fH 2 (dr p q):=by unfold fB;rw[if_neg h0,if_neg hi]
   have hN:=yt hp.1 hq.1 pp pq hz
   have hn:nn (aC p q):=by rw[hN];exact⟨(gh hz).1,(gh hz).2⟩
   rw[e1,e2]
   by_cases hd:rg (aC p q)<283726776524341248
   ·have:=AQ hp hq p0 q0 hn hd w H
    rwa [AY hp.1 hq.1 pp pq hz (by decide),AY hp.1 hq.1 pp pq hz (by decide)] at this
   ·have:=vV hp hq p0 q0 hn (by omega) w
    obtain⟨b1,b2⟩:=Pu hp.1 hq.1 pp pq p0 q0 (by omega)
    rwa [b1,b2] at this
theorem kW {w W:World} (h:Below w.heap.size w W) (o:Obj):Below w.heap.size w (W.alloc o):=h.alloc h.size o
theorem aB {w W:World} (h:Below w.heap.size w W) {g:Nat} {X:Obj} (k:w.heap[g]?=some X):W.heap[g]?=some X:=(h.block _ (aGe k).1).trans k
end Go.Proofs.YtjjihmnbdeeedaaGreatDoor
