/- Parts of the proof. -/
import Derived.Test.YtjjihmnbdeeedaaGreatDoorMa11
import Derived.Test.YtjjihmnbdeeedaaGreatDoorMa13
import Derived.Test.YtjjihmnbdeeedaaGreatDoorMa10
import Derived.Test.YtjjihmnbdeeedaaGreatDoorMa4
import Derived.Test.YtjjihmnbdeeedaaGreatDoorMa1
import Derived.Test.YtjjihmnbdeeedaaGreatDoorMa5
import Derived.Test.YtjjihmnbdeeedaaGreatDoorMa3
set_option maxRecDepth 100000
set_option maxHeartbeats 8000000
set_option linter.unusedVariables false
set_option linter.unusedSimpArgs false
namespace Go.Proofs.YtjjihmnbdeeedaaGreatDoor
open Go Go.Proofs.Tryz Go.RowKit Go.Proofs.YtjjihmnbdeeedaaGreatDoor.M
def jG (ax ay bx by' cx cy:Int):Int:=aF (aP ax bx cx) (aP ay by' cy)
def mf (ax ay bx by' cx cy:Int):Int:=aF (rg (aP ax bx cx)) (rg (aP ay by' cy))
theorem Rq {ax ay bx by' cx cy:Int} {ga gb gc:Nat} (hax:Mz ax) (hay:Mz ay) (hbx:Mz bx) (hby:Mz by') (hcx:Mz cx) (hcy:Mz cy) (w:World) (a_k:w.heap[ga]?=some (.cells #[G6 ax,G6 ay] 33)) (b_k:w.heap[gb]?=some (.cells #[G6 bx,G6 by'] 33)) (c_k:w.heap[gc]?=some (.cells #[G6 cx,G6 cy] 33)) :
  Calls prog 32 #[.pointer (some ⟨ga,0,none⟩),.pointer (some ⟨gb,0,none⟩),.pointer (some ⟨gc,0,none⟩)] w fun r w'=>r=.returned (.tuple #[G7 (wd (jG ax ay bx by' cx cy)),G7 (wd (mf ax ay bx by' cx cy))])∧Below w.heap.size w w':=by
 obtain⟨⟨fS,fD,_⟩,_⟩:=uW hax hay hbx hby hcx hcy rfl rfl rfl rfl
 have fP:=tM hax hbx hcx
 have fQ:=tM hay hby hcy
 have hd:=fun W=>uO (P:=prog) 59 (oY fP) (oY fQ) (bW fD.p) W
 have hs:=fun W=>uO (P:=prog) 59 (oY fP.abs.1) (oY fQ.abs.1) (bW fS.p) W
 have CP:Hid (∀ W,Calls prog 33 #[.agg #[G6 ax,G6 ay],.agg #[G6 bx,G6 by'],.agg #[G6 cx,G6 cy]] W fun r w'=>r=.returned (.tuple #[G7 (wd (aP ax bx cx)),G7 (wd (aP ay by' cy))])∧Below W.heap.size W w'):=fun W=>Py hax hay hbx hby hcx hcy W
 have C1:Hid (∀ W,Calls prog 34 #[G7 (wd (aP ax bx cx))] W fun e w'=>e=.returned (G7 (wd (rg (aP ax bx cx))))∧w'=W):=fun W=>eE fP.r W
 have C2:Hid (∀ W,Calls prog 34 #[G7 (wd (aP ay by' cy))] W fun e w'=>e=.returned (G7 (wd (rg (aP ay by' cy))))∧w'=W):=fun W=>eE fQ.r W
 clear hax hay hbx hby hcx hcy fS fD fP fQ
 unfold jG mf
 generalize wd (aF (aP ax bx cx) (aP ay by' cy))=Wd at *
 generalize wd (aF (rg (aP ax bx cx)) (rg (aP ay by' cy)))=Ws at *
 generalize wd (rg (aP ax bx cx))=Wa at *
 generalize wd (rg (aP ay by' cy))=Wb at *
 generalize wd (aP ax bx cx)=Wp at *
 generalize wd (aP ay by' cy)=Wq at *
 have f_a0:=ae a_k 0 rfl
 have f_a1:=ae a_k 1 rfl
 have f_b0:=ae b_k 0 rfl
 have f_b1:=ae b_k 1 rfl
 have f_c0:=ae c_k 0 rfl
 have f_c1:=ae c_k 1 rfl
 clear a_k b_k c_k
 go_enter func32,ntmps32
 go_wp2_with fail
 refine(CP.out _).mono ?_
 rintro _ y1 ⟨rfl,hw1⟩
 go_wp2_with fail
 refine(C1.out _).mono ?_
 rintro _ wz ⟨rfl,hwz⟩
 replace hwz:=hwz.symm
 subst hwz
 go_wp2_with fail
 refine(C2.out _).mono ?_
 rintro _ wz ⟨rfl,hwz⟩
 replace hwz:=hwz.symm
 subst hwz
 go_wp2
 exact bodyPost_ret (v:=.tuple #[G7 Wd,G7 Ws]) (by simp[results,results32,go_sem]) rfl ⟨rfl,hw1⟩
theorem qm {W:World} {p:Addr} {v:Value} {o:Nat} (h:W.cell? p=some v) (hp:p.block≠o) (x y:Value):((W.setCell ⟨o,0,none⟩ x).setCell ⟨o,1,none⟩ y).cell? p=some v :=
 (((Wr.refl o W).setCell 0 x |>.setCell 1 y).cell (World.block_lt_of_cell? W _ h) hp).trans h
theorem NH {ax ay bx by' cx cy:Int} {ga gb gc:Nat} (hax:Mz ax) (hay:Mz ay) (hbx:Mz bx) (hby:Mz by') (hcx:Mz cx) (hcy:Mz cy) (w:World) (H:aO w) (a_k:w.heap[ga]?=some (.cells #[G6 ax,G6 ay] 33)) (b_k:w.heap[gb]?=some (.cells #[G6 bx,G6 by'] 33)) (c_k:w.heap[gc]?=some (.cells #[G6 cx,G6 cy] 33)) :
    Calls prog 35 #[.pointer (some ⟨ga,0,none⟩),.pointer (some ⟨gb,0,none⟩),.pointer (some ⟨gc,0,none⟩)] w fun r w'=>∃ o c',r=.returned (.slice o (dL ax ay bx by' cx cy).n c')∧iO w' (.slice o (dL ax ay bx by' cx cy).n c') (dL ax ay bx by' cx cy)∧Below w.heap.size w w':=by
  have CD:Hid (∀ W,aO W->Calls prog 37 #[.agg #[.func (.func 90) #[] #[],.func (.func 91) #[] #[],.func (.func 92) #[] #[],.func (.func 93) #[] #[]],.agg #[G6 ax,G6 ay],.agg #[G6 bx,G6 by'],.agg #[G6 cx,G6 cy]] W fun r w'=>∃ o c',r=.returned (.slice o (dL ax ay bx by' cx cy).n c')∧iO w' (.slice o (dL ax ay bx by' cx cy).n c') (dL ax ay bx by' cx cy)∧Below W.heap.size W w'):=fun W h=>Ij hax hay hbx hby hcx hcy W h
  clear hax hay hbx hby hcx hcy
  generalize dL ax ay bx by' cx cy=L at *
  go_enter func35,ntmps35
  go_wp2_with fail
  have hb0:=ap w
  have KK1:∀ W,Below w.heap.size w W->W.cell? ⟨ga,0,none⟩=some (G6 ax)∧W.cell? ⟨ga,1,none⟩=some (G6 ay)∧W.cell? ⟨gb,0,none⟩=some (G6 bx)∧W.cell? ⟨gb,1,none⟩=some (G6 by')∧W.cell? ⟨gc,0,none⟩=some (G6 cx)∧W.cell? ⟨gc,1,none⟩=some (G6 cy):=fun W hb=>⟨ar (ae a_k 0 rfl) hb,ar (ae a_k 1 rfl) hb,ar (ae b_k 0 rfl) hb,ar (ae b_k 1 rfl) hb,ar (ae c_k 0 rfl) hb,ar (ae c_k 1 rfl) hb⟩
  have hC1_0:=(ap w).drew
  have hs1_0:=(ap w).drew
  have hT1_0:Below w.heap.size w w.drew:=hb0.drew
  have H_1_0:=H.keeps (ap w).drew
  go_region_held3 (fun W=>W.cell? ⟨ga,0,none⟩=some (G6 ax)∧W.cell? ⟨ga,1,none⟩=some (G6 ay)∧W.cell? ⟨gb,0,none⟩=some (G6 bx)∧W.cell? ⟨gb,1,none⟩=some (G6 by')∧W.cell? ⟨gc,0,none⟩=some (G6 cx)∧W.cell? ⟨gc,1,none⟩=some (G6 cy))
    (with_reducible first|assumption|exact KK1 _ hC1_0|exact KK1 _ hC1_1|exact KK1 _ hC1_2|fail)
    (first
      | (go_at_call 37;have _t:=hs1_1;refine(CD.out _ (H_1_1.keeps (by with_reducible first|exact ap _|exact af _ _|exact aS _ _))).mono ?_;rintro _ y1_2 ⟨o,c',rfl,hn,hq1_2⟩;have hs1_2:Below y1_1.heap.size y1_1 y1_2:=(by with_reducible first|exact hq1_2|exact ac (af _ _) hq1_2|exact ac (aS _ _) hq1_2);have hT1_2:=ac hT1_1 hs1_2;have hC1_2:=ac hC1_1 hs1_2;have H_1_2:=H_1_1.keeps hs1_2)
      | (go_at_call 36; refine (Ce _).mono ?_; rintro _ y1_1 ⟨rfl,hq1_1⟩; have hs1_1:Below w.drew.heap.size w.drew y1_1:=(by with_reducible first | exact hq1_1 | exact ac (af _ _) hq1_1 | exact ac (aS _ _) hq1_1); have hT1_1:=ac hT1_0 hs1_1; have hC1_1:=ac hC1_0 hs1_1; have H_1_1:=H_1_0.keeps hs1_1))
  go_wp2
  go_ret
  exact⟨o,c',rfl,hn,by first|exact hT1_2|exact hT1_2.drew⟩
theorem NI {ax ay bx by' cx cy:Int} {ga gb gc:Nat} (rax:ag ax) (ray:ag ay) (rbx:ag bx) (rby:ag by') (rcx:ag cx) (rcy:ag cy) (pax:ak ax=true) (pay:ak ay=true) (pbx:ak bx=true) (pby:ak by'=true) (pcx:ak cx=true) (pcy:ak cy=true) (w:World) (H:aO w) (a_k:w.heap[ga]?=some (.cells #[G6 ax,G6 ay] 33)) (b_k:w.heap[gb]?=some (.cells #[G6 bx,G6 by'] 33)) (c_k:w.heap[gc]?=some (.cells #[G6 cx,G6 cy] 33)) :
    Calls prog 38 #[.pointer (some ⟨ga,0,none⟩),.pointer (some ⟨gb,0,none⟩),.pointer (some ⟨gc,0,none⟩)] w fun r w'=>r=.returned (.agg #[G6 (lE ax ay bx by' cx cy),G6 (lF ax ay bx by' cx cy)])∧Below w.heap.size w w':=by
  have CD:Hid (∀ W,aO W->Calls prog 40 #[.agg #[.func (.func 67) #[] #[],.func (.func 95) #[] #[],.func (.func 68) #[] #[],.func (.func 66) #[] #[]],.agg #[G6 ax,G6 ay],.agg #[G6 bx,G6 by'],.agg #[G6 cx,G6 cy]] W fun r w'=>r=.returned (.agg #[G6 (lE ax ay bx by' cx cy),G6 (lF ax ay bx by' cx cy)])∧Below W.heap.size W w'):=fun W h=>Iw rax ray rbx rby rcx rcy pax pay pbx pby pcx pcy W h
  clear rax ray rbx rby rcx rcy pax pay pbx pby pcx pcy
  generalize lE ax ay bx by' cx cy=lo at *
  generalize lF ax ay bx by' cx cy=hi at *
  have hb0:=af w (.cells #[G6 0,G6 0] 72)
  have r_k:=aD w (.cells #[G6 0,G6 0] 72)
  have ne_a:ga≠w.heap.size:=Nat.ne_of_lt (aGe a_k).1
  replace a_k:=am (.cells #[G6 0,G6 0] 72) a_k
  have ne_b:gb≠w.heap.size:=Nat.ne_of_lt (aGe b_k).1
  replace b_k:=am (.cells #[G6 0,G6 0] 72) b_k
  have ne_c:gc≠w.heap.size:=Nat.ne_of_lt (aGe c_k).1
  replace c_k:=am (.cells #[G6 0,G6 0] 72) c_k
  go_enter func38,ntmps38
  go_wp2_with fail
  generalize w.alloc (.cells #[G6 0,G6 0] 72)=x0 at hb0 r_k a_k b_k c_k ⊢
  have H:=H.keeps hb0
  have KK1:∀ W,Below x0.heap.size x0 W->W.cell? ⟨ga,0,none⟩=some (G6 ax)∧W.cell? ⟨ga,1,none⟩=some (G6 ay)∧W.cell? ⟨gb,0,none⟩=some (G6 bx)∧W.cell? ⟨gb,1,none⟩=some (G6 by')∧W.cell? ⟨gc,0,none⟩=some (G6 cx)∧W.cell? ⟨gc,1,none⟩=some (G6 cy):=fun W hb=>⟨ar (ae a_k 0 rfl) hb,ar (ae a_k 1 rfl) hb,ar (ae b_k 0 rfl) hb,ar (ae b_k 1 rfl) hb,ar (ae c_k 0 rfl) hb,ar (ae c_k 1 rfl) hb⟩
  have hC1_0:=(ap x0).drew
  have hs1_0:=(ap x0).drew
  have hT1_0:Below w.heap.size w x0.drew:=hb0.drew
  have H_1_0:=H.keeps (ap x0).drew
  go_region_held3 (fun W=>W.cell? ⟨ga,0,none⟩=some (G6 ax)∧W.cell? ⟨ga,1,none⟩=some (G6 ay)∧W.cell? ⟨gb,0,none⟩=some (G6 bx)∧W.cell? ⟨gb,1,none⟩=some (G6 by')∧W.cell? ⟨gc,0,none⟩=some (G6 cx)∧W.cell? ⟨gc,1,none⟩=some (G6 cy))
    (with_reducible first|assumption|exact KK1 _ hC1_0|exact KK1 _ hC1_1|exact KK1 _ hC1_2|exact⟨qm (KK1 _ hC1_2).1 ne_a _ _,qm (KK1 _ hC1_2).2.1 ne_a _ _,qm (KK1 _ hC1_2).2.2.1 ne_b _ _,qm (KK1 _ hC1_2).2.2.2.1 ne_b _ _,qm (KK1 _ hC1_2).2.2.2.2.1 ne_c _ _,qm (KK1 _ hC1_2).2.2.2.2.2 ne_c _ _⟩|fail)
    (first
      | (go_at_call 40;have _t:=hs1_1;refine(CD.out _ (H_1_1.keeps (by with_reducible first|exact ap _|exact af _ _|exact aS _ _))).mono ?_;rintro _ y1_2 ⟨rfl,hq1_2⟩;have hs1_2:Below y1_1.heap.size y1_1 y1_2:=(by with_reducible first|exact hq1_2|exact ac (af _ _) hq1_2|exact ac (aS _ _) hq1_2);have hT1_2:=ac hT1_1 hs1_2;have hC1_2:=ac hC1_1 hs1_2;have H_1_2:=H_1_1.keeps hs1_2;have hr:=aj hs1_2 (aj hs1_1 (aj hs1_0 r_k));have k0:=(fun _=>ae hr 0 rfl) hs1_2;have z0:=(fun _=>ah hr 0) hs1_2;have k1:=(fun _=>ae hr 1 rfl) hs1_2;have z1:=(fun _=>ah hr 1) hs1_2)
      | (go_at_call 39; refine (PN _).mono ?_; rintro _ y1_1 ⟨rfl,hq1_1⟩; have hs1_1:Below x0.drew.heap.size x0.drew y1_1:=(by with_reducible first | exact hq1_1 | exact ac (af _ _) hq1_1 | exact ac (aS _ _) hq1_1); have hT1_1:=ac hT1_0 hs1_1; have hC1_1:=ac hC1_0 hs1_1; have H_1_1:=H_1_0.keeps hs1_1))
  go_wp2
  exact bodyPost_ret (v:=.agg #[G6 lo,G6 hi]) (by simp[results,results38,go_sem,k0,k1]) rfl ⟨rfl,bJ hT1_2 (Nat.le_refl _) _ _⟩
theorem NJ {ax ay bx by' cx cy:Int} {ga gb gc:Nat} (pax:ak ax=true) (pay:ak ay=true) (pbx:ak bx=true) (pby:ak by'=true) (pcx:ak cx=true) (pcy:ak cy=true) (w:World) (H:aO w) (a_k:w.heap[ga]?=some (.cells #[G6 ax,G6 ay] 33)) (b_k:w.heap[gb]?=some (.cells #[G6 bx,G6 by'] 33)) (c_k:w.heap[gc]?=some (.cells #[G6 cx,G6 cy] 33)) :
    Calls prog 41 #[.pointer (some ⟨ga,0,none⟩),.pointer (some ⟨gb,0,none⟩),.pointer (some ⟨gc,0,none⟩)] w fun r w'=>∃ v V,r=.returned v∧bw w w' V v∧lX (aq ax-aq bx) (aq ay-aq by') (aq cx-aq bx) (aq cy-aq by') V∧Bd 8100 V:=by
  have CD:Hid (∀ W,aO W->Calls prog 43 #[.agg #[.func (.func 78) #[] #[],.func (.func 97) #[] #[],.func (.func 98) #[] #[],.func (.func 99) #[] #[]],.agg #[G6 ax,G6 ay],.agg #[G6 bx,G6 by'],.agg #[G6 cx,G6 cy]] W fun r w'=>∃ v V,r=.returned v∧bw W w' V v∧lX (aq ax-aq bx) (aq ay-aq by') (aq cx-aq bx) (aq cy-aq by') V∧Bd 8100 V):=fun W h=>yH pax pay pbx pby pcx pcy W h
  clear pax pay pbx pby pcx pcy
  have hb0:=af w (.cells #[.bool false,.slice none 0 0,G6 0] 40)
  have r_k:=aD w (.cells #[.bool false,.slice none 0 0,G6 0] 40)
  have ne_a:ga≠w.heap.size:=Nat.ne_of_lt (aGe a_k).1
  replace a_k:=am (.cells #[.bool false,.slice none 0 0,G6 0] 40) a_k
  have ne_b:gb≠w.heap.size:=Nat.ne_of_lt (aGe b_k).1
  replace b_k:=am (.cells #[.bool false,.slice none 0 0,G6 0] 40) b_k
  have ne_c:gc≠w.heap.size:=Nat.ne_of_lt (aGe c_k).1
  replace c_k:=am (.cells #[.bool false,.slice none 0 0,G6 0] 40) c_k
  go_enter func41,ntmps41
  go_wp2_with fail
  generalize w.alloc (.cells #[.bool false,.slice none 0 0,G6 0] 40)=x0 at hb0 r_k a_k b_k c_k ⊢
  have H:=H.keeps hb0
  have hrs:=(aGe r_k).1
  have KK1:∀ W,Below x0.heap.size x0 W->W.cell? ⟨ga,0,none⟩=some (G6 ax)∧W.cell? ⟨ga,1,none⟩=some (G6 ay)∧W.cell? ⟨gb,0,none⟩=some (G6 bx)∧W.cell? ⟨gb,1,none⟩=some (G6 by')∧W.cell? ⟨gc,0,none⟩=some (G6 cx)∧W.cell? ⟨gc,1,none⟩=some (G6 cy):=fun W hb=>⟨ar (ae a_k 0 rfl) hb,ar (ae a_k 1 rfl) hb,ar (ae b_k 0 rfl) hb,ar (ae b_k 1 rfl) hb,ar (ae c_k 0 rfl) hb,ar (ae c_k 1 rfl) hb⟩
  have hC1_0:=(ap x0).drew
  have hs1_0:=(ap x0).drew
  have hT1_0:Below w.heap.size w x0.drew:=hb0.drew
  have H_1_0:=H.keeps (ap x0).drew
  go_region_held3 (fun W=>W.cell? ⟨ga,0,none⟩=some (G6 ax)∧W.cell? ⟨ga,1,none⟩=some (G6 ay)∧W.cell? ⟨gb,0,none⟩=some (G6 bx)∧W.cell? ⟨gb,1,none⟩=some (G6 by')∧W.cell? ⟨gc,0,none⟩=some (G6 cx)∧W.cell? ⟨gc,1,none⟩=some (G6 cy))
    (with_reducible first|assumption|exact KK1 _ hC1_0|exact KK1 _ hC1_1|exact KK1 _ hC1_2|exact⟨lc (KK1 _ hC1_2).1 ne_a _ _ _,lc (KK1 _ hC1_2).2.1 ne_a _ _ _,lc (KK1 _ hC1_2).2.2.1 ne_b _ _ _,lc (KK1 _ hC1_2).2.2.2.1 ne_b _ _ _,lc (KK1 _ hC1_2).2.2.2.2.1 ne_c _ _ _,lc (KK1 _ hC1_2).2.2.2.2.2 ne_c _ _ _⟩|fail)
    (first
      | (go_at_call 43;have _t:=hs1_1;refine(CD.out _ (H_1_1.keeps (by with_reducible first|exact ap _|exact af _ _|exact aS _ _))).mono ?_;rintro _ y1_2 ⟨v,V,rfl,na1,hV,hB⟩;obtain⟨n_g,n_o,n_n,n_c,n_e,rfl⟩:=bZ na1;have hq1_2:=na1.below;have hs1_2:Below y1_1.heap.size y1_1 y1_2:=(by with_reducible first|exact hq1_2|exact ac (af _ _) hq1_2|exact ac (aS _ _) hq1_2);have hT1_2:=ac hT1_1 hs1_2;have hC1_2:=ac hC1_1 hs1_2;have H_1_2:=H_1_1.keeps hs1_2;have hr:=aj hs1_2 (aj hs1_1 (aj hs1_0 r_k));have k0:=(fun _=>ae hr 0 rfl) hs1_2;have z0:=(fun _=>ah hr 0) hs1_2;have k1:=(fun _=>ae hr 1 rfl) hs1_2;have z1:=(fun _=>ah hr 1) hs1_2;have k2:=(fun _=>ae hr 2 rfl) hs1_2;have z2:=(fun _=>ah hr 2) hs1_2)
      | (go_at_call 42; refine (sf _).mono ?_; rintro _ y1_1 ⟨rfl,hq1_1⟩; have hs1_1:Below x0.drew.heap.size x0.drew y1_1:=(by with_reducible first | exact hq1_1 | exact ac (af _ _) hq1_1 | exact ac (aS _ _) hq1_1); have hT1_1:=ac hT1_0 hs1_1; have hC1_1:=ac hC1_0 hs1_1; have H_1_1:=H_1_0.keeps hs1_1))
  go_wp2
  refine bodyPost_ret (v:=.agg #[.bool n_g,.slice n_o n_n n_c,G6 n_e]) (by simp[results,results41,go_sem,k0,k1,k2]) rfl ⟨_,V,rfl,?_,hV,hB⟩
  exact cJ (g:=w.heap.size) na1 (ac hb0 (by first|exact hs1_1|exact ac hs1_0 hs1_1)) (Nat.le_refl _) (Nat.lt_of_lt_of_le hrs (ac hs1_0 hs1_1).size) _ _ _
theorem pI {ax ay bx by' cx cy:Int} {V U E:Int} (w:World) (H:aO w) (hV:∀ (W:World) (ga gb gc gl:Nat),aO W->W.heap[ga]?=some (.cells #[G6 ax,G6 ay] 33)->W.heap[gb]?=some (.cells #[G6 bx,G6 by'] 33)->W.heap[gc]?=some (.cells #[G6 cx,G6 cy] 33)->W.heap[gl]?=some (.cells #[G6 ax,G6 ay,G6 bx,G6 by',G6 cx,G6 cy] 33)->Calls prog 44 #[.agg #[.func (.func 32) #[] #[.pointer (some ⟨ga,0,none⟩),.pointer (some ⟨gb,0,none⟩),.pointer (some ⟨gc,0,none⟩)],.func (.func 35) #[] #[.pointer (some ⟨ga,0,none⟩),.pointer (some ⟨gb,0,none⟩),.pointer (some ⟨gc,0,none⟩)],.func (.func 38) #[] #[.pointer (some ⟨ga,0,none⟩),.pointer (some ⟨gb,0,none⟩),.pointer (some ⟨gc,0,none⟩)],.func (.func 41) #[] #[.pointer (some ⟨ga,0,none⟩),.pointer (some ⟨gb,0,none⟩),.pointer (some ⟨gc,0,none⟩)]],.slice (some ⟨gl,0,none⟩) 3 3] W fun r w'=>r=.returned (.tuple #[.agg #[G6 V,G6 U],G6 E])∧Below W.heap.size W w') :
  Calls prog 17 #[.agg #[G6 ax,G6 ay],.agg #[G6 bx,G6 by'],.agg #[G6 cx,G6 cy]] w fun r w'=>r=.returned (.tuple #[.agg #[G6 V,G6 U],G6 E])∧Below w.heap.size w w':=by
 have HV:Hid (∀ (W:World) (ga gb gc gl:Nat),aO W->W.heap[ga]?=some (.cells #[G6 ax,G6 ay] 33)->W.heap[gb]?=some (.cells #[G6 bx,G6 by'] 33)->W.heap[gc]?=some (.cells #[G6 cx,G6 cy] 33)->W.heap[gl]?=some (.cells #[G6 ax,G6 ay,G6 bx,G6 by',G6 cx,G6 cy] 33)->Calls prog 44 #[.agg #[.func (.func 32) #[] #[.pointer (some ⟨ga,0,none⟩),.pointer (some ⟨gb,0,none⟩),.pointer (some ⟨gc,0,none⟩)],.func (.func 35) #[] #[.pointer (some ⟨ga,0,none⟩),.pointer (some ⟨gb,0,none⟩),.pointer (some ⟨gc,0,none⟩)],.func (.func 38) #[] #[.pointer (some ⟨ga,0,none⟩),.pointer (some ⟨gb,0,none⟩),.pointer (some ⟨gc,0,none⟩)],.func (.func 41) #[] #[.pointer (some ⟨ga,0,none⟩),.pointer (some ⟨gb,0,none⟩),.pointer (some ⟨gc,0,none⟩)]],.slice (some ⟨gl,0,none⟩) 3 3] W fun r w'=>r=.returned (.tuple #[.agg #[G6 V,G6 U],G6 E])∧Below W.heap.size W w'):=hV
 clear hV
 have hst:∀ p F c m w,(store p (.func (.func F) #[] c) m).run prog w=stored prog w p (.func (.func F) #[] c) m:=fun p F c m w=>run_store _ w p _ m rfl
 obtain⟨hb0,a_k,b_k,c_k,r_k,s_k,hsz0⟩:=QU w (.cells #[G6 ax,G6 ay] 33) (.cells #[G6 bx,G6 by'] 33) (.cells #[G6 cx,G6 cy] 33) (.cells #[G6 0,G6 0] 28) (.cells #[.func (.func 32) #[] #[.pointer (some ⟨w.heap.size,0,none⟩),.pointer (some ⟨w.heap.size+1,0,none⟩),.pointer (some ⟨w.heap.size+1+1,0,none⟩)],.func (.func 35) #[] #[.pointer (some ⟨w.heap.size,0,none⟩),.pointer (some ⟨w.heap.size+1,0,none⟩),.pointer (some ⟨w.heap.size+1+1,0,none⟩)],.func (.func 38) #[] #[.pointer (some ⟨w.heap.size,0,none⟩),.pointer (some ⟨w.heap.size+1,0,none⟩),.pointer (some ⟨w.heap.size+1+1,0,none⟩)],.func (.func 41) #[] #[.pointer (some ⟨w.heap.size,0,none⟩),.pointer (some ⟨w.heap.size+1,0,none⟩),.pointer (some ⟨w.heap.size+1+1,0,none⟩)]] 88)
 have hsz:Hid _:=aK hsz0
 clear hsz0
 have f_a0:=ae a_k 0 rfl
 have f_a1:=ae a_k 1 rfl
 have f_b0:=ae b_k 0 rfl
 have f_b1:=ae b_k 1 rfl
 have f_c0:=ae c_k 0 rfl
 have f_c1:=ae c_k 1 rfl
 have f_s0:=ae s_k 0 rfl
 have f_s1:=ae s_k 1 rfl
 have f_s2:=ae s_k 2 rfl
 have f_s3:=ae s_k 3 rfl
 go_enter func17,ntmps17
 go_wp2_with fail
 clear f_a0 f_a1 f_b0 f_b1 f_c0 f_c1 f_s0 f_s1 f_s2 f_s3
 generalize (((((w.alloc (.cells #[G6 ax,G6 ay] 33)).alloc (.cells #[G6 bx,G6 by'] 33)).alloc (.cells #[G6 cx,G6 cy] 33)).alloc (.cells #[G6 0,G6 0] 28)).alloc (.cells #[.func (.func 32) #[] #[.pointer (some ⟨w.heap.size,0,none⟩),.pointer (some ⟨w.heap.size+1,0,none⟩),.pointer (some ⟨w.heap.size+1+1,0,none⟩)],.func (.func 35) #[] #[.pointer (some ⟨w.heap.size,0,none⟩),.pointer (some ⟨w.heap.size+1,0,none⟩),.pointer (some ⟨w.heap.size+1+1,0,none⟩)],.func (.func 38) #[] #[.pointer (some ⟨w.heap.size,0,none⟩),.pointer (some ⟨w.heap.size+1,0,none⟩),.pointer (some ⟨w.heap.size+1+1,0,none⟩)],.func (.func 41) #[] #[.pointer (some ⟨w.heap.size,0,none⟩),.pointer (some ⟨w.heap.size+1,0,none⟩),.pointer (some ⟨w.heap.size+1+1,0,none⟩)]] 88))=x0 at hb0 a_k b_k c_k r_k s_k hsz ⊢
 have l_k:=aE (.cells #[G6 ax,G6 ay,G6 bx,G6 by',G6 cx,G6 cy] 33) hsz.out.symm
 replace a_k:=am (.cells #[G6 ax,G6 ay,G6 bx,G6 by',G6 cx,G6 cy] 33) a_k
 replace b_k:=am (.cells #[G6 ax,G6 ay,G6 bx,G6 by',G6 cx,G6 cy] 33) b_k
 replace c_k:=am (.cells #[G6 ax,G6 ay,G6 bx,G6 by',G6 cx,G6 cy] 33) c_k
 replace r_k:=am (.cells #[G6 ax,G6 ay,G6 bx,G6 by',G6 cx,G6 cy] 33) r_k
 replace hb0:=ac hb0 (af x0 (.cells #[G6 ax,G6 ay,G6 bx,G6 by',G6 cx,G6 cy] 33))
 replace H:=H.keeps hb0
 refine(HV.out _ _ _ _  _ H a_k b_k c_k l_k).mono ?_
 rintro _ y1 ⟨rfl,hw1⟩
 replace r_k:=aj hw1 r_k
 replace hb0:=ac hb0 hw1
 have k0:=ae r_k 0 rfl
 have k1:=ae r_k 1 rfl
 have z0:=ah r_k 0
 have z1:=ah r_k 1
 go_wp2
 exact bodyPost_ret (v:=.tuple #[.agg #[G6 V,G6 U],G6 E]) (by simp[results,results17,go_sem,k0,k1]) rfl ⟨rfl,((hb0.setCell (p:=⟨w.heap.size+3,0,none⟩) (show w.heap.size<=w.heap.size+3 by omega) _).setCell (p:=⟨w.heap.size+3,1,none⟩) (show w.heap.size<=w.heap.size+3 by omega) _)⟩
def gG (ax ay bx by' cx cy:Int):Int:=(iV ax-iV bx)*(iV cx-iV bx)+(iV ay-iV by')*(iV cy-iV by')
theorem tT {p q:Int} (hp:ag p) (hq:ag q) (pp:ak p=true) (pq:ak q=true):aq p-aq q=(iV p-iV q)*pw (-1074):=by
 rw[cQ hp pp,cQ hq pq,Int.sub_mul]
theorem wj (x y:Int):(x*y*pw (-2148))*2^4194304=(x*pw (-1074))*(y*pw (-1074)):=by
 have h:=oh (a:=-1074) (b:=-1074) (by omega) (by omega)
 rw[show(-1074:Int) + -1074=-2148 by decide] at h
 generalize pw (-2148)=P at *
 generalize pw (-1074)=Q at *
 generalize (2:Int)^4194304=Z at *
 have e:(x*Q)*(y*Q)=x*y*(Q*Q):=by grind
 rw[e,h]
 grind
theorem Bw {ax ay bx by' cx cy:Int} (rax:ag ax) (ray:ag ay) (rbx:ag bx) (rby:ag by') (rcx:ag cx) (rcy:ag cy) (pax:ak ax=true) (pay:ak ay=true) (pbx:ak bx=true) (pby:ak by'=true) (pcx:ak cx=true) (pcy:ak cy=true) :
  lX (aq ax-aq bx) (aq ay-aq by') (aq cx-aq bx) (aq cy-aq by') (gG ax ay bx by' cx cy*pw (-2148)):=by
 rw[tT rax rbx pax pbx,tT ray rby pay pby,tT rcx rbx pcx pbx,tT rcy rby pcy pby]
 exact⟨_,_,wj _ _,wj _ _,by unfold gG;rw[Int.add_mul]⟩
theorem oK {x q:Int} (hq:0<q):bH (x*q) 0=bH x 0:=by
 obtain⟨h1,h2⟩:=Hj (q:=q) (x:=x) hq
 rw[Int.mul_comm] at h1 h2
 unfold bH
 by_cases a:x<0
 ·rw[if_pos a,if_pos (h2.2 a)]
 ·have a':¬ x*q<0:=fun h=>a (h2.1 h)
  rw[if_neg a,if_neg a']
  by_cases b:0<x
  ·have b':=h1.2 b
   first|rw[if_pos b,if_pos b']|simp[b,b']
  ·have b':¬ 0<x*q:=fun h=>b (h1.1 h)
   first|rw[if_neg b,if_neg b']|simp[b,b']
theorem xp {x y:Int} (h1:0<x↔0<y) (h2:x<0↔y<0):bH x 0=bH y 0:=by
 unfold bH
 by_cases a:x<0
 ·rw[if_pos a,if_pos (h2.1 a)]
 ·have a':¬ y<0:=fun h=>a (h2.2 h)
  rw[if_neg a,if_neg a']
  by_cases b:0<x
  ·have b':=h1.1 b
   first|rw[if_pos b,if_pos b']|simp[b,b']
  ·have b':¬ 0<y:=fun h=>b (h1.2 h)
   first|rw[if_neg b,if_neg b']|simp[b,b']
def nG (ax ay bx by' cx cy:Int):Bool:=bk ax ay&&bk bx by'&&bk cx cy
def je (ax ay bx by' cx cy:Int):Int :=
 if nG ax ay bx by' cx cy then (if au (aC jb (mf ax ay bx by' cx cy))<rg (jG ax ay bx by' cx cy) then 1 else 4)
 else (if me (lE ax ay bx by' cx cy) (lF ax ay bx by' cx cy) then 5 else 6)
theorem DR {m d:Int} (hm:ag m) (hd:ag d) (h:au m<rg d):iV m<=((iV d).natAbs:Int):=by
 obtain⟨q1,q2⟩:=jN hd
 have e:iV (rg d)=((iV d).natAbs:Int):=by
  rw[mR,iV,decide_eq_false (by omega),vQ hd]
  rfl
 rw[<- e]
 exact LK hm q1 (by rw[lK q2];omega)
theorem Ix {p:Int} (hp:ag p):kV p=bH (iV p) 0:=by
 obtain⟨k1,k2⟩:=tf hp
 exact xp k2.symm k1.symm
theorem LT {ax ay bx by' cx cy:Int} (rax:ag ax) (ray:ag ay) (rbx:ag bx) (rby:ag by') (rcx:ag cx) (rcy:ag cy) (h:nG ax ay bx by' cx cy=true):Mz ax∧Mz ay∧Mz bx∧Mz by'∧Mz cx∧Mz cy:=by
 unfold nG bk at h
 simp only[Bool.and_eq_true] at h
 obtain⟨⟨⟨a1,a2⟩,b1,b2⟩,c1,c2⟩:=h
 exact⟨nS rax a1,nS ray a2,nS rbx b1,nS rby b2,nS rcx c1,nS rcy c2⟩
theorem KP {ax ay bx by' cx cy:Int} (rax:ag ax) (ray:ag ay) (rbx:ag bx) (rby:ag by') (rcx:ag cx) (rcy:ag cy) (hT:nG ax ay bx by' cx cy=true) (w:World) (H:aO w) :
  Calls prog 17 #[.agg #[G6 ax,G6 ay],.agg #[G6 bx,G6 by'],.agg #[G6 cx,G6 cy]] w fun r w'=>r=.returned (.tuple #[.agg #[G6 (bH (gG ax ay bx by' cx cy) 0),G6 (je ax ay bx by' cx cy)],G6 0])∧Below w.heap.size w w':=by
 obtain⟨hax,hay,hbx,hby,hcx,hcy⟩:=LT rax ray rbx rby rcx rcy hT
 have hE1:∀ (cap:Array Value) (w:World),(callFunc 32 cap).run prog w=.ok (.enter 32 cap) w:=by intro cap w;simp[go_sem]
 have hE2:∀ (cap:Array Value) (w:World),(callFunc 35 cap).run prog w=.ok (.enter 35 cap) w:=by intro cap w;simp[go_sem]
 obtain⟨⟨fS,fD,fM⟩,hsg⟩:=uW hax hay hbx hby hcx hcy rfl rfl rfl rfl
 refine pI w H fun W ga gb gc gl HW ha hb hc hl=>?_
 refine yR _ _ _ _ _ _ _ _ W (fun W' hw=>?_) (fun W' hw=>?_)
 ·have:=sI _ _ _ _ _ W' ((pC W hl).keeps hw) (iS rax rbx rcx) (iS ray rby rcy)
  rw[mG bk,show(bk ax ay&&bk bx by'&&bk cx cy)=true from hT] at this
  exact this
 ·have hst:je ax ay bx by' cx cy=if au (aC jb (mf ax ay bx by' cx cy))<rg (jG ax ay bx by' cx cy) then 1 else 4:=by
   unfold je;rw[hT];rfl
  have C0:∀ W2,Below W'.heap.size W' W2->Calls prog 32 #[.pointer (some ⟨ga,0,none⟩),.pointer (some ⟨gb,0,none⟩),.pointer (some ⟨gc,0,none⟩)] W2 fun r w'=>r=.returned (.tuple #[G7 (wd (jG ax ay bx by' cx cy)),G7 (wd (mf ax ay bx by' cx cy))])∧Below W2.heap.size W2 w':=fun W2 h2=>
   Rq hax hay hbx hby hcx hcy W2 (aj (ac hw h2) ha) (aj (ac hw h2) hb) (aj (ac hw h2) hc)
  by_cases hc1:au (aC jb (mf ax ay bx by' cx cy))<rg (jG ax ay bx by' cx cy)
  ·have e:bH (gG ax ay bx by' cx cy) 0=kV (jG ax ay bx by' cx cy):=by
    obtain⟨r1,r2⟩:=hsg (DR fM.r fD.r hc1)
    rw[show kV (jG ax ay bx by' cx cy)=bH (iV (aF (aP ax bx cx) (aP ay by' cy))) 0 from Ix fD.r]
    exact xp r1 r2
   rw[hst,if_pos hc1,e]
   exact If _ _ _ _ _ _ _ _ fD.r fD.p fS.r fS.p fM.p hc1 W' hE1 C0
  ·rw[hst,if_neg hc1]
   refine Ky _ _ _ _ _ _ _ _ fD.r fD.p fS.r fS.p fM.p (by unfold jG mf at hc1;unfold jb at hc1;exact Int.not_lt.1 hc1) W' hE1 C0 hE2 (fun W2 h2=>?_)
   have H2:=HW.keeps (ac hw h2)
   refine(NH hax hay hbx hby hcx hcy W2 H2 (aj (ac hw h2) ha) (aj (ac hw h2) hb) (aj (ac hw h2) hc)).mono ?_
   rintro _ w3 ⟨o,c',rfl,hL,hb3⟩
   refine⟨o,_,c',rfl,fun W4 h4=>?_,hb3⟩
   obtain⟨_,xv,_,xs⟩:=Ih hax hay hbx hby hcx hcy
   have:=QW W4 (hL.keeps h4) xv ((H2.keeps hb3).keeps h4)
   have e:bH (dM (dL ax ay bx by' cx cy).d (dL ax ay bx by' cx cy).n) 0=bH (gG ax ay bx by' cx cy) 0:=by
    unfold gG
    rw[<- xs,Int.mul_comm,oK (p2 1074)]
   rw[e] at this
   exact this
theorem KQ {ax ay bx by' cx cy:Int} (rax:ag ax) (ray:ag ay) (rbx:ag bx) (rby:ag by') (rcx:ag cx) (rcy:ag cy) (pax:ak ax=true) (pay:ak ay=true) (pbx:ak bx=true) (pby:ak by'=true) (pcx:ak cx=true) (pcy:ak cy=true) (hT:nG ax ay bx by' cx cy=false) (w:World) (H:aO w) :
  Calls prog 17 #[.agg #[G6 ax,G6 ay],.agg #[G6 bx,G6 by'],.agg #[G6 cx,G6 cy]] w fun r w'=>r=.returned (.tuple #[.agg #[G6 (bH (gG ax ay bx by' cx cy) 0),G6 (je ax ay bx by' cx cy)],G6 0])∧Below w.heap.size w w':=by
 have hE3:∀ (cap:Array Value) (w:World),(callFunc 38 cap).run prog w=.ok (.enter 38 cap) w:=by intro cap w;simp[go_sem]
 have hE4:∀ (cap:Array Value) (w:World),(callFunc 41 cap).run prog w=.ok (.enter 41 cap) w:=by intro cap w;simp[go_sem]
 have hD:=Bw rax ray rbx rby rcx rcy pax pay pbx pby pcx pcy
 have ok:=LS rax ray rbx rby rcx rcy pax pay pbx pby pcx pcy
 have eV:eO (aq ax-aq bx) (aq cx-aq bx)+eO (aq ay-aq by') (aq cy-aq by')=gG ax ay bx by' cx cy*pw (-2148):=by
  obtain⟨C,D,h1,h2,h3⟩:=hD
  rw[h3,nX h1,nX h2]
 rw[eV] at ok
 have hst:je ax ay bx by' cx cy=if me (lE ax ay bx by' cx cy) (lF ax ay bx by' cx cy) then 5 else 6:=by
  unfold je;rw[hT];rfl
 refine pI w H fun W ga gb gc gl HW ha hb hc hl=>?_
 refine yU _ _ _ _ _ _ _ _ W (fun W' hw=>?_) (fun W' hw=>?_) (fun W' hw=>?_)
 ·have:=sI _ _ _ _ _ W' ((pC W hl).keeps hw) (iS rax rbx rcx) (iS ray rby rcy)
  rw[mG bk,show(bk ax ay&&bk bx by'&&bk cx cy)=false from hT] at this
  exact this
 ·have:=sH _ _ _ _ _ W' ((pC W hl).keeps hw) (iS rax rbx rcx) (iS ray rby rcy)
  rw[mG co,show(co ax ay&&co bx by'&&co cx cy)=true by unfold co;rw[pax,pay,pbx,pby,pcx,pcy];rfl] at this
  exact this
 ·have C2:∀ W2,Below W'.heap.size W' W2->Calls prog 38 #[.pointer (some ⟨ga,0,none⟩),.pointer (some ⟨gb,0,none⟩),.pointer (some ⟨gc,0,none⟩)] W2 fun r w'=>r=.returned (.agg #[G6 (lE ax ay bx by' cx cy),G6 (lF ax ay bx by' cx cy)])∧Below W2.heap.size W2 w':=fun W2 h2=>
   NI rax ray rbx rby rcx rcy pax pay pbx pby pcx pcy W2 (HW.keeps (ac hw h2)) (aj (ac hw h2) ha) (aj (ac hw h2) hb) (aj (ac hw h2) hc)
  have CS:=fun W2=>Ir ok.lo.1 ok.hi.1 W2
  have hso:=DN ok
  rw[oK (bR _)] at hso
  cases hk:me (lE ax ay bx by' cx cy) (lF ax ay bx by' cx cy)
  ·rw[hk] at CS hst
   rw[hst]
   refine Kz _ _ _ _ _ _ _ _ W' hE3 C2 CS hE4 (fun W2 h2=>?_)
   have H2:=HW.keeps (ac hw h2)
   refine(NJ pax pay pbx pby pcx pcy W2 H2 (aj (ac hw h2) ha) (aj (ac hw h2) hb) (aj (ac hw h2) hc)).mono ?_
   rintro _ w3 ⟨v,V,rfl,hA,hV,hB⟩
   obtain⟨n_g,n_o,n_n,n_c,n_e,rfl⟩:=bZ hA
   refine⟨n_g,n_o,n_n,n_c,n_e,rfl,fun W4 h4=>?_,hA.below⟩
   have:=OD (hA.num.keeps h4) (hB.ok (by omega))
   rw[hV.unique hD,oK (bR _)] at this
   exact this
  ·rw[hk] at CS hst
   rw[hso hk] at CS
   rw[hst]
   exact Ig (U:=0) _ _ _ _ _ _ _ _ W' hE3 C2 CS
theorem Iy {ax ay bx by' cx cy:Int} (rax:ag ax) (ray:ag ay) (rbx:ag bx) (rby:ag by') (rcx:ag cx) (rcy:ag cy) (pax:ak ax=true) (pay:ak ay=true) (pbx:ak bx=true) (pby:ak by'=true) (pcx:ak cx=true) (pcy:ak cy=true) (w:World) (H:aO w) :
  Calls prog 17 #[.agg #[G6 ax,G6 ay],.agg #[G6 bx,G6 by'],.agg #[G6 cx,G6 cy]] w fun r w'=>r=.returned (.tuple #[.agg #[G6 (bH (gG ax ay bx by' cx cy) 0),G6 (je ax ay bx by' cx cy)],G6 0])∧Below w.heap.size w w':=by
 cases hT:nG ax ay bx by' cx cy
 ·exact KQ rax ray rbx rby rcx rcy pax pay pbx pby pcx pcy hT w H
 ·exact KP rax ray rbx rby rcx rcy hT w H
theorem Cf {ax ay bx by' cx cy:Int} (rax:ag ax) (ray:ag ay) (rbx:ag bx) (rby:ag by') (rcx:ag cx) (rcy:ag cy) (hno:(co ax ay&&co bx by'&&co cx cy)=false) (w:World) (H:aO w) :
  Calls prog 17 #[.agg #[G6 ax,G6 ay],.agg #[G6 bx,G6 by'],.agg #[G6 cx,G6 cy]] w fun r w'=>r=.returned (.tuple #[.agg #[G6 0,G6 0],G6 10])∧Below w.heap.size w w':=by
 have hT:(bk ax ay&&bk bx by'&&bk cx cy)=false:=by
  cases h:(bk ax ay&&bk bx by'&&bk cx cy)
  ·rfl
  ·simp only[Bool.and_eq_true] at h
   rw[wE rax ray h.1.1,wE rbx rby h.1.2,wE rcx rcy h.2] at hno
   cases hno
 refine pI w H fun W ga gb gc gl HW ha hb hc hl=>?_
 refine yT (V:=0) (U:=0) _ _ _ _ _ _ _ _ W (fun W' hw=>?_) (fun W' hw=>?_)
 ·have:=sI _ _ _ _ _ W' ((pC W hl).keeps hw) (iS rax rbx rcx) (iS ray rby rcy)
  rw[mG bk,hT] at this
  exact this
 ·have:=sH _ _ _ _ _ W' ((pC W hl).keeps hw) (iS rax rbx rcx) (iS ray rby rcy)
  rw[mG co,hno] at this
  exact this
theorem xq (b:Int) (w:World) (hb:ag b) (hp:ak b=true) :
  Calls prog 154 #[G6 b] w fun r w'=>∃ v,r=.returned v∧bw w w' (sg (dW b) (aN b)*pw (bh b)) v:=by
 obtain⟨i0,i1,i2,i3⟩:=eY hp
 have hF:=fun W=>Gf (aN b) W i0 (by omega)
 have hN:=fun W ao n cap d (h:aU W ao n cap d) (hd:bP d n) (hn:n<=40000)=>sP (dW b) ao n cap d (bh b) W h hd hn (by omega) (by omega)
 have hP:=fun W=>IO b W hb
 generalize dW b=ng at *
 generalize bh b=ex at *
 generalize aN b=mg at *
 rw[hp] at hP
 go_enter func154,ntmps154
 go_wp2_with fail
 refine(hP _).mono ?_
 rintro r w1 ⟨rfl,rfl⟩
 go_wp2_with fail
 refine(hF _).mono ?_
 rintro r w2 ⟨v,rfl,hA⟩
 obtain⟨so,sn,sc,d,rfl,hR,hNr,hv⟩:=hA.num
 have hsn:sn<=100:=hA.num.len (k:=100) (by have:=nf (show 3<=100 by omega);have:P 3=1237940039285380274899124224:=rfl;omega)
 have hbw:=ac (af w _) hA.below
 go_wp2_with fail
 refine(hN _ _ _ _ _ hR hNr.1 (by omega)).mono ?_
 rw[hv]
 rintro r w3 ⟨v,rfl,hD⟩
 obtain⟨ng',s',m',e',rfl,hyy,hA2⟩:=id hD
 obtain⟨so',sn',sc',rfl⟩:=hA2.num.shape
 have q0:=((ac hA.below hD.below).block w.heap.size (by rw[fu];omega)).trans (aD _ _)
 have x0:=ae q0 0 rfl
 have x1:=ae q0 1 rfl
 have x2:=ae q0 2 rfl
 have z0:=ah q0 0
 have z1:=ah q0 1
 have z2:=ah q0 2
 go_wp2
 refine bodyPost_ret (v:=.agg #[.bool ng',.slice so' sn' sc',G6 e']) (by simp[results,results154,go_sem,x0,x1,x2]) rfl ⟨_,rfl,?_⟩
 exact cJ (g:=w.heap.size) hD hbw (Nat.le_refl _) (Nat.lt_of_lt_of_le (by rw[fu];omega) hA.below.size) _ _ _
theorem uj (b:Int) (w:World) (hb:ag b) (hp:ak b=true) :
  Calls prog 84 #[G6 b] w fun r w'=>∃ v,r=.returned v∧bw w w' (aq b) v:=by
 have r_k:=aD w (.cells #[.bool false,.slice none 0 0,G6 0] 40)
 have hb0:=af w (.cells #[.bool false,.slice none 0 0,G6 0] 40)
 have CO:Hid (∀ W,Calls prog 154 #[G6 b] W fun r w'=>∃ v,r=.returned v∧bw W w' (aq b) v):=fun W=>xq b W hb hp
 go_enter func84,ntmps84
 go_wp2_with fail
 generalize w.alloc (.cells #[.bool false,.slice none 0 0,G6 0] 40)=x0 at r_k hb0 ⊢
 have hs0:=(aGe r_k).1
 refine(CO.out _).mono ?_
 rintro _ y1 ⟨v,rfl,h1⟩
 obtain⟨n_g,n_o,n_n,n_c,n_e,rfl⟩:=bZ h1
 have hw:=h1.below
 have r_k:=(hw.block _ (aGe r_k).1).trans r_k
 have k0:=ae r_k 0 rfl
 have k1:=ae r_k 1 rfl
 have k2:=ae r_k 2 rfl
 have z0:=ah r_k 0
 have z1:=ah r_k 1
 have z2:=ah r_k 2
 go_wp2
 refine bodyPost_ret (v:=.agg #[.bool n_g,.slice n_o n_n n_c,G6 n_e]) (by simp[results,results84,go_sem,k0,k1,k2]) rfl ⟨_,rfl,?_⟩
 exact cJ (g:=w.heap.size) h1 hb0 (Nat.le_refl _) hs0 _ _ _
theorem NK {B:Nat} {w:World} {y:aW} (h:cB B w y.V y.v) (ok:gK y=true):cB B w (-y.V) y.opp.v:=by
 obtain⟨m,h1,h2⟩:=cB.parts h
 obtain⟨e1,e2⟩:=Fb ok
 rw[e1] at e2
 obtain⟨_,rfl,_⟩:=h1.unique (sO ok).1
 exact⟨_,_,_,_,rfl,e2,h2⟩
theorem cB.shape {B:Nat} {w:World} {V:Int} {v:Value} (h:cB B w V v):∃ ng so sn sc e,v=.agg #[.bool ng,.slice so sn sc,G6 e]:=h.three
theorem Cg {B:Nat} {w:World} {x y:Value} {A C:Int} {K:Nat} (hx:cB B w A x) (hy:cB B w C y) (hB:B<=w.heap.size) (bA:Bd K A) (bC:Bd K C) (hK:K<=28000) :
  Calls prog 83 #[x,y] w fun r w'=>∃ v,r=.returned v∧cB B w' (A-C) v∧Below w.heap.size w w':=by
 have CS:∀ W,Below w.heap.size w W->Calls prog 153 #[x,y] W fun r w'=>∃ v,r=.returned v∧cB B w' (A-C) v∧Below W.heap.size W w':=fun W hW=>by
  have hx':=hx.keeps hW
  have hy':=hy.keeps hW
  obtain⟨x,rfl,hR,ok,rfl⟩:=hx'.num.open (bA.ok (by omega))
  obtain⟨y,rfl,hR',ok',rfl⟩:=hy'.num.open (bC.ok (by omega))
  refine(yB x y W hR hR' ok ok' (K:=K) (by omega) bA bC).mono ?_
  rintro r w' ⟨v,rfl,h⟩
  refine⟨v,rfl,?_,h.1⟩
  rw[Int.sub_eq_add_neg]
  rcases h.2 with h1|⟨h1,rfl⟩|⟨h1,rfl⟩
  ·exact h1.dan.lower (Nat.le_trans hB hW.size)
  ·rw[h1,Int.zero_add];exact(NK hy' ok').keeps h.1
  ·rw[h1,Int.add_zero];exact hx'.keeps h.1
 obtain⟨p_g,p_o,p_n,p_c,p_e,rfl⟩:=hx.shape
 obtain⟨q_g,q_o,q_n,q_c,q_e,rfl⟩:=hy.shape
 clear hx hy bA bC
 have hb0:=df w (.cells #[.bool p_g,.slice p_o p_n p_c,G6 p_e] 40) (.cells #[.bool q_g,.slice q_o q_n q_c,G6 q_e] 40) (.cells #[.bool false,.slice none 0 0,G6 0] 40)
 have r_k:=lh w (.cells #[.bool p_g,.slice p_o p_n p_c,G6 p_e] 40) (.cells #[.bool q_g,.slice q_o q_n q_c,G6 q_e] 40) (.cells #[.bool false,.slice none 0 0,G6 0] 40)
 go_enter func83,ntmps83
 go_wp2_with fail
 generalize ((w.alloc (.cells #[.bool p_g,.slice p_o p_n p_c,G6 p_e] 40)).alloc (.cells #[.bool q_g,.slice q_o q_n q_c,G6 q_e] 40)).alloc (.cells #[.bool false,.slice none 0 0,G6 0] 40)=x0 at r_k hb0 ⊢
 refine(CS _ hb0).mono ?_
 rintro _ y1 ⟨v,rfl,h1,hw⟩
 obtain⟨n_g,n_o,n_n,n_c,n_e,rfl⟩:=h1.shape
 have r_k:=(hw.block _ (aGe r_k).1).trans r_k
 have k0:=ae r_k 0 rfl
 have k1:=ae r_k 1 rfl
 have k2:=ae r_k 2 rfl
 have z0:=ah r_k 0
 have z1:=ah r_k 1
 have z2:=ah r_k 2
 go_wp2
 refine bodyPost_ret (v:=.agg #[.bool n_g,.slice n_o n_n n_c,G6 n_e]) (by simp[results,results83,go_sem,k0,k1,k2]) rfl ⟨_,rfl,dN h1 r_k _ _ _,li (ac hb0 hw) (by omega) _ _ _⟩
theorem uk {w:World} {x y:Value} {A C:Int} {K:Nat} (hx:br w x A) (hy:br w y C) (bA:Bd K A) (bC:Bd K C) (hK:K<=14000) :
  Calls prog 80 #[x,y] w fun r w'=>∃ v V,r=.returned v∧bw w w' V v∧V*2^4194304=A*C∧Bd (2*K) V:=by
 have CS:∀ W,Below w.heap.size w W->Calls prog 151 #[x,y] W fun r w'=>∃ v V,r=.returned v∧bw W w' V v∧V*2^4194304=A*C∧Bd (2*K) V:=fun W hW=>by
  have hx':=hx.keeps hW
  have hy':=hy.keeps hW
  obtain⟨x,rfl,hR,ok,rfl⟩:=hx'.open (bA.ok (by omega))
  obtain⟨y,rfl,hR',ok',rfl⟩:=hy'.open (bC.ok (by omega))
  refine(th x y W hR hR' (ct ok) (ct ok')).mono ?_
  rintro r w' ⟨v,rfl,h⟩
  have hC:=tA (x:=x) (y:=y) (by have:=(ct ok).2.2.1;omega) (by have:=(ct ok').2.2.1;omega)
  exact⟨v,_,rfl,h,hC,bA.mul bC hC (by omega)⟩
 obtain⟨p,rfl,_,_,_⟩:=hx.open (bA.ok (by omega))
 obtain⟨q,rfl,_,_,_⟩:=hy.open (bC.ok (by omega))
 obtain⟨p_g,p_o,p_n,p_c,p_d,p_e⟩:=p
 obtain⟨q_g,q_o,q_n,q_c,q_d,q_e⟩:=q
 unfold aW.v at *
 simp only at *
 clear hx hy bA bC
 have hb0:=df w (.cells #[.bool p_g,.slice p_o p_n p_c,G6 p_e] 40) (.cells #[.bool q_g,.slice q_o q_n q_c,G6 q_e] 40) (.cells #[.bool false,.slice none 0 0,G6 0] 40)
 have r_k:=lh w (.cells #[.bool p_g,.slice p_o p_n p_c,G6 p_e] 40) (.cells #[.bool q_g,.slice q_o q_n q_c,G6 q_e] 40) (.cells #[.bool false,.slice none 0 0,G6 0] 40)
 go_enter func80,ntmps80
 go_wp2_with fail
 generalize ((w.alloc (.cells #[.bool p_g,.slice p_o p_n p_c,G6 p_e] 40)).alloc (.cells #[.bool q_g,.slice q_o q_n q_c,G6 q_e] 40)).alloc (.cells #[.bool false,.slice none 0 0,G6 0] 40)=x0 at r_k hb0 ⊢
 have hs0:=(aGe r_k).1
 refine(CS _ hb0).mono ?_
 rintro _ y1 ⟨v,V,rfl,h1,hE,hBd⟩
 obtain⟨n_g,n_o,n_n,n_c,n_e,rfl⟩:=bZ h1
 have hw:=h1.below
 have r_k:=(hw.block _ (aGe r_k).1).trans r_k
 have k0:=ae r_k 0 rfl
 have k1:=ae r_k 1 rfl
 have k2:=ae r_k 2 rfl
 have z0:=ah r_k 0
 have z1:=ah r_k 1
 have z2:=ah r_k 2
 go_wp2
 refine bodyPost_ret (v:=.agg #[.bool n_g,.slice n_o n_n n_c,G6 n_e]) (by simp[results,results80,go_sem,k0,k1,k2]) rfl ⟨_,V,rfl,?_,hE,hBd⟩
 exact cJ (g:=w.heap.size+2) h1 hb0 (by omega) hs0 _ _ _
theorem Fh {B:Nat} {w:World} {x y:Value} {A C:Int} {K:Nat} (hx:cB B w A x) (hy:cB B w C y) (hB:B<=w.heap.size) (bA:Bd K A) (bC:Bd K C) (hK:K<=28000) :
  Calls prog 82 #[x,y] w fun r w'=>∃ v,r=.returned v∧cB B w' (A+C) v∧Below w.heap.size w w':=by
 have CS:∀ W,Below w.heap.size w W->Calls prog 152 #[x,y] W fun r w'=>∃ v,r=.returned v∧cB B w' (A+C) v∧Below W.heap.size W w':=fun W hW=>by
  have hx':=hx.keeps hW
  have hy':=hy.keeps hW
  refine(AT hx'.num hy'.num (K:=K) (by omega) bA bC).mono ?_
  rintro r w' ⟨v,rfl,h⟩
  refine⟨v,rfl,?_,h.1⟩
  rcases h.2 with h1|⟨h1,rfl⟩|⟨h1,rfl⟩
  ·exact h1.dan.lower (Nat.le_trans hB hW.size)
  ·rw[h1,Int.zero_add];exact hy'.keeps h.1
  ·rw[h1,Int.add_zero];exact hx'.keeps h.1
 obtain⟨p_g,p_o,p_n,p_c,p_e,rfl⟩:=hx.shape
 obtain⟨q_g,q_o,q_n,q_c,q_e,rfl⟩:=hy.shape
 clear hx hy bA bC
 have hb0:=df w (.cells #[.bool p_g,.slice p_o p_n p_c,G6 p_e] 40) (.cells #[.bool q_g,.slice q_o q_n q_c,G6 q_e] 40) (.cells #[.bool false,.slice none 0 0,G6 0] 40)
 have r_k:=lh w (.cells #[.bool p_g,.slice p_o p_n p_c,G6 p_e] 40) (.cells #[.bool q_g,.slice q_o q_n q_c,G6 q_e] 40) (.cells #[.bool false,.slice none 0 0,G6 0] 40)
 go_enter func82,ntmps82
 go_wp2_with fail
 generalize ((w.alloc (.cells #[.bool p_g,.slice p_o p_n p_c,G6 p_e] 40)).alloc (.cells #[.bool q_g,.slice q_o q_n q_c,G6 q_e] 40)).alloc (.cells #[.bool false,.slice none 0 0,G6 0] 40)=x0 at r_k hb0 ⊢
 refine(CS _ hb0).mono ?_
 rintro _ y1 ⟨v,rfl,h1,hw⟩
 obtain⟨n_g,n_o,n_n,n_c,n_e,rfl⟩:=h1.shape
 have r_k:=(hw.block _ (aGe r_k).1).trans r_k
 have k0:=ae r_k 0 rfl
 have z0:=ah r_k 0
 have k1:=ae r_k 1 rfl
 have z1:=ah r_k 1
 have k2:=ae r_k 2 rfl
 have z2:=ah r_k 2
 go_wp2
 refine bodyPost_ret (v:=.agg #[.bool n_g,.slice n_o n_n n_c,G6 n_e]) (by simp[results,results82,go_sem,k0,k1,k2]) rfl ⟨_,rfl,dN h1 r_k _ _ _,li (ac hb0 hw) (by omega) _ _ _⟩
theorem lY {p q:Int} (rp:ag p) (rq:ag q) (pp:ak p=true) (pq:ak q=true) (w:World) :
  Calls prog 176 #[G6 p,G6 q] w fun r w'=>∃ v,r=.returned v∧cB w.heap.size w' (aq p-aq q) v∧Below w.heap.size w w':=by
 have E1:Hid (∀ W,Calls prog 84 #[G6 p] W fun r w'=>∃ v,r=.returned v∧bw W w' (aq p) v):=fun W=>uj p W rp pp
 have E2:Hid (∀ W,Calls prog 84 #[G6 q] W fun r w'=>∃ v,r=.returned v∧bw W w' (aq q) v):=fun W=>uj q W rq pq
 have B1:=dp pp
 have B2:=dp pq
 clear rp rq pp pq
 have r_k:=aD w (.cells #[.bool false,.slice none 0 0,G6 0] 40)
 have hb0:=af w (.cells #[.bool false,.slice none 0 0,G6 0] 40)
 go_enter func176,ntmps176
 go_wp2_with fail
 generalize w.alloc (.cells #[.bool false,.slice none 0 0,G6 0] 40)=x0 at r_k hb0 ⊢
 refine(E1.out _).mono ?_
 rintro _ y1 ⟨v,rfl,h1⟩
 obtain⟨p_g,p_o,p_n,p_c,p_e,rfl⟩:=bZ h1
 have hw1:=h1.below
 have p_D:=h1.dan.lower hb0.size
 replace r_k:=aj hw1 r_k
 replace hb0:=ac hb0 hw1
 go_wp2_with fail
 refine(E2.out _).mono ?_
 rintro _ y2 ⟨v,rfl,h2⟩
 obtain⟨q_g,q_o,q_n,q_c,q_e,rfl⟩:=bZ h2
 have hw2:=h2.below
 have q_D:=h2.dan.lower hb0.size
 replace p_D:=p_D.keeps hw2
 replace r_k:=aj hw2 r_k
 replace hb0:=ac hb0 hw2
 go_wp2_with fail
 refine(Cg p_D q_D hb0.size B1 B2 (by omega)).mono ?_
 rintro _ y3 ⟨v,rfl,h3,hw3⟩
 obtain⟨n_g,n_o,n_n,n_c,n_e,rfl⟩:=h3.shape
 replace r_k:=aj hw3 r_k
 replace hb0:=ac hb0 hw3
 have k0:=ae r_k 0 rfl
 have z0:=ah r_k 0
 have k1:=ae r_k 1 rfl
 have z1:=ah r_k 1
 have k2:=ae r_k 2 rfl
 have z2:=ah r_k 2
 go_wp2
 exact bodyPost_ret (v:=.agg #[.bool n_g,.slice n_o n_n n_c,G6 n_e]) (by simp[results,results176,go_sem,k0,k1,k2]) rfl ⟨_,rfl,dN h3 r_k _ _ _,li hb0 (by omega) _ _ _⟩
theorem Fi {ax ay bx by' cx cy:Int} (rax:ag ax) (ray:ag ay) (rbx:ag bx) (rby:ag by') (rcx:ag cx) (rcy:ag cy) (pax:ak ax=true) (pay:ak ay=true) (pbx:ak bx=true) (pby:ak by'=true) (pcx:ak cx=true) (pcy:ak cy=true) (w:World) :
    Calls prog 115 #[.agg #[G6 ax,G6 ay],.agg #[G6 bx,G6 by'],.agg #[G6 cx,G6 cy]] w fun r w'=>∃ v V,r=.returned v∧cB w.heap.size w' V v∧Below w.heap.size w w'∧lX (aq ax-aq bx) (aq ay-aq by') (aq cx-aq bx) (aq cy-aq by') V∧Bd 8100 V:=by
  have A1:Hid (∀ W,Calls prog 176 #[G6 ax,G6 bx] W fun r w'=>∃ v,r=.returned v∧cB W.heap.size w' (aq ax-aq bx) v∧Below W.heap.size W w'):=fun W=>lY rax rbx pax pbx W
  have B1:=(dp pax).sub (dp pbx) (by decide)
  have A2:Hid (∀ W,Calls prog 176 #[G6 cx,G6 bx] W fun r w'=>∃ v,r=.returned v∧cB W.heap.size w' (aq cx-aq bx) v∧Below W.heap.size W w'):=fun W=>lY rcx rbx pcx pbx W
  have B2:=(dp pcx).sub (dp pbx) (by decide)
  have A3:Hid (∀ W,Calls prog 176 #[G6 ay,G6 by'] W fun r w'=>∃ v,r=.returned v∧cB W.heap.size w' (aq ay-aq by') v∧Below W.heap.size W w'):=fun W=>lY ray rby pay pby W
  have B3:=(dp pay).sub (dp pby) (by decide)
  have A4:Hid (∀ W,Calls prog 176 #[G6 cy,G6 by'] W fun r w'=>∃ v,r=.returned v∧cB W.heap.size w' (aq cy-aq by') v∧Below W.heap.size W w'):=fun W=>lY rcy rby pcy pby W
  have B4:=(dp pcy).sub (dp pby) (by decide)
  generalize aq ax-aq bx=a1 at *
  generalize aq cx-aq bx=c1 at *
  generalize aq ay-aq by'=a2 at *
  generalize aq cy-aq by'=c2 at *
  clear pax pay pbx pby pcx pcy rax ray rbx rby rcx rcy
  have a_k:(w.alloc (.cells #[G6 ax,G6 ay] 33)).heap[w.heap.size]?=some (.cells #[G6 ax,G6 ay] 33):=aE (.cells #[G6 ax,G6 ay] 33) (by rfl)
  have hb0:=af w (.cells #[G6 ax,G6 ay] 33)
  replace a_k:=am (.cells #[G6 bx,G6 by'] 33) a_k
  have b_k:((w.alloc (.cells #[G6 ax,G6 ay] 33)).alloc (.cells #[G6 bx,G6 by'] 33)).heap[w.heap.size+1]?=some (.cells #[G6 bx,G6 by'] 33):=aE (.cells #[G6 bx,G6 by'] 33) (by simp only[aw])
  replace hb0:=ac hb0 (af (w.alloc (.cells #[G6 ax,G6 ay] 33)) (.cells #[G6 bx,G6 by'] 33))
  replace a_k:=am (.cells #[G6 cx,G6 cy] 33) a_k
  replace b_k:=am (.cells #[G6 cx,G6 cy] 33) b_k
  have c_k:(((w.alloc (.cells #[G6 ax,G6 ay] 33)).alloc (.cells #[G6 bx,G6 by'] 33)).alloc (.cells #[G6 cx,G6 cy] 33)).heap[w.heap.size+1+1]?=some (.cells #[G6 cx,G6 cy] 33):=aE (.cells #[G6 cx,G6 cy] 33) (by simp only[aw])
  replace hb0:=ac hb0 (af ((w.alloc (.cells #[G6 ax,G6 ay] 33)).alloc (.cells #[G6 bx,G6 by'] 33)) (.cells #[G6 cx,G6 cy] 33))
  replace a_k:=am (.cells #[.bool false,.slice none 0 0,G6 0] 40) a_k
  replace b_k:=am (.cells #[.bool false,.slice none 0 0,G6 0] 40) b_k
  replace c_k:=am (.cells #[.bool false,.slice none 0 0,G6 0] 40) c_k
  have r_k:((((w.alloc (.cells #[G6 ax,G6 ay] 33)).alloc (.cells #[G6 bx,G6 by'] 33)).alloc (.cells #[G6 cx,G6 cy] 33)).alloc (.cells #[.bool false,.slice none 0 0,G6 0] 40)).heap[w.heap.size+1+1+1]?=some (.cells #[.bool false,.slice none 0 0,G6 0] 40):=aE (.cells #[.bool false,.slice none 0 0,G6 0] 40) (by simp only[aw])
  replace hb0:=ac hb0 (af (((w.alloc (.cells #[G6 ax,G6 ay] 33)).alloc (.cells #[G6 bx,G6 by'] 33)).alloc (.cells #[G6 cx,G6 cy] 33)) (.cells #[.bool false,.slice none 0 0,G6 0] 40))
  go_enter func115,ntmps115
  go_wp2_with fail
  rename_i Q0 K00 hK00
  generalize ((((w.alloc (.cells #[G6 ax,G6 ay] 33)).alloc (.cells #[G6 bx,G6 by'] 33)).alloc (.cells #[G6 cx,G6 cy] 33)).alloc (.cells #[.bool false,.slice none 0 0,G6 0] 40))=x0 at hb0 a_k b_k c_k r_k ⊢
  have hK1:=hK00
  have HN1:∀ (g:Nat) (x1:World) (t:Array Value) (l_g:Bool) (l_o:Option Addr) (l_n l_c:Nat) (l_e:Int) (l_V:Int),#[t.getD 0 undef,t.getD 1 undef,t.getD 2 undef,.pointer (some ⟨w.heap.size,0,none⟩),.pointer (some ⟨w.heap.size+1,0,none⟩),.pointer (some ⟨w.heap.size+1+1,0,none⟩),.pointer (some ⟨w.heap.size+1+1+1,0,none⟩),.pointer (some ⟨g,0,none⟩),t.getD 8 undef,t.getD 9 undef,t.getD 10 undef,t.getD 11 undef,t.getD 12 undef,t.getD 13 undef,t.getD 14 undef,t.getD 15 undef,t.getD 16 undef,t.getD 17 undef,t.getD 18 undef,t.getD 19 undef,t.getD 20 undef,t.getD 21 undef,t.getD 22 undef,t.getD 23 undef,t.getD 24 undef,t.getD 25 undef,t.getD 26 undef,t.getD 27 undef,t.getD 28 undef,t.getD 29 undef,t.getD 30 undef,t.getD 31 undef,t.getD 32 undef,t.getD 33 undef]=t->x0.heap.size<=g->x1.heap[g]?=some (.cells #[.bool l_g,.slice l_o l_n l_c,G6 l_e] 40 (0,0))->Below x0.heap.size x0 x1->cB w.heap.size x1 l_V (.agg #[.bool l_g,.slice l_o l_n l_c,G6 l_e])->l_V*2^4194304=a1*c1->Bd (2*(4000+1)) l_V->Exit.then K00 Q0 Exit.normal { tmps:=t,defers:=[] } x1:=by
    intro g_l x1 t l_g l_o l_n l_c l_e l_V ht l_ge l_k hw1 l_D l_E l_B
    obtain⟨u1,hu⟩:∃ u:Nat->Value,t=#[u 0,u 1,u 2,.pointer (some ⟨w.heap.size,0,none⟩),.pointer (some ⟨w.heap.size+1,0,none⟩),.pointer (some ⟨w.heap.size+1+1,0,none⟩),.pointer (some ⟨w.heap.size+1+1+1,0,none⟩),.pointer (some ⟨g_l,0,none⟩),u 8,u 9,u 10,u 11,u 12,u 13,u 14,u 15,u 16,u 17,u 18,u 19,u 20,u 21,u 22,u 23,u 24,u 25,u 26,u 27,u 28,u 29,u 30,u 31,u 32,u 33]:=⟨fun k=>t.getD k undef,ht.symm⟩
    clear ht
    subst hu
    have a_k:=(hw1.block _ (aGe a_k).1).trans a_k
    have b_k:=(hw1.block _ (aGe b_k).1).trans b_k
    have c_k:=(hw1.block _ (aGe c_k).1).trans c_k
    have r_k:=(hw1.block _ (aGe r_k).1).trans r_k
    have hb1:=ac hb0 hw1
    go_wp2_with fail
    rename_i K2 hK2
    have HN2:∀ (g:Nat) (x2:World) (t:Array Value) (s_g:Bool) (s_o:Option Addr) (s_n s_c:Nat) (s_e:Int) (s_V:Int),#[t.getD 0 undef,t.getD 1 undef,t.getD 2 undef,.pointer (some ⟨w.heap.size,0,none⟩),.pointer (some ⟨w.heap.size+1,0,none⟩),.pointer (some ⟨w.heap.size+1+1,0,none⟩),.pointer (some ⟨w.heap.size+1+1+1,0,none⟩),.pointer (some ⟨g_l,0,none⟩),.pointer (some ⟨g,0,none⟩),t.getD 9 undef,t.getD 10 undef,t.getD 11 undef,t.getD 12 undef,t.getD 13 undef,t.getD 14 undef,t.getD 15 undef,t.getD 16 undef,t.getD 17 undef,t.getD 18 undef,t.getD 19 undef,t.getD 20 undef,t.getD 21 undef,t.getD 22 undef,t.getD 23 undef,t.getD 24 undef,t.getD 25 undef,t.getD 26 undef,t.getD 27 undef,t.getD 28 undef,t.getD 29 undef,t.getD 30 undef,t.getD 31 undef,t.getD 32 undef,t.getD 33 undef]=t->x1.heap.size<=g->x2.heap[g]?=some (.cells #[.bool s_g,.slice s_o s_n s_c,G6 s_e] 40 (0,0))->Below x1.heap.size x1 x2->cB w.heap.size x2 s_V (.agg #[.bool s_g,.slice s_o s_n s_c,G6 s_e])->s_V*2^4194304=a2*c2->Bd (2*(4000+1)) s_V->Exit.then K2 Q0 Exit.normal { tmps:=t,defers:=[] } x2:=by
      intro g_s x2 t s_g s_o s_n s_c s_e s_V ht s_ge s_k hw2 s_D s_E s_B
      obtain⟨u2,hu⟩:∃ u:Nat->Value,t=#[u 0,u 1,u 2,.pointer (some ⟨w.heap.size,0,none⟩),.pointer (some ⟨w.heap.size+1,0,none⟩),.pointer (some ⟨w.heap.size+1+1,0,none⟩),.pointer (some ⟨w.heap.size+1+1+1,0,none⟩),.pointer (some ⟨g_l,0,none⟩),.pointer (some ⟨g_s,0,none⟩),u 9,u 10,u 11,u 12,u 13,u 14,u 15,u 16,u 17,u 18,u 19,u 20,u 21,u 22,u 23,u 24,u 25,u 26,u 27,u 28,u 29,u 30,u 31,u 32,u 33]:=⟨fun k=>t.getD k undef,ht.symm⟩
      clear ht
      subst hu
      have a_k:=(hw2.block _ (aGe a_k).1).trans a_k
      have b_k:=(hw2.block _ (aGe b_k).1).trans b_k
      have c_k:=(hw2.block _ (aGe c_k).1).trans c_k
      have r_k:=(hw2.block _ (aGe r_k).1).trans r_k
      have l_k:=(hw2.block _ (aGe l_k).1).trans l_k
      have l_D:=l_D.keeps hw2
      have hb2:=ac hb1 hw2
      have f_l0:=ae l_k 0 rfl
      have f_l1:=ae l_k 1 rfl
      have f_l2:=ae l_k 2 rfl
      have f_s0:=ae s_k 0 rfl
      have f_s1:=ae s_k 1 rfl
      have f_s2:=ae s_k 2 rfl
      go_wp2_with fail
      clear f_l0 f_l1 f_l2 f_s0 f_s1 f_s2
      refine(Fh l_D s_D hb2.size l_B s_B (by omega)).mono ?_
      rintro _ ye ⟨v,rfl,hn,hwe⟩
      obtain⟨n_g,n_o,n_n,n_c,n_e,rfl⟩:=hn.shape
      have r_k:=aj hwe r_k
      have k0:=ae r_k 0 rfl
      have z0:=ah r_k 0
      have k1:=ae r_k 1 rfl
      have z1:=ah r_k 1
      have k2:=ae r_k 2 rfl
      have z2:=ah r_k 2
      go_wp2
      refine bodyPost_ret (v:=.agg #[.bool n_g,.slice n_o n_n n_c,G6 n_e]) (by simp[results,results115,go_sem,k0,k1,k2]) rfl ⟨_,l_V+s_V,rfl,dN hn r_k _ _ _,li (ac hb2 hwe) (by omega) _ _ _,⟨l_V,s_V,l_E,s_E,rfl⟩,(l_B.add s_B (by decide)).up (by decide) (by decide)⟩
    have KK2:∀ W,Below x1.heap.size x1 W->W.cell? ⟨w.heap.size,1,none⟩=some (G6 ay)∧W.cell? ⟨w.heap.size+1,1,none⟩=some (G6 by')∧W.cell? ⟨w.heap.size+2,1,none⟩=some (G6 cy):=fun W hb=>⟨ar (ae a_k 1 rfl) hb,ar (ae b_k 1 rfl) hb,ar (ae c_k 1 rfl) hb⟩
    have hC2_0:=(ap x1).drew
    have hT2_0:Below w.heap.size w x1.drew:=hb1.drew
    have hs2_0:=(ap x1).drew
    go_region_held3 (fun W=>W.cell? ⟨w.heap.size,1,none⟩=some (G6 ay)∧W.cell? ⟨w.heap.size+1,1,none⟩=some (G6 by')∧W.cell? ⟨w.heap.size+2,1,none⟩=some (G6 cy))
      (with_reducible first|assumption|exact KK2 _ (af _ _).drew|exact KK2 _ hC2_0|exact KK2 _ hC2_1|exact KK2 _ hC2_2|exact KK2 _ hC2_3|exact KK2 _ (ac hC2_0 (af _ _))|exact KK2 _ (ac hC2_1 (af _ _))|exact KK2 _ (ac hC2_2 (af _ _))|exact KK2 _ (ac hC2_3 (af _ _))|exact KK2 _ (bv hC2_3 (Nat.le_refl _) _ _ _)|exact KK2 _ (bv hC2_3 hC2_1.size _ _ _)|exact KK2 _ (bv hC2_3 hC2_2.size _ _ _)|fail)
      (first
        | (go_at_call 80;have _t:=hs2_2;refine(uk (np2.keeps (by with_reducible first|exact ap _|exact af _ _|exact aS _ _)) (nb2.num.keeps (by with_reducible first|exact ap _|exact af _ _|exact aS _ _)) B3 B4 (by omega)).mono ?_;rintro _ y2_3 ⟨v,s_V,rfl,nm2,s_E,s_B⟩;obtain⟨s_g,s_o,s_n,s_c,s_e,rfl⟩:=bZ nm2;have hq2_3:=nm2.below;have s_A:=nm2.dan.lower (Nat.le_trans hT2_2.size (by with_reducible first|exact Nat.le_refl _|exact(af _ _).size|exact(aS _ _).size));have hs2_3:Below y2_2.heap.size y2_2 y2_3:=(by with_reducible first|exact hq2_3|exact ac (af _ _) hq2_3|exact ac (aS _ _) hq2_3);have hT2_3:=ac hT2_2 hs2_3;have hC2_3:=ac hC2_2 hs2_3;with_reducible first|(have qz2:y2_3.heap[x1.heap.size]?=some (.cells #[.bool false,.slice none 0 0,G6 0] 40 (0,0)):=aj hq2_3 (aj hq2_2 (aj hq2_1 (dO x1 (.cells #[.bool false,.slice none 0 0,G6 0] 40))));have cz2_0:=ae qz2 0 rfl;have zz2_0:=ah qz2 0;have cz2_1:=ae qz2 1 rfl;have zz2_1:=ah qz2 1;have cz2_2:=ae qz2 2 rfl;have zz2_2:=ah qz2 2)|(have qz2:y2_3.heap[y2_1.heap.size]?=some (.cells #[.bool false,.slice none 0 0,G6 0] 40 (0,0)):=aj hq2_3 (aj hq2_2 (aD _ _));have cz2_0:=ae qz2 0 rfl;have zz2_0:=ah qz2 0;have cz2_1:=ae qz2 1 rfl;have zz2_1:=ah qz2 1;have cz2_2:=ae qz2 2 rfl;have zz2_2:=ah qz2 2)|(have qz2:y2_3.heap[y2_2.heap.size]?=some (.cells #[.bool false,.slice none 0 0,G6 0] 40 (0,0)):=aj hq2_3 (aD _ _);have cz2_0:=ae qz2 0 rfl;have zz2_0:=ah qz2 0;have cz2_1:=ae qz2 1 rfl;have zz2_1:=ah qz2 1;have cz2_2:=ae qz2 2 rfl;have zz2_2:=ah qz2 2)|skip)
        | (go_at_call 176;have _t:=hs2_1;refine(A4.out _).mono ?_;rintro _ y2_2 ⟨v,rfl,nb2,hq2_2⟩;obtain⟨q_g,q_o,q_n,q_c,q_e,rfl⟩:=nb2.shape;have hs2_2:Below y2_1.heap.size y2_1 y2_2:=(by with_reducible first|exact hq2_2|exact ac (af _ _) hq2_2|exact ac (aS _ _) hq2_2);have hT2_2:=ac hT2_1 hs2_2;have hC2_2:=ac hC2_1 hs2_2;have np2:=na2.num.keeps hs2_2)
        | (go_at_call 176; refine (A3.out _).mono ?_; rintro _ y2_1 ⟨v,rfl,na2,hq2_1⟩; obtain ⟨p_g,p_o,p_n,p_c,p_e,rfl⟩:=na2.shape; have hs2_1:Below x1.drew.heap.size x1.drew y2_1:=(by with_reducible first | exact hq2_1 | exact ac (af _ _) hq2_1 | exact ac (aS _ _) hq2_1); have hT2_1:=ac hT2_0 hs2_1; have hC2_1:=ac hC2_0 hs2_1))
    · exact HN2 y2_3.heap.size _ _ _ _ _ _ _ s_V (by kernel_rfl) ((ac (ac (ac (hs2_0) hs2_1) hs2_2) hs2_3).size) (aD _ _) (ac (ac (ac (ac (hs2_0) hs2_1) hs2_2) hs2_3) (af _ _)) (s_A.keeps (af _ _)) s_E s_B
    · exact HN2 y2_2.heap.size _ _ _ _ _ _ _ s_V (by kernel_rfl) ((ac (ac (hs2_0) hs2_1) hs2_2).size) (aI (aI (aI (aj hq2_3 (aD _ _)) 0 _) 1 _) 2 _) (bv (ac (ac (ac (hs2_0) hs2_1) hs2_2) hs2_3) ((ac (ac (hs2_0) hs2_1) hs2_2).size) _ _ _) (dN s_A (aj hq2_3 (aD _ _)) _ _ _) s_E s_B
    · exact HN2 y2_1.heap.size _ _ _ _ _ _ _ s_V (by kernel_rfl) ((ac (hs2_0) hs2_1).size) (aI (aI (aI (aj hq2_3 (aj hq2_2 (aD _ _))) 0 _) 1 _) 2 _) (bv (ac (ac (ac (hs2_0) hs2_1) hs2_2) hs2_3) ((ac (hs2_0) hs2_1).size) _ _ _) (dN s_A (aj hq2_3 (aj hq2_2 (aD _ _))) _ _ _) s_E s_B
    · exact HN2 x1.heap.size _ _ _ _ _ _ _ s_V (by kernel_rfl) (Nat.le_refl _) (aI (aI (aI (aj hq2_3 (aj hq2_2 (aj hq2_1 (dO x1 (.cells #[.bool false,.slice none 0 0,G6 0] 40))))) 0 _) 1 _) 2 _) (bv (ac (ac (ac (hs2_0) hs2_1) hs2_2) hs2_3) (Nat.le_refl _) _ _ _) (dN s_A (aj hq2_3 (aj hq2_2 (aj hq2_1 (dO x1 (.cells #[.bool false,.slice none 0 0,G6 0] 40))))) _ _ _) s_E s_B
  have KK1:∀ W,Below x0.heap.size x0 W->W.cell? ⟨w.heap.size,0,none⟩=some (G6 ax)∧W.cell? ⟨w.heap.size+1,0,none⟩=some (G6 bx)∧W.cell? ⟨w.heap.size+2,0,none⟩=some (G6 cx):=fun W hb=>⟨ar (ae a_k 0 rfl) hb,ar (ae b_k 0 rfl) hb,ar (ae c_k 0 rfl) hb⟩
  have hC1_0:=(ap x0).drew
  have hT1_0:Below w.heap.size w x0.drew:=hb0.drew
  have hs1_0:=(ap x0).drew
  go_region_held3 (fun W=>W.cell? ⟨w.heap.size,0,none⟩=some (G6 ax)∧W.cell? ⟨w.heap.size+1,0,none⟩=some (G6 bx)∧W.cell? ⟨w.heap.size+2,0,none⟩=some (G6 cx))
    (with_reducible first|assumption|exact KK1 _ (af _ _).drew|exact KK1 _ hC1_0|exact KK1 _ hC1_1|exact KK1 _ hC1_2|exact KK1 _ hC1_3|exact KK1 _ (ac hC1_0 (af _ _))|exact KK1 _ (ac hC1_1 (af _ _))|exact KK1 _ (ac hC1_2 (af _ _))|exact KK1 _ (ac hC1_3 (af _ _))|exact KK1 _ (bv hC1_3 (Nat.le_refl _) _ _ _)|exact KK1 _ (bv hC1_3 hC1_1.size _ _ _)|exact KK1 _ (bv hC1_3 hC1_2.size _ _ _)|fail)
    (first
      | (go_at_call 80;have _t:=hs1_2;refine(uk (np1.keeps (by with_reducible first|exact ap _|exact af _ _|exact aS _ _)) (nb1.num.keeps (by with_reducible first|exact ap _|exact af _ _|exact aS _ _)) B1 B2 (by omega)).mono ?_;rintro _ y1_3 ⟨v,l_V,rfl,nm1,l_E,l_B⟩;obtain⟨l_g,l_o,l_n,l_c,l_e,rfl⟩:=bZ nm1;have hq1_3:=nm1.below;have l_A:=nm1.dan.lower (Nat.le_trans hT1_2.size (by with_reducible first|exact Nat.le_refl _|exact(af _ _).size|exact(aS _ _).size));have hs1_3:Below y1_2.heap.size y1_2 y1_3:=(by with_reducible first|exact hq1_3|exact ac (af _ _) hq1_3|exact ac (aS _ _) hq1_3);have hT1_3:=ac hT1_2 hs1_3;have hC1_3:=ac hC1_2 hs1_3;with_reducible first|(have qz1:y1_3.heap[x0.heap.size]?=some (.cells #[.bool false,.slice none 0 0,G6 0] 40 (0,0)):=aj hq1_3 (aj hq1_2 (aj hq1_1 (dO x0 (.cells #[.bool false,.slice none 0 0,G6 0] 40))));have cz1_0:=ae qz1 0 rfl;have zz1_0:=ah qz1 0;have cz1_1:=ae qz1 1 rfl;have zz1_1:=ah qz1 1;have cz1_2:=ae qz1 2 rfl;have zz1_2:=ah qz1 2)|(have qz1:y1_3.heap[y1_1.heap.size]?=some (.cells #[.bool false,.slice none 0 0,G6 0] 40 (0,0)):=aj hq1_3 (aj hq1_2 (aD _ _));have cz1_0:=ae qz1 0 rfl;have zz1_0:=ah qz1 0;have cz1_1:=ae qz1 1 rfl;have zz1_1:=ah qz1 1;have cz1_2:=ae qz1 2 rfl;have zz1_2:=ah qz1 2)|(have qz1:y1_3.heap[y1_2.heap.size]?=some (.cells #[.bool false,.slice none 0 0,G6 0] 40 (0,0)):=aj hq1_3 (aD _ _);have cz1_0:=ae qz1 0 rfl;have zz1_0:=ah qz1 0;have cz1_1:=ae qz1 1 rfl;have zz1_1:=ah qz1 1;have cz1_2:=ae qz1 2 rfl;have zz1_2:=ah qz1 2)|skip)
      | (go_at_call 176;have _t:=hs1_1;refine(A2.out _).mono ?_;rintro _ y1_2 ⟨v,rfl,nb1,hq1_2⟩;obtain⟨q_g,q_o,q_n,q_c,q_e,rfl⟩:=nb1.shape;have hs1_2:Below y1_1.heap.size y1_1 y1_2:=(by with_reducible first|exact hq1_2|exact ac (af _ _) hq1_2|exact ac (aS _ _) hq1_2);have hT1_2:=ac hT1_1 hs1_2;have hC1_2:=ac hC1_1 hs1_2;have np1:=na1.num.keeps hs1_2)
      | (go_at_call 176; refine (A1.out _).mono ?_; rintro _ y1_1 ⟨v,rfl,na1,hq1_1⟩; obtain ⟨p_g,p_o,p_n,p_c,p_e,rfl⟩:=na1.shape; have hs1_1:Below x0.drew.heap.size x0.drew y1_1:=(by with_reducible first | exact hq1_1 | exact ac (af _ _) hq1_1 | exact ac (aS _ _) hq1_1); have hT1_1:=ac hT1_0 hs1_1; have hC1_1:=ac hC1_0 hs1_1))
  · exact HN1 y1_3.heap.size _ _ _ _ _ _ _ l_V (by kernel_rfl) ((ac (ac (ac (hs1_0) hs1_1) hs1_2) hs1_3).size) (aD _ _) (ac (ac (ac (ac (hs1_0) hs1_1) hs1_2) hs1_3) (af _ _)) (l_A.keeps (af _ _)) l_E l_B
  · exact HN1 y1_2.heap.size _ _ _ _ _ _ _ l_V (by kernel_rfl) ((ac (ac (hs1_0) hs1_1) hs1_2).size) (aI (aI (aI (aj hq1_3 (aD _ _)) 0 _) 1 _) 2 _) (bv (ac (ac (ac (hs1_0) hs1_1) hs1_2) hs1_3) ((ac (ac (hs1_0) hs1_1) hs1_2).size) _ _ _) (dN l_A (aj hq1_3 (aD _ _)) _ _ _) l_E l_B
  · exact HN1 y1_1.heap.size _ _ _ _ _ _ _ l_V (by kernel_rfl) ((ac (hs1_0) hs1_1).size) (aI (aI (aI (aj hq1_3 (aj hq1_2 (aD _ _))) 0 _) 1 _) 2 _) (bv (ac (ac (ac (hs1_0) hs1_1) hs1_2) hs1_3) ((ac (hs1_0) hs1_1).size) _ _ _) (dN l_A (aj hq1_3 (aj hq1_2 (aD _ _))) _ _ _) l_E l_B
  · exact HN1 x0.heap.size _ _ _ _ _ _ _ l_V (by kernel_rfl) (Nat.le_refl _) (aI (aI (aI (aj hq1_3 (aj hq1_2 (aj hq1_1 (dO x0 (.cells #[.bool false,.slice none 0 0,G6 0] 40))))) 0 _) 1 _) 2 _) (bv (ac (ac (ac (hs1_0) hs1_1) hs1_2) hs1_3) (Nat.le_refl _) _ _ _) (dN l_A (aj hq1_3 (aj hq1_2 (aj hq1_1 (dO x0 (.cells #[.bool false,.slice none 0 0,G6 0] 40))))) _ _ _) l_E l_B
theorem KR {w:World} {g:Bool} {so:Option Addr} {sn sc:Nat} {e S:Int} (h:br w (.agg #[.bool g,.slice so sn sc,G6 e]) S):(sn=0↔S=0)∧sn<=9223372036854775807:=by
 obtain⟨ng,s,m,e',h1,hy,ao,n,cap,d,h2,hR,hN,hv⟩:=h
 simp only[Value.agg.injEq,Array.mk.injEq,List.cons.injEq,Value.bool.injEq,Value.int.injEq,true_and,and_true] at h1
 obtain⟨rfl,rfl,rfl⟩:=h1
 simp only[Value.slice.injEq] at h2
 obtain⟨rfl,rfl,rfl⟩:=h2
 have hm:=hR.max
 have hl:=hR.le
 refine⟨?_,by omega⟩
 rw[hy.eq_zero]
 constructor
 ·intro q
  subst q
  exact hv.symm.trans rfl
 ·intro q
  rcases Nat.eq_zero_or_pos sn with z|z
  ·exact z
  ·have h1:=ik hN.1 z hN.2
   have:=dt (sn-1)
   omega
def EV (w:World) (v:Value) (a:En):Prop:=∃ g so sn sc e,v=.agg #[G6 a.i,.bool g,.slice so sn sc,G6 e]∧br w (.agg #[.bool g,.slice so sn sc,G6 e]) a.v
def EA (w:World) (v:Value) (a:En):Prop:=∃ g so sn sc e,v=.agg #[G6 a.i,.bool g,.slice so sn sc,G6 e]∧cB 0 w a.v (.agg #[.bool g,.slice so sn sc,G6 e])
theorem EA.ev {w:World} {v:Value} {a:En} (h:EA w v a):EV w v a:=by
 obtain⟨g,so,sn,sc,e,h1,h2⟩:=h
 exact⟨g,so,sn,sc,e,h1,h2.num⟩
theorem EV.keeps {w w':World} {v:Value} {a:En} (h:EV w v a) (hb:Below w.heap.size w w'):EV w' v a:=by
 obtain⟨g,so,sn,sc,e,h1,h2⟩:=h
 exact⟨g,so,sn,sc,e,h1,h2.keeps hb⟩
theorem EA.keeps {w w':World} {v:Value} {a:En} (h:EA w v a) (hb:Below w.heap.size w w'):EA w' v a:=by
 obtain⟨g,so,sn,sc,e,h1,h2⟩:=h
 exact⟨g,so,sn,sc,e,h1,h2.keeps hb⟩
theorem cB.setT {B:Nat} {w:World} {V:Int} {v:Value} (h:cB B w V v) {g:Nat} {xs:Array Value} {t:TypeId} {z:Nat × Nat} (hg:w.heap[g]?=some (.cells xs t z)) (ht:t≠3) (o:Nat) (u:Value):cB B (w.setCell ⟨g,o,none⟩ u) V v :=
  h.of_blocks fun g' cur z' hc=>heap_setCell_other _ ⟨g,o,none⟩ g' u (by
    show g'≠g
    rintro rfl
    rw[hg] at hc
    simp at hc
    exact ht hc.2.1)
theorem oL (w:World):cB 0 w 0 (.agg #[.bool false,.slice none 0 0,G6 0]):=((bw.zero (ap w)).dan).lower (Nat.zero_le _)
theorem LU {b:Int} (h:nn b):aH b=3↔rg b=9218868437227405312:=by
 have hr:=kI h
 obtain⟨h0,h1⟩:=gU h.1
 have h2:=lI b
 have h3:=mJ b
 have h4:=h.2
 unfold aH at h4 ⊢
 by_cases a:bQ b=2047
 ·rw[if_pos a] at h4 ⊢
  by_cases c:cA b=0
  ·rw[if_pos c];omega
  ·rw[if_neg c] at h4;exact absurd rfl h4
 ·rw[if_neg a]
  split
  ·split<;>omega
  ·omega
theorem lZ {b:Int} (hn:nn b) (w:World):Calls prog 108 #[G6 b] w fun r w'=>∃ v,r=.returned v∧EA w' v (aA b)∧Below w.heap.size w w':=by
 have CC:Hid (∀ W,Calls prog 172 #[G6 b] W fun e w'=>e=.returned (G6 (aH b))∧w'=W):=fun W=>mi b W hn.1
 by_cases hi:rg b=9218868437227405312
 ·have h3:=(LU hn).2 hi
  rw[h3] at CC
  rw[ie hi]
  clear hi h3 hn
  by_cases h0:b<0
  ·rw[if_pos h0]
   have hb:=ap w
   go_enter func108,ntmps108
   have r_k:(w.alloc (.cells #[G6 0,.bool false,.slice none 0 0,G6 0] 137)).heap[w.heap.size]?=some (.cells #[G6 0,.bool false,.slice none 0 0,G6 0] 137):=aE (.cells #[G6 0,.bool false,.slice none 0 0,G6 0] 137) (by simp only[aw])
   have hb:=ac hb (af w (.cells #[G6 0,.bool false,.slice none 0 0,G6 0] 137))
   go_wp2_with fail
   generalize (w.alloc (.cells #[G6 0,.bool false,.slice none 0 0,G6 0] 137))=x1 at r_k hb ⊢
   refine(CC.out _).mono ?_
   rintro _ _ ⟨rfl,rfl⟩
   have f_r0:=ae r_k 0 rfl
   have z_r0:=ah r_k 0
   have d_r0:=az r_k 0 (G6 (-1))
   have f_r1:=ae r_k 1 rfl
   have z_r1:=ah r_k 1
   have d_r1:=az d_r0 1 (.bool false)
   have f_r2:=ae r_k 2 rfl
   have z_r2:=ah r_k 2
   have d_r2:=az d_r1 2 (.slice none 0 0)
   have f_r3:=ae r_k 3 rfl
   have z_r3:=ah r_k 3
   have d_r3:=az d_r2 3 (G6 0)
   have e_r0:=ae d_r3 0 rfl
   have e_r1:=ae d_r3 1 rfl
   have e_r2:=ae d_r3 2 rfl
   have e_r3:=ae d_r3 3 rfl
   have hbe:=((((hb.setCell (p:=⟨w.heap.size,0,none⟩) (show w.heap.size<=w.heap.size by omega) (G6 (-1))).setCell (p:=⟨w.heap.size,1,none⟩) (show w.heap.size<=w.heap.size by omega) (.bool false)).setCell (p:=⟨w.heap.size,2,none⟩) (show w.heap.size<=w.heap.size by omega) (.slice none 0 0)).setCell (p:=⟨w.heap.size,3,none⟩) (show w.heap.size<=w.heap.size by omega) (G6 0))
   clear r_k d_r0 d_r1 d_r2 d_r3
   go_wp2
   refine bodyPost_ret (v:=.agg #[G6 (-1),.bool false,.slice none 0 0,G6 0]) (by simp[results,results108,go_sem,e_r0,e_r1,e_r2,e_r3]) rfl ⟨_,rfl,⟨_,_,_,_,_,rfl,oL _⟩,hbe⟩
  ·rw[if_neg h0]
   have hb:=ap w
   go_enter func108,ntmps108
   have r_k:(w.alloc (.cells #[G6 0,.bool false,.slice none 0 0,G6 0] 137)).heap[w.heap.size]?=some (.cells #[G6 0,.bool false,.slice none 0 0,G6 0] 137):=aE (.cells #[G6 0,.bool false,.slice none 0 0,G6 0] 137) (by simp only[aw])
   have hb:=ac hb (af w (.cells #[G6 0,.bool false,.slice none 0 0,G6 0] 137))
   go_wp2_with fail
   generalize (w.alloc (.cells #[G6 0,.bool false,.slice none 0 0,G6 0] 137))=x1 at r_k hb ⊢
   refine(CC.out _).mono ?_
   rintro _ _ ⟨rfl,rfl⟩
   have f_r0:=ae r_k 0 rfl
   have z_r0:=ah r_k 0
   have d_r0:=az r_k 0 (G6 1)
   have f_r1:=ae r_k 1 rfl
   have z_r1:=ah r_k 1
   have d_r1:=az d_r0 1 (.bool false)
   have f_r2:=ae r_k 2 rfl
   have z_r2:=ah r_k 2
   have d_r2:=az d_r1 2 (.slice none 0 0)
   have f_r3:=ae r_k 3 rfl
   have z_r3:=ah r_k 3
   have d_r3:=az d_r2 3 (G6 0)
   have e_r0:=ae d_r3 0 rfl
   have e_r1:=ae d_r3 1 rfl
   have e_r2:=ae d_r3 2 rfl
   have e_r3:=ae d_r3 3 rfl
   have hbe:=((((hb.setCell (p:=⟨w.heap.size,0,none⟩) (show w.heap.size<=w.heap.size by omega) (G6 1)).setCell (p:=⟨w.heap.size,1,none⟩) (show w.heap.size<=w.heap.size by omega) (.bool false)).setCell (p:=⟨w.heap.size,2,none⟩) (show w.heap.size<=w.heap.size by omega) (.slice none 0 0)).setCell (p:=⟨w.heap.size,3,none⟩) (show w.heap.size<=w.heap.size by omega) (G6 0))
   clear r_k d_r0 d_r1 d_r2 d_r3
   go_wp2
   refine bodyPost_ret (v:=.agg #[G6 1,.bool false,.slice none 0 0,G6 0]) (by simp[results,results108,go_sem,e_r0,e_r1,e_r2,e_r3]) rfl ⟨_,rfl,⟨_,_,_,_,_,rfl,oL _⟩,hbe⟩
 ·have hp:=fh hn hi
  have h3:(aH b == 3)=false:=by
   have:=fun q=>hi ((LU hn).1 q)
   simp;exact this
  have CO:Hid (∀ W,Calls prog 154 #[G6 b] W fun r w'=>∃ v,r=.returned v∧bw W w' (aq b) v):=fun W=>xq b W hn.1 hp
  rw[gA hi]
  generalize aq b=V at *
  obtain⟨c,hc⟩:∃ c,aH b=c:=⟨_,rfl⟩
  rw[hc] at CC h3
  clear hi hn hp hc
  have hb:=ap w
  go_enter func108,ntmps108
  have r_k:(w.alloc (.cells #[G6 0,.bool false,.slice none 0 0,G6 0] 137)).heap[w.heap.size]?=some (.cells #[G6 0,.bool false,.slice none 0 0,G6 0] 137):=aE (.cells #[G6 0,.bool false,.slice none 0 0,G6 0] 137) (by simp only[aw])
  have hb:=ac hb (af w (.cells #[G6 0,.bool false,.slice none 0 0,G6 0] 137))
  go_wp2_with fail
  generalize (w.alloc (.cells #[G6 0,.bool false,.slice none 0 0,G6 0] 137))=x1 at r_k hb ⊢
  refine(CC.out _).mono ?_
  rintro _ _ ⟨rfl,rfl⟩
  go_wp2_with fail
  refine(CO.out _).mono ?_
  rintro _ y2 ⟨v,rfl,hD⟩
  obtain⟨n_g,n_o,n_n,n_c,n_e,rfl⟩:=bZ hD
  have hw:=hD.below
  have n_D:=hD.dan.lower (Nat.zero_le _)
  have r_k:=aB hw r_k
  have hb:=ac hb hw
  have f_r0:=ae r_k 0 rfl
  have z_r0:=ah r_k 0
  have d_r0:=az r_k 0 (G6 0)
  have f_r1:=ae r_k 1 rfl
  have z_r1:=ah r_k 1
  have d_r1:=az d_r0 1 (.bool n_g)
  have f_r2:=ae r_k 2 rfl
  have z_r2:=ah r_k 2
  have d_r2:=az d_r1 2 (.slice n_o n_n n_c)
  have f_r3:=ae r_k 3 rfl
  have z_r3:=ah r_k 3
  have d_r3:=az d_r2 3 (G6 n_e)
  have e_r0:=ae d_r3 0 rfl
  have e_r1:=ae d_r3 1 rfl
  have e_r2:=ae d_r3 2 rfl
  have e_r3:=ae d_r3 3 rfl
  have hbe:=((((hb.setCell (p:=⟨w.heap.size,0,none⟩) (show w.heap.size<=w.heap.size by omega) (G6 0)).setCell (p:=⟨w.heap.size,1,none⟩) (show w.heap.size<=w.heap.size by omega) (.bool n_g)).setCell (p:=⟨w.heap.size,2,none⟩) (show w.heap.size<=w.heap.size by omega) (.slice n_o n_n n_c)).setCell (p:=⟨w.heap.size,3,none⟩) (show w.heap.size<=w.heap.size by omega) (G6 n_e))
  have n_E:=n_D
  replace n_E:=n_E.setT r_k (by decide) 0 (G6 0)
  replace n_E:=n_E.setT d_r0 (by decide) 1 (.bool n_g)
  replace n_E:=n_E.setT d_r1 (by decide) 2 (.slice n_o n_n n_c)
  replace n_E:=n_E.setT d_r2 (by decide) 3 (G6 n_e)
  clear r_k d_r0 d_r1 d_r2 d_r3
  go_wp2
  refine bodyPost_ret (v:=.agg #[G6 0,.bool n_g,.slice n_o n_n n_c,G6 n_e]) (by simp[results,results108,go_sem,e_r0,e_r1,e_r2,e_r3]) rfl ⟨_,rfl,⟨_,_,_,_,_,rfl,n_E⟩,hbe⟩
theorem wk {w:World} {v:Value} {a:En} (h:EV w v a):Calls prog 113 #[v] w fun r w'=>r=.returned (G6 (cG a))∧Below w.heap.size w w':=by
 obtain⟨a_g,a_o,a_n,a_c,a_e,rfl,a_D⟩:=h
 obtain⟨l0,lm⟩:=KR a_D
 have hsg:fK a_g a_n=iP a.v:=by
  have hz:=l0
  obtain⟨ng,s,m,e',h1,hy,hN⟩:=a_D
  simp only[Value.agg.injEq,Array.mk.injEq,List.cons.injEq,Value.bool.injEq,Value.int.injEq,true_and,and_true] at h1
  obtain⟨rfl,_,_⟩:=h1
  have hn:=hy.neg_iff
  unfold fK iP
  by_cases q:a_n=0
  ·rw[if_pos q,hz.1 q];rfl
  ·have qv:a.v≠0:=fun k=>q (hz.2 k)
   rw[if_neg q]
   cases a_g
   ·have:¬ a.v<0:=fun k=>by have:=hn.2 k;cases this
    rw[if_neg (by simp),if_neg this,if_pos (by omega)]
   ·rw[if_pos rfl,if_pos (hn.1 rfl)]
 have CS:Hid (∀ W,Calls prog 175 #[.agg #[.bool a_g,.slice a_o a_n a_c,G6 a_e]] W fun r w'=>r=.returned (G6 (iP a.v))∧Below W.heap.size W w'):=fun W=>by
  have:=rD a_g a_o a_n a_c a_e W lm
  rw[hsg] at this
  exact this
 unfold cG
 generalize iP a.v=S at *
 obtain⟨ai,hai⟩:∃ ai,a.i=ai:=⟨_,rfl⟩
 rw[hai]
 clear l0 lm hsg a_D hai
 by_cases hi:ai=0
 ·rw[if_neg (fun k=>k hi)]
  subst hi
  have hb:=ap w
  go_enter func113,ntmps113
  have a_k:(w.alloc (.cells #[G6 0,.bool a_g,.slice a_o a_n a_c,G6 a_e] 137)).heap[w.heap.size]?=some (.cells #[G6 0,.bool a_g,.slice a_o a_n a_c,G6 a_e] 137):=aE (.cells #[G6 0,.bool a_g,.slice a_o a_n a_c,G6 a_e] 137) (by simp only[aw])
  have hb:=ac hb (af w (.cells #[G6 0,.bool a_g,.slice a_o a_n a_c,G6 a_e] 137))
  have f_a0:=ae a_k 0 rfl
  have f_a1:=ae a_k 1 rfl
  have f_a2:=ae a_k 2 rfl
  have f_a3:=ae a_k 3 rfl
  go_wp2_with fail
  clear f_a0 f_a1 f_a2 f_a3
  generalize (w.alloc (.cells #[G6 0,.bool a_g,.slice a_o a_n a_c,G6 a_e] 137))=x1 at a_k hb ⊢
  refine(CS.out _).mono ?_
  rintro _ y2 ⟨rfl,hw⟩
  have a_k:=aB hw a_k
  have hb:=ac hb hw
  go_wp2
  go_ret
  exact⟨rfl,hb⟩
 ·rw[if_pos hi]
  have hb:=ap w
  go_enter func113,ntmps113
  have a_k:=aD w (.cells #[G6 ai,.bool a_g,.slice a_o a_n a_c,G6 a_e] 137)
  have f0:=ae a_k 0 rfl
  have hi2:(ai == 0)=false:=by simp;exact hi
  clear hi
  go_wp2
  go_ret
  exact⟨rfl,af w _⟩
theorem PV (x y:aW) (w:World) (hx:aU w x.ao x.n x.cap x.d) (hy:aU w y.ao y.n y.cap y.d) (ox:gK x=true) (oy:gK y=true) {K:Nat} (hK:K<=560000) (bx:Bd K x.V) (bY:Bd K y.V) :
  Calls prog 230 #[x.v,y.v] w fun r w'=>r=.returned (G6 (bH x.V y.V))∧Below w.heap.size w w':=by
 have nx:∀ W,Below w.heap.size w W->br W x.v x.V:=fun W hb=>⟨_,_,_,_,rfl,(sO ox).1,_,_,_,_,rfl,hx.keeps hb,(ct ox).1,rfl⟩
 have ny:∀ W,Below w.heap.size w W->br W y.opp.v (-y.V):=fun W hb=>by
  obtain⟨e1,e2⟩:=Fb oy
  rw[e1] at e2
  exact⟨_,_,_,_,rfl,e2,_,_,_,_,rfl,hy.keeps hb,(ct oy).1,rfl⟩
 have C1:∀ W,Below w.heap.size w W->Calls prog 153 #[x.v,y.v] W fun r w'=>∃ ng so sn sc e,r=.returned (.agg #[.bool ng,.slice so sn sc,G6 e])∧fK ng sn=bH x.V y.V∧sn<=9223372036854775807∧Below W.heap.size W w':=fun W hb=>by
  refine(yB x y W (hx.keeps hb) (hy.keeps hb) ox oy hK bx bY).mono ?_
  rintro r w' ⟨v,rfl,h⟩
  obtain⟨ng,so,sn,sc,e,rfl⟩:=h.shape
  obtain⟨s1,s2⟩:=DG (h.num (nx W hb) (ny W hb))
  refine⟨_,_,_,_,_,rfl,?_,s2,h.1⟩
  rw[s1]
  have:=MF x.V y.V
  rw[<- this]
  congr 1
 obtain⟨VV,hVV⟩:∃ V,V=bH x.V y.V:=⟨_,rfl⟩
 rw[<- hVV] at C1 ⊢
 clear nx ny bx bY hVV ox oy
 obtain⟨an,ao,n,ca,a,e⟩:=x
 obtain⟨bn,bo,m,cb,b,f⟩:=y
 unfold aW.v at *
 simp only at *
 go_enter func230,ntmps230
 go_wp2_with fail
 refine(C1 _ (aM _ _ _)).mono ?_
 rintro r w1 ⟨ng,so,sn,sc,e1,rfl,hs,hm,hb1⟩
 have HS:Hid (fK ng sn=VV):=hs
 clear hs
 go_wp2_with fail
 refine(rD ng so sn sc e1 _ hm).mono ?_
 rintro r w2 ⟨rfl,hb2⟩
 go_wp2
 go_ret
 exact⟨de HS.out,ac (ac (aM _ _ _) hb1) hb2⟩
theorem PW {w:World} {x y:Value} {A B:Int} (hx:br w x A) (hy:br w y B) {K:Nat} (hK:K<=28000) (bA:Bd K A) (bB:Bd K B):Calls prog 230 #[x,y] w fun r w'=>r=.returned (G6 (bH A B))∧Below w.heap.size w w':=by
 obtain⟨x,rfl,hR,ok,rfl⟩:=hx.open (bA.ok (by omega))
 obtain⟨y,rfl,hR',ok',rfl⟩:=hy.open (bB.ok (by omega))
 exact PV x y w hR hR' ok ok' (K:=K) (by omega) bA bB
theorem Iz {w:World} {v u:Value} {a b:En} (h:EV w v a) (k:EV w u b) (CM:Hid (a.i=0->b.i=0->∀ (x y:Value) W,br W x a.v->br W y b.v->Calls prog 230 #[x,y] W fun r w'=>r=.returned (G6 (bH a.v b.v))∧Below W.heap.size W w')):Calls prog 173 #[v,u] w fun r w'=>r=.returned (G6 (ll a b))∧Below w.heap.size w w':=by
 obtain⟨a_g,a_o,a_n,a_c,a_e,rfl,a_D⟩:=h
 obtain⟨b_g,b_o,b_n,b_c,b_e,rfl,b_D⟩:=k
 unfold ll
 by_cases h1:a.i=b.i
 ·rw[if_neg (fun q=>q h1)]
  by_cases h2:a.i=0
  ·rw[if_neg (fun q=>q h2)]
   replace CM:=aK (CM.out h2 (h1 ▸ h2))
   have e2:b.i=0:=h1 ▸ h2
   rw[h2,e2]
   generalize bH a.v b.v=O at *
   have hb:=ap w
   go_enter func173,ntmps173
   have p_k:(w.alloc (.cells #[G6 0,.bool a_g,.slice a_o a_n a_c,G6 a_e] 137)).heap[w.heap.size]?=some (.cells #[G6 0,.bool a_g,.slice a_o a_n a_c,G6 a_e] 137):=aE (.cells #[G6 0,.bool a_g,.slice a_o a_n a_c,G6 a_e] 137) (by simp only[aw])
   have a_D:=a_D.keeps (af w (.cells #[G6 0,.bool a_g,.slice a_o a_n a_c,G6 a_e] 137))
   have b_D:=b_D.keeps (af w (.cells #[G6 0,.bool a_g,.slice a_o a_n a_c,G6 a_e] 137))
   have hb:=ac hb (af w (.cells #[G6 0,.bool a_g,.slice a_o a_n a_c,G6 a_e] 137))
   have p_k:=am (.cells #[G6 0,.bool b_g,.slice b_o b_n b_c,G6 b_e] 137) p_k
   have q_k:((w.alloc (.cells #[G6 0,.bool a_g,.slice a_o a_n a_c,G6 a_e] 137)).alloc (.cells #[G6 0,.bool b_g,.slice b_o b_n b_c,G6 b_e] 137)).heap[w.heap.size+1]?=some (.cells #[G6 0,.bool b_g,.slice b_o b_n b_c,G6 b_e] 137):=aE (.cells #[G6 0,.bool b_g,.slice b_o b_n b_c,G6 b_e] 137) (by simp only[aw])
   have a_D:=a_D.keeps (af (w.alloc (.cells #[G6 0,.bool a_g,.slice a_o a_n a_c,G6 a_e] 137)) (.cells #[G6 0,.bool b_g,.slice b_o b_n b_c,G6 b_e] 137))
   have b_D:=b_D.keeps (af (w.alloc (.cells #[G6 0,.bool a_g,.slice a_o a_n a_c,G6 a_e] 137)) (.cells #[G6 0,.bool b_g,.slice b_o b_n b_c,G6 b_e] 137))
   have hb:=ac hb (af (w.alloc (.cells #[G6 0,.bool a_g,.slice a_o a_n a_c,G6 a_e] 137)) (.cells #[G6 0,.bool b_g,.slice b_o b_n b_c,G6 b_e] 137))
   have f_p0:=ae p_k 0 rfl
   have f_p1:=ae p_k 1 rfl
   have f_p2:=ae p_k 2 rfl
   have f_p3:=ae p_k 3 rfl
   have f_q0:=ae q_k 0 rfl
   have f_q1:=ae q_k 1 rfl
   have f_q2:=ae q_k 2 rfl
   have f_q3:=ae q_k 3 rfl
   go_wp2_with fail
   clear f_p0 f_p1 f_p2 f_p3 f_q0 f_q1 f_q2 f_q3
   generalize ((w.alloc (.cells #[G6 0,.bool a_g,.slice a_o a_n a_c,G6 a_e] 137)).alloc (.cells #[G6 0,.bool b_g,.slice b_o b_n b_c,G6 b_e] 137))=x1 at p_k q_k a_D b_D hb ⊢
   refine(CM.out _ _ _ a_D b_D).mono ?_
   rintro _ y2 ⟨rfl,hw⟩
   have p_k:=aB hw p_k
   have q_k:=aB hw q_k
   have a_D:=a_D.keeps hw
   have b_D:=b_D.keeps hw
   have hb:=ac hb hw
   go_wp2
   go_ret
   exact⟨rfl,hb⟩
  ·rw[if_pos h2,<- h1]
   clear CM
   generalize a.i=ai at *
   have h2':(ai == 0)=false:=by simp;exact h2
   clear h1 h2
   have hb:=ap w
   go_enter func173,ntmps173
   have p_k:=ew w (.cells #[G6 ai,.bool a_g,.slice a_o a_n a_c,G6 a_e] 137) (.cells #[G6 ai,.bool b_g,.slice b_o b_n b_c,G6 b_e] 137)
   have q_k:=cZ w (.cells #[G6 ai,.bool a_g,.slice a_o a_n a_c,G6 a_e] 137) (.cells #[G6 ai,.bool b_g,.slice b_o b_n b_c,G6 b_e] 137)
   have f0:=ae p_k 0 rfl
   have f1:=ae q_k 0 rfl
   clear p_k q_k a_D b_D
   go_wp2
   go_ret
   exact⟨rfl,aM w _ _⟩
 ·rw[if_pos h1]
  clear CM
  generalize a.i=ai at *
  generalize b.i=bi at *
  have h1':(ai == bi)=false:=by simp;exact h1
  clear h1
  by_cases h3:ai<bi
  ·rw[if_pos h3]
   have hb:=ap w
   go_enter func173,ntmps173
   have p_k:=ew w (.cells #[G6 ai,.bool a_g,.slice a_o a_n a_c,G6 a_e] 137) (.cells #[G6 bi,.bool b_g,.slice b_o b_n b_c,G6 b_e] 137)
   have q_k:=cZ w (.cells #[G6 ai,.bool a_g,.slice a_o a_n a_c,G6 a_e] 137) (.cells #[G6 bi,.bool b_g,.slice b_o b_n b_c,G6 b_e] 137)
   have f0:=ae p_k 0 rfl
   have f1:=ae q_k 0 rfl
   clear p_k q_k a_D b_D
   go_wp2
   go_ret
   exact⟨rfl,aM w _ _⟩
  ·rw[if_neg h3]
   have hb:=ap w
   go_enter func173,ntmps173
   have p_k:=ew w (.cells #[G6 ai,.bool a_g,.slice a_o a_n a_c,G6 a_e] 137) (.cells #[G6 bi,.bool b_g,.slice b_o b_n b_c,G6 b_e] 137)
   have q_k:=cZ w (.cells #[G6 ai,.bool a_g,.slice a_o a_n a_c,G6 a_e] 137) (.cells #[G6 bi,.bool b_g,.slice b_o b_n b_c,G6 b_e] 137)
   have f0:=ae p_k 0 rfl
   have f1:=ae q_k 0 rfl
   clear p_k q_k a_D b_D
   go_wp2
   go_ret
   exact⟨rfl,aM w _ _⟩
theorem DT {w:World} {v u:Value} {a b:En} (h:EV w v a) (k:EV w u b) {K:Nat} (hK:K<=28000) (bA:Bd K a.v) (bB:Bd K b.v):Calls prog 173 #[v,u] w fun r w'=>r=.returned (G6 (ll a b))∧Below w.heap.size w w' :=
 Iz h k (fun _ _ x y W hx hy=>PW hx hy hK bA bB)
end Go.Proofs.YtjjihmnbdeeedaaGreatDoor
namespace Go.Proofs.YtjjihmnbdeeedaaGreatDoor
open Go Go.Proofs.Tryz Go.Proofs.YtjjihmnbdeeedaaGreatDoor.M
def cH (M:Nat) (low:Int):Bool:=decide (0<low)&&qM M (low-1).toNat
def cR (M:Nat) (more:Bool) (low:Int):Bool:=more||(decide (1<low)&&decide (M % 2^(low-1).toNat≠0))
theorem KS {M:Nat} {more:Bool} {low:Int} (hc:more=true->0<low):rL M more low=if cH M low then (if cR M more low then 3 else 2) else (if cR M more low then 1 else 0):=by
 by_cases h:low<=0
 ·have hm:more=false:=by
   cases more
   ·rfl
   ·have:=hc rfl;omega
  unfold rL cH cR
  rw[if_pos h,decide_eq_false (show ¬ 0<low by omega),decide_eq_false (show ¬ 1<low by omega),hm]
  rfl
 ·obtain⟨s,rfl⟩:∃ s:Nat,low=(s:Int)+1:=⟨(low-1).toNat,by omega⟩
  have e1:((s:Int)+1-1).toNat=s:=by omega
  have e2:((s:Int)+1).toNat=s+1:=by omega
  unfold rL cH cR
  rw[if_neg h,e1,e2,decide_eq_true (show(0:Int)<(s:Int)+1 by omega),Bool.true_and]
  have hb:qM (M:Int) s=decide (M/2^s % 2=1):=by
   unfold qM
   have:(M:Int)/2^s % 2=((M/2^s % 2:Nat):Int):=by simp
   rw[this]
   rcases Nat.mod_two_eq_zero_or_one (M/2^s) with q|q<;>rw[q]<;>rfl
  rw[hb]
  have hs:M % 2^(s+1)=M/2^s % 2*2^s+M % 2^s:=by
   rw[Nat.pow_succ,Nat.mod_mul]
   rw[Nat.mul_comm,Nat.add_comm]
  have hr:(decide ((1:Int)<(s:Int)+1)&&decide (M % 2^s≠0))=decide (M % 2^s≠0):=by
   cases s with
   | zero=>simp[Nat.mod_one]
   | succ k=>rw[decide_eq_true (show(1:Int)<((k+1:Nat):Int)+1 by omega),Bool.true_and]
  rw[hr,hs,Nat.pow_succ]
  have hlt:=Nat.mod_lt M (Nat.two_pow_pos s)
  generalize M % 2^s=t at *
  generalize 2^s=q at *
  rcases Nat.mod_two_eq_zero_or_one (M/q) with p|p
  ·rw[p]
   cases more
   ·by_cases t0:t=0
    ·simp[t0]
    ·simp[t0]
     omega
   ·simp
    omega
  ·rw[p]
   cases more
   ·by_cases t0:t=0
    ·subst t0
     simp
     omega
    ·simp[t0]
     omega
   ·simp
    omega
theorem KT {M:Nat} {l:Int} {s:Nat} (h:qJ M l) (h0:M≠0):(0<=l∧l<s)↔M % 2^s≠0:=by
 rcases h with⟨h,_⟩|⟨k,rfl,m,hm⟩
 ·omega
 ·have hm0:0<=m:=by
   rcases Int.lt_or_le m 0 with q|q
   ·have h2:=aR k
    have:(2*m+1)*2^k<0:=Int.mul_neg_of_neg_of_pos (by omega) h2
    omega
   ·exact q
  obtain⟨c,rfl⟩:=Int.eq_ofNat_of_zero_le hm0
  have hM:M=(2*c+1)*2^k:=by
   have:((M:Nat):Int)=(((2*c+1)*2^k:Nat):Int):=by rw[hm];push_cast;rfl
   exact Int.ofNat.inj this
  constructor
  ·rintro⟨_,hk⟩ hz
   obtain⟨j,rfl⟩:∃ j,s=k+(j+1):=⟨s-k-1,by omega⟩
   have hd:2^(k+(j+1)) ∣ (2*c+1)*2^k:=by rw[<- hM];exact Nat.dvd_of_mod_eq_zero hz
   rw[Nat.pow_add,Nat.mul_comm (2*c+1)] at hd
   have hd2:=Nat.dvd_of_mul_dvd_mul_left (Nat.two_pow_pos k) hd
   obtain⟨x,hx⟩:=hd2
   rw[Nat.pow_succ,Nat.mul_assoc,Nat.mul_left_comm] at hx
   omega
  ·intro hz
   refine⟨by omega,?_⟩
   rcases Int.lt_or_le (k:Int) s with q|q
   ·exact q
   ·exfalso
    apply hz
    obtain⟨j,rfl⟩:∃ j,k=s+j:=⟨k-s,by omega⟩
    rw[hM,Nat.pow_add,Nat.mul_left_comm]
    exact Nat.mul_mod_right _ _
def cE (sz lowE:Int) (M:Nat) (exp:Int):Int:=max ((aQ M:Int)+exp-sz) lowE
theorem rO {M:Nat} (h0:M≠0):1<=aQ M∧2^(aQ M-1)<=M∧M<2^aQ M:=by
 obtain⟨h1,h2⟩:=iJ (V:=(M:Int)) (by omega)
 have h3:=ls (M:Int)
 refine⟨h1,?_,?_⟩
 ·have:((2^(aQ M-1):Nat):Int)<=(M:Int):=by simpa using h2
  exact Int.ofNat_le.1 this
 ·have:(M:Int)<((2^aQ M:Nat):Int):=by simpa using h3
  exact Int.ofNat_lt.1 this
theorem DU {sz lowE:Int} {M:Nat} {exp:Int} (hs:0<sz) (h0:M≠0):rU M (cE sz lowE M exp-exp)<2^sz.toNat∧(lowE<cE sz lowE M exp->2^(sz.toNat-1)<=rU M (cE sz lowE M exp-exp)):=by
 obtain⟨b0,b1,b2⟩:=rO h0
 obtain⟨n,hn⟩:∃ n,aQ M=n:=⟨_,rfl⟩
 obtain⟨z,rfl⟩:∃ z:Nat,sz=z:=⟨sz.toNat,by omega⟩
 unfold cE rU
 rw[hn] at b0 b1 b2 ⊢
 rw[Int.toNat_natCast]
 obtain⟨e,he⟩:∃ e,max ((n:Int)+exp-(z:Int)) lowE=e:=⟨_,rfl⟩
 have he1:(n:Int)+exp-z<=e:=by omega
 have he2:lowE<e->e=n+exp-z:=by omega
 rw[he]
 by_cases hse:e-exp<=0
 ·rw[if_pos hse]
  obtain⟨k,hk⟩:∃ k,(-(e-exp)).toNat=k:=⟨_,rfl⟩
  rw[hk]
  refine⟨?_,fun hl=>?_⟩
  ·calc M*2^k<2^n*2^k:=Nat.mul_lt_mul_of_pos_right b2 (Nat.two_pow_pos k)
    _=2^(n+k):=by rw[Nat.pow_add]
    _<=2^z:=Nat.pow_le_pow_right (by decide) (by omega)
  ·have:=he2 hl
   calc 2^(z-1)<=2^(n-1+k):=Nat.pow_le_pow_right (by decide) (by omega)
    _=2^(n-1)*2^k:=by rw[Nat.pow_add]
    _<=M*2^k:=Nat.mul_le_mul_right _ b1
 ·rw[if_neg hse]
  obtain⟨k,hk⟩:∃ k,(e-exp).toNat=k:=⟨_,rfl⟩
  rw[hk]
  refine⟨?_,fun hl=>?_⟩
  ·rw[Nat.div_lt_iff_lt_mul (Nat.two_pow_pos k),<- Nat.pow_add]
   exact Nat.lt_of_lt_of_le b2 (Nat.pow_le_pow_right (by decide) (by omega))
  ·have:=he2 hl
   rw[Nat.le_div_iff_mul_le (Nat.two_pow_pos k),<- Nat.pow_add]
   exact Nat.le_trans (Nat.pow_le_pow_right (by decide) (by omega)) b1
def cU (sz lowE way:Int) (ng:Bool) (M:Nat) (exp:Int) (more:Bool):Nat :=
 rU M (cE sz lowE M exp-exp)+(if bX way ng (decide (rU M (cE sz lowE M exp-exp) % 2=1)) (rL M more (cE sz lowE M exp-exp)) then 1 else 0)
def cO (sz lowE high way:Int) (ng:Bool) (M:Nat) (exp:Int) (more:Bool):Bool :=
 decide (2^(sz.toNat-1)<=cU sz lowE way ng M exp more)&&decide (high<(aQ (cU sz lowE way ng M exp more):Int)+cE sz lowE M exp)
def cS (fK:Int) (ng:Bool):Int:=if ng then fK else 0
theorem KU {way:Int} {ng:Bool} {A:Int} {M:Nat} {exp:Int} {more:Bool} (hA:sJ A M exp more) (h0:M≠0) (he:-4194304<=exp) (hc:more=true->2^60<=M) :
  ∃ (r0:Nat) (left:Int),fi A r0 left∧(if cO 53 (-1074) 1024 way ng M exp more then cS (-9223372036854775808) ng+(if bX way ng true 3 then 9218868437227405312 else 9218868437227405311) else cS (-9223372036854775808) ng+jp false (cU 53 (-1074) way ng M exp more) (cE 53 (-1074) M exp))=aG ng (bF way ng r0 left) ∧
   (cO 53 (-1074) 1024 way ng M exp more||(decide (rL M more (cE 53 (-1074) M exp-exp)≠0)))=(decide (left≠0)||decide (9218868437227405312<=(r0:Int))):=by
 obtain⟨b0,b1,b2⟩:=rO h0
 have hbits:=DU (sz:=53) (lowE:=-1074) (exp:=exp) (by decide) h0
 have hE1:-1074<=cE 53 (-1074) M exp:=by unfold cE;omega
 have hcs:more=true->0<cE 53 (-1074) M exp-exp:=fun h=>by
  have h1:=hc h
  have h2:60<aQ M:=by
   have:=(Nat.pow_lt_pow_iff_right (by decide:1<2)).1 (Nat.lt_of_le_of_lt h1 b2)
   exact this
  unfold cE
  omega
 have hL:=Cz hA hcs (by omega) he
 unfold cO cU
 obtain⟨E,hE⟩:∃ E,cE 53 (-1074) M exp=E:=⟨_,rfl⟩
 rw[hE] at hbits hE1 hL ⊢
 obtain⟨u,hu⟩:∃ u,rU M (E-exp)=u:=⟨_,rfl⟩
 obtain⟨left,hl⟩:∃ l,rL M more (E-exp)=l:=⟨_,rfl⟩
 rw[hu] at hbits hL ⊢
 rw[hl] at hL ⊢
 obtain⟨a,ha⟩:∃ a,(E - -1074).toNat=a:=⟨_,rfl⟩
 have e53:(2:Nat)^(53:Int).toNat=9007199254740992:=by decide
 have e52:(2:Nat)^((53:Int).toNat-1)=4503599627370496:=by decide
 rw[e53,e52] at hbits
 rw[e52]
 have eB:Ieee.double.binade=4503599627370496:=by decide
 have hV:=pO Ieee.double a u (by rw[eB];omega) (fun h=>by rw[eB];exact hbits.2 (by omega))
 rw[eB] at hV
 have hpw:pw E=2^a*pw (-1074):=by rw[og (e:=E) (low:=-1074) (by decide) hE1,ha]
 rw[hpw] at hL
 refine⟨a*4503599627370496+u,left,sQ hL hV.1 hV.2,?_⟩
 have hodd:decide ((a*4503599627370496+u) % 2=1)=decide (u % 2=1):=by congr 1;apply propext;omega
 unfold bF
 rw[hodd]
 obtain⟨R,hR⟩:∃ R,bX way ng (decide (u % 2=1)) left=R:=⟨_,rfl⟩
 rw[hR]
 obtain⟨U,hU⟩:∃ U,u+(if R=true then 1 else 0)=U:=⟨_,rfl⟩
 rw[hU]
 have hR1:R=true->left≠0:=fun h hz=>by rw[hz,h] at hR;exact jy hR
 have hR2:R=true->bX way ng true 3=true:=fun h=>uB (hR.trans h)
 have hUle:U<=9007199254740992:=by rw[<- hU];split<;>omega
 have hcast:((a*4503599627370496+u:Nat):Int)+(if R=true then 1 else 0)=((a*4503599627370496+U:Nat):Int):=by
  rw[<- hU]
  cases R<;>simp only[if_true,if_false,Bool.false_eq_true]<;>omega
 rw[hcast]
 have huU:u<=U:=by rw[<- hU];omega
 have hO:(decide (4503599627370496<=U)&&decide (1024<(aQ (U:Int):Int)+E))=decide (9218868437227405312<=((a*4503599627370496+U:Nat):Int)):=by
  have hsub:U<4503599627370496->a=0:=fun h=>by
   rcases Nat.eq_zero_or_pos a with q|q
   ·exact q
   ·have:=hbits.2 (by omega);omega
  have hEa:E=(a:Int)-1074:=by omega
  by_cases c1:4503599627370496<=U
  ·rw[decide_eq_true c1,Bool.true_and]
   by_cases c2:U=9007199254740992
   ·have:aQ (U:Int)=54:=pN (k:=53) (by rw[show(2:Int)^53=9007199254740992 from rfl];omega) (by rw[show(2:Int)^(53+1)=18014398509481984 from rfl];omega)
    rw[this]
    congr 1
    apply propext
    omega
   ·have:aQ (U:Int)=53:=pN (k:=52) (by rw[show(2:Int)^52=4503599627370496 from rfl];omega) (by rw[show(2:Int)^(52+1)=9007199254740992 from rfl];omega)
    rw[this]
    congr 1
    apply propext
    omega
  ·rw[decide_eq_false c1,Bool.false_and]
   have:=hsub (by omega)
   symm
   rw[decide_eq_false]
   omega
 rw[hO]
 by_cases hf:((a*4503599627370496+U:Nat):Int)<9218868437227405312
 ·have hf0:((a*4503599627370496+u:Nat):Int)<9218868437227405312:=by omega
  rw[decide_eq_false (show ¬ 9218868437227405312<=((a*4503599627370496+U:Nat):Int) by omega),if_neg (by decide),if_pos hf0,decide_eq_false (p:=9218868437227405312<=((a*4503599627370496+u:Nat):Int)) (by omega),Bool.or_false,Bool.false_or]
  refine⟨?_,rfl⟩
  have hjp:jp false (U:Int) E=((a*4503599627370496+U:Nat):Int):=by
   by_cases hU0:U=0
   ·have hu0:u=0:=by omega
    have ha0:a=0:=by
     rcases Nat.eq_zero_or_pos a with h|h
     ·exact h
     ·have:=hbits.2 (by omega);omega
    subst hU0 ha0
    rfl
   ·have hjr:=xH Ieee.double 52 (by decide) dB 2047 (-1074) (by decide) U E (by omega) (by rw[show(2:Nat)^(52+1)=9007199254740992 by decide];exact hUle) hE1 (fun h=>by rw[show(2:Nat)^52=4503599627370496 by decide];have:=hbits.2 h;omega)
    simp only at hjr
    rw[ha,show(2:Nat)^52=4503599627370496 by decide,show(2047:Int)*2^52=9218868437227405312 by decide] at hjr
    obtain⟨j1,j2⟩:=hjr
    rw[show jk ((52:Nat):Int) 2047 (-1074) (U:Int) E=jk 52 2047 (-1074) (U:Int) E from rfl,decide_eq_true hf] at j1
    have hjv:=j2 hf
    rw[show jv ((52:Nat):Int) 2047 (-1074) (U:Int) E=jv 52 2047 (-1074) (U:Int) E from rfl] at hjv
    unfold jp
    rw[j1,hjv]
    rfl
  rw[hjp]
  unfold cS aG
  cases ng<;>simp<;>omega
 ·rw[decide_eq_true (show 9218868437227405312<=((a*4503599627370496+U:Nat):Int) by omega),if_pos rfl,Bool.true_or]
  by_cases hf0:((a*4503599627370496+u:Nat):Int)<9218868437227405312
  ·have hRt:R=true:=by
    cases R
    ·exfalso;simp at hU;omega
    ·rfl
   have hUe:((a*4503599627370496+U:Nat):Int)=9218868437227405312:=by rw[hRt] at hU;simp at hU;omega
   rw[if_pos hf0,hUe,decide_eq_true (hR1 hRt),Bool.true_or,hR2 hRt,if_pos rfl]
   refine⟨?_,rfl⟩
   unfold cS aG
   cases ng<;>simp
  ·rw[if_neg hf0,decide_eq_true (p:=9218868437227405312<=((a*4503599627370496+u:Nat):Int)) (by omega),Bool.or_true]
   refine⟨?_,rfl⟩
   unfold cS aG eL
   cases ng<;>simp<;>split<;>omega
end Go.Proofs.YtjjihmnbdeeedaaGreatDoor
