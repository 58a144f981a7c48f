/- Parts of the proof. -/
import Derived.Test.YtkkpppgfoilgmaaGreatDoorPart14
import Derived.Test.YtkkpppgfoilgmaaGreatDoorPart8
import Derived.Test.YtkkpppgfoilgmaaGreatDoorPart12
import Derived.Test.YtkkpppgfoilgmaaGreatDoorPart9
import Derived.Test.YtkkpppgfoilgmaaGreatDoorPart13
set_option maxRecDepth 100000
set_option maxHeartbeats 8000000
set_option linter.unusedVariables false
set_option linter.unusedSimpArgs false
namespace Go.Proofs.YtkkpppgfoilgmaaGreatDoor
open Go Go.Proofs.Tryz Go.RowKit Go.Proofs.YtkkpppgfoilgmaaGreatDoor.M
theorem pI (F:Nat) {a b c d x y:Int} (ha:au a) (hb:au b) (hc:au c) (hd:au d) (w:World) (HH:ax w)
    (hE:∀ (cap:Array Value) (w:World),(callFunc F cap).run prog w=.ok (.enter F cap) w)
    (CF:Hid (aK a b=true->aK c d=true->nn x∧nn y∧∀ W,ax W->Calls prog F #[bU a b,bU c d] W fun e w'=>e=.returned (bU x y)∧Below W.heap.size W w')) :
    Calls prog 35 #[bf a b,bf c d,.func (.func F) #[] #[]] w fun e w'=>e=.returned (.tuple #[dt (aK a b&&aK c d) (bf (az x) (az y)),.int .i64 (dO (aK a b&&aK c d))])∧Below w.heap.size w w':=by
  have R1:=fun W=>gk a b W
  have R2:=fun W=>gk c d W
  have V1:Hid (∀ W,Calls prog 38 #[bU a b] W fun e w'=>e=.returned (.bool (aK a b))∧Below W.heap.size W w'):=fun W=>cM ha hb W
  have V2:Hid (∀ W,Calls prog 38 #[bU c d] W fun e w'=>e=.returned (.bool (aK c d))∧Below W.heap.size W w'):=fun W=>cM hc hd W
  unfold bf bU at *
  obtain⟨q0,q1,q2,hs,hb3⟩:=gC w (.cells #[.int .i64 a,.int .i64 b] 23) (.cells #[.int .i64 c,.int .i64 d] 23) (.cells #[.int .i64 0,.int .i64 0] 23)
  go_enter func35,ntmps35
  go_wp2_with fail
  have k0:=aa q0 0 rfl
  have k1:=aa q0 1 rfl
  have k2:=aa q1 0 rfl
  have k3:=aa q1 1 rfl
  generalize ((w.alloc (.cells #[.int .i64 a,.int .i64 b] 23)).alloc (.cells #[.int .i64 c,.int .i64 d] 23)).alloc (.cells #[.int .i64 0,.int .i64 0] 23)=wx at *
  have hst:∀ (p:Addr) (n:Nat) (m:Mode) (w:World),(store p (.float .f64 n) m).run prog w=stored prog w p (.float .f64 n) m:=fun p n m w=>run_store _ w p _ m rfl
  have hc:(w.heap.size<w.heap.size+3∧w.heap.size+1<w.heap.size+3∧w.heap.size+3<=wx.drew.heap.size)∧wx.drew.cell? ⟨w.heap.size,0,none⟩=some (.int .i64 a)∧wx.drew.cell? ⟨w.heap.size,1,none⟩=some (.int .i64 b)∧wx.drew.cell? ⟨w.heap.size+1,0,none⟩=some (.int .i64 c)∧wx.drew.cell? ⟨w.heap.size+1,1,none⟩=some (.int .i64 d):=⟨⟨by omega,by omega,by show _<=wx.heap.size;omega⟩,k0,k1,k2,k3⟩
  rename_i Q' K haK
  have H:∀ (gi gj:Nat) (W:World),W.heap[gi]?=some (.cells #[.float .f64 (wd a),.float .f64 (wd b)] 64 (0,0))->W.heap[gj]?=some (.cells #[.float .f64 (wd c),.float .f64 (wd d)] 64 (0,0))->Below wx.heap.size wx W ->
      Exit.then K Q' Exit.normal { tmps:=#[.agg #[.int .i64 a,.int .i64 b],.agg #[.int .i64 c,.int .i64 d],.func (.func F) #[] #[],.pointer (some ⟨w.heap.size,0,none⟩),.pointer (some ⟨w.heap.size+1,0,none⟩),undef,.pointer (some ⟨w.heap.size+1+1,0,none⟩),.int .i64 0,.pointer (some ⟨gi,0,none⟩),.pointer (some ⟨gj,0,none⟩),.agg #[.int .i64 a,.int .i64 b],.agg #[.float .f64 (wd a),.float .f64 (wd b)],.agg #[.int .i64 c,.int .i64 d],.agg #[.float .f64 (wd c),.float .f64 (wd d)],undef,undef,undef,undef,undef,undef,undef,undef,undef,undef,undef,undef,undef,undef],defers:=[] } W:=by
    intro gi gj W hgi hgj hbW
    clear hc k0 k1 k2 k3 q0 q1 R1 R2 hst
    have i0:=aa hgi 0 rfl
    have i1:=aa hgi 1 rfl
    have j0:=aa hgj 0 rfl
    have j1:=aa hgj 1 rfl
    go_wp2_with fail
    refine(V1.out _).mono ?_
    rintro _ w1 ⟨rfl,hb4⟩
    have hgi1:=(hb4.block _ (aGe hgi).1).trans hgi
    have hgj1:=(hb4.block _ (aGe hgj).1).trans hgj
    clear i0 i1 j0 j1
    have j0:=aa hgj1 0 rfl
    have j1:=aa hgj1 1 rfl
    by_cases h1:aK a b=false
    · rw[h1]
      have hbR:=ab hbW hb4
      have d2:=(hbR.block _ (aGe q2).1).trans q2
      have d3:=aj d2 0 (.int .i64 0)
      have d4:=aj d3 1 (.int .i64 0)
      have f0:=aa d2 0 rfl
      have z0:=af d2 0
      have f1:=aa d3 1 rfl
      have z1:=af d3 1
      have e0:=aa d4 0 rfl
      have e1:=aa d4 1 rfl
      have hbe:=((ab hb3 hbR).setCell (p:=⟨w.heap.size+1+1,0,none⟩) (show w.heap.size<=w.heap.size+1+1 by omega) (.int .i64 0)).setCell (p:=⟨w.heap.size+1+1,1,none⟩) (show w.heap.size<=w.heap.size+1+1 by omega) (.int .i64 0)
      clear d2 d3 d4
      go_wp2
      refine bodyPost_ret (v:=.tuple #[.agg #[.int .i64 0,.int .i64 0],.int .i64 1]) (by simp[results,results35,go_sem,e0,e1]) rfl ⟨by rw[h1];rfl,hbe⟩
    replace h1:aK a b=true:=by simpa using h1
    rw[h1]
    go_wp2_with fail
    refine(V2.out _).mono ?_
    rintro _ w2 ⟨rfl,hb5⟩
    have hgi2:=(hb5.block _ (aGe hgi1).1).trans hgi1
    have hgj2:=(hb5.block _ (aGe hgj1).1).trans hgj1
    clear j0 j1
    have i0:=aa hgi2 0 rfl
    have i1:=aa hgi2 1 rfl
    have j0:=aa hgj2 0 rfl
    have j1:=aa hgj2 1 rfl
    have hbR:=ab hbW (ab hb4 hb5)
    by_cases h2:aK c d=false
    · rw[h2]
      have d2:=(hbR.block _ (aGe q2).1).trans q2
      have d3:=aj d2 0 (.int .i64 0)
      have d4:=aj d3 1 (.int .i64 0)
      have f0:=aa d2 0 rfl
      have z0:=af d2 0
      have f1:=aa d3 1 rfl
      have z1:=af d3 1
      have e0:=aa d4 0 rfl
      have e1:=aa d4 1 rfl
      have hbe:=((ab hb3 hbR).setCell (p:=⟨w.heap.size+1+1,0,none⟩) (show w.heap.size<=w.heap.size+1+1 by omega) (.int .i64 0)).setCell (p:=⟨w.heap.size+1+1,1,none⟩) (show w.heap.size<=w.heap.size+1+1 by omega) (.int .i64 0)
      clear d2 d3 d4
      go_wp2
      refine bodyPost_ret (v:=.tuple #[.agg #[.int .i64 0,.int .i64 0],.int .i64 1]) (by simp[results,results35,go_sem,e0,e1]) rfl ⟨by rw[h2,Bool.and_false];rfl,hbe⟩
    replace h2:aK c d=true:=by simpa using h2
    rw[h2]
    obtain⟨nx,ny,CF'⟩:=CF.out h1 h2
    have L2:=HH.keeps (ab hb3 hbR)
    have CT:=fun W LW=>iX nx ny W LW
    unfold bU bf at CT
    go_wp2_with fail
    refine(CF' _ L2).mono ?_
    rintro _ w3 ⟨rfl,hb6⟩
    have L3:=L2.keeps hb6
    go_wp2_with fail
    refine(CT _ L3.env.lays).mono ?_
    rintro _ w4 ⟨rfl,hb7⟩
    replace hbR:=ab hbR (ab hb6 hb7)
    have d2:=(hbR.block _ (aGe q2).1).trans q2
    generalize hX:az x=X at *
    generalize hY:az y=Y at *
    have d3:=aj d2 0 (.int .i64 X)
    have d4:=aj d3 1 (.int .i64 Y)
    have f0:=aa d2 0 rfl
    have z0:=af d2 0
    have f1:=aa d3 1 rfl
    have z1:=af d3 1
    have e0:=aa d4 0 rfl
    have e1:=aa d4 1 rfl
    have hbe:=((ab hb3 hbR).setCell (p:=⟨w.heap.size+1+1,0,none⟩) (show w.heap.size<=w.heap.size+1+1 by omega) (.int .i64 X)).setCell (p:=⟨w.heap.size+1+1,1,none⟩) (show w.heap.size<=w.heap.size+1+1 by omega) (.int .i64 Y)
    clear d2 d3 d4 CT CF CF'
    go_wp2
    refine bodyPost_ret (v:=.tuple #[.agg #[.int .i64 X,.int .i64 Y],.int .i64 0]) (by simp[results,results35,go_sem,e0,e1]) rfl ⟨by rw[h1,h2,hX,hY];rfl,hbe⟩
  go_region_held3 (fun W=>(w.heap.size<w.heap.size+3∧w.heap.size+1<w.heap.size+3∧w.heap.size+3<=W.heap.size)∧W.cell? ⟨w.heap.size,0,none⟩=some (.int .i64 a)∧W.cell? ⟨w.heap.size,1,none⟩=some (.int .i64 b)∧W.cell? ⟨w.heap.size+1,0,none⟩=some (.int .i64 c)∧W.cell? ⟨w.heap.size+1,1,none⟩=some (.int .i64 d))
    (first|assumption|(repeat (first|exact hc|refine jN ?_|refine n8 _ ?_|refine kT (by first|omega|(simp;omega)) ?_)))
    (first
      | (go_at_call 37;have _t:=T1;refine(R2 _).mono ?_;rintro _ _ ⟨rfl,rfl⟩)
      | (go_at_call 37; refine (R1 _).mono ?_; rintro _ _ ⟨rfl,rfl⟩; have T1:True:=trivial))
  all_goals
    refine H _ _ _ ?_ ?_ vJ
    all_goals first
      | exact vD hs rfl
      | exact vE hs rfl
      | exact vF hs rfl
      | exact vG hs rfl
      | exact vH hs rfl
      | exact vI hs rfl
theorem zN {a b c d:Int} (ha:au a) (hb:au b) (hc:au c) (hd:au d) (w:World) (L:eI w) :
    Calls prog 29 #[bf a b,bf c d] w fun e w'=>e=.returned (.tuple #[dt (aK a b&&aK c d) (bf (az (bJ a c)) (az (bP b d))),.int .i64 (dO (aK a b&&aK c d))])∧Below w.heap.size w w':=by
  have hE:∀ (cap:Array Value) (w:World),(callFunc 48 cap).run prog w=.ok (.enter 48 cap) w:=by
    intro cap w
    simp[go_sem]
  have CJ:Hid (∀ W,eI W->Calls prog 35 #[bf a b,bf c d,.func (.func 48) #[] #[]] W fun e w'=>e=.returned (.tuple #[dt (aK a b&&aK c d) (bf (az (bJ a c)) (az (bP b d))),.int .i64 (dO (aK a b&&aK c d))])∧Below W.heap.size W w'):=fun W LW=>
    qw _ ha hb hc hd W LW hE (fun h1 h2=>by
      obtain⟨va,vb,_,_,_⟩:=cW.1 h1
      obtain⟨vc,vd,_,_,_⟩:=cW.1 h2
      exact ⟨(eK ⟨ha,va⟩ ⟨hc,vc⟩).1,(eL ⟨hb,vb⟩ ⟨hd,vd⟩).1,fun W' _=>io ⟨ha,va⟩ ⟨hb,vb⟩ ⟨hc,vc⟩ ⟨hd,vd⟩ W'⟩)
  have hx:∃ X Y,dt (aK a b&&aK c d) (bf (az (bJ a c)) (az (bP b d)))=.agg #[.int .i64 X,.int .i64 Y]:=by
    unfold dt bf;split
    · exact⟨_,_,rfl⟩
    · exact⟨_,_,rfl⟩
  obtain⟨X,Y,hXY⟩:=hx
  rw[hXY] at CJ ⊢
  clear hXY
  unfold bf at *
  generalize dO (aK a b&&aK c d)=E at *
  obtain⟨q0,q1,q2,hs,hb3⟩:=gC w (.cells #[.int .i64 a,.int .i64 b] 23) (.cells #[.int .i64 c,.int .i64 d] 23) (.cells #[.int .i64 0,.int .i64 0] 23)
  have L2:=L.below' hb3
  go_enter func29,ntmps29
  go_wp2_with fail
  generalize ((w.alloc (.cells #[.int .i64 a,.int .i64 b] 23)).alloc (.cells #[.int .i64 c,.int .i64 d] 23)).alloc (.cells #[.int .i64 0,.int .i64 0] 23)=wx at *
  refine(CJ.out _ L2).mono ?_
  rintro _ w1 ⟨rfl,hb4⟩
  have d2:=(hb4.block _ (aGe q2).1).trans q2
  have d3:=aj d2 0 (.int .i64 X)
  have d4:=aj d3 1 (.int .i64 Y)
  have f0:=aa d2 0 rfl
  have z0:=af d2 0
  have f1:=aa d3 1 rfl
  have z1:=af d3 1
  have e0:=aa d4 0 rfl
  have e1:=aa d4 1 rfl
  have hbe:=((ab hb3 hb4).setCell (p:=⟨w.heap.size+1+1,0,none⟩) (show w.heap.size<=w.heap.size+1+1 by omega) (.int .i64 X)).setCell (p:=⟨w.heap.size+1+1,1,none⟩) (show w.heap.size<=w.heap.size+1+1 by omega) (.int .i64 Y)
  clear d2 d3 d4 q0 q1 q2
  go_wp2
  refine bodyPost_ret (v:=.tuple #[.agg #[.int .i64 X,.int .i64 Y],.int .i64 E]) (by simp[results,results29,go_sem,e0,e1]) rfl ⟨rfl,hbe⟩
theorem uo (x:Nat) (w:World) :
  Calls prog 78 #[.float .f64 x,.float .f64 0] w fun e w'=>e=.returned (.agg #[.float .f64 x,.float .f64 x])∧w'=w.alloc (.cells #[.float .f64 x,.float .f64 x] 64):=by
 have hst:∀ (p:Addr) (n:Nat) (m:Mode) (w:World),(store p (.float .f64 n) m).run prog w=stored prog w p (.float .f64 n) m:=fun p n m w=>run_store _ w p _ m rfl
 have o:FloatKind.f64.format.order 0 0=some .eq:=by decide +kernel
 have hg:(w.alloc (.cells #[.float .f64 x,.float .f64 x] 64)).heap[w.heap.size]?=some (.cells #[.float .f64 x,.float .f64 x] 64 (0,0)):=iY _ _ rfl
 have e0:=aa hg 0 rfl
 have e1:=aa hg 1 rfl
 go_enter func78,ntmps78
 go_wp2
 refine bodyPost_ret (v:=.agg #[.float .f64 x,.float .f64 x]) (by simp[results,results78,go_sem,e0,e1]) rfl ⟨rfl,rfl⟩
def n9 (a b c d:Int):Int:=bJ (bJ (bJ (cz a c) (cz a d)) (cz b c)) (cz b d)
def oc (a b c d:Int):Int:=bP (bP (bP (cQ a c) (cQ a d)) (cQ b c)) (cQ b d)
theorem Ay {a b c d:Int} (ha:nn a) (hb:nn b) (hc:nn c) (hd:nn d):nn (n9 a b c d)∧nn (oc a b c d) :=
 ⟨(eK (eK (eK (bM ha hc).1 (bM ha hd).1).1 (bM hb hc).1).1 (bM hb hd).1).1,(eL (eL (eL (bM ha hc).2 (bM ha hd).2).1 (bM hb hc).2).1 (bM hb hd).2).1⟩
theorem zO {a b c d:Int} (ha:nn a) (hb:nn b) (hc:nn c) (hd:nn d) (w:World) (H:ax w) :
    Calls prog 56 #[bU a b,bU c d] w fun e w'=>e=.returned (bU (n9 a b c d) (oc a b c d))∧Below w.heap.size w w':=by
  obtain⟨n0,n0'⟩:=bM ha hc
  obtain⟨n1,n1'⟩:=bM ha hd
  obtain⟨n2,n2'⟩:=bM hb hc
  obtain⟨n3,n3'⟩:=bM hb hd
  have m1:=(eK n0 n1).1
  have m1':=(eL n0' n1').1
  have m2:=(eK m1 n2).1
  have m2':=(eL m1' n2').1
  exact xI (fun k=>match k with|0=>wd (cz a c)|1=>wd (bJ (cz a c) (cz a d))|2=>wd (bJ (bJ (cz a c) (cz a d)) (cz b c))|_=>wd (n9 a b c d))
    (fun k=>match k with|0=>wd (cQ a c)|1=>wd (bP (cQ a c) (cQ a d))|2=>wd (bP (bP (cQ a c) (cQ a d)) (cQ b c))|_=>wd (oc a b c d))
    (fun k=>match k with|0=>wd (cz a d)|1=>wd (cz b c)|_=>wd (cz b d))
    (fun k=>match k with|0=>wd (cQ a d)|1=>wd (cQ b c)|_=>wd (cQ b d)) w H
    (fun W hW=>iw ha hc W hW) (fun W hW=>iw ha hd W hW) (fun W hW=>iw hb hc W hW) (fun W hW=>iw hb hd W hW)
    (fun k hk W=>by
      match k,hk with
      | 0,_=>exact io n0 n0' n1 n1' W
      | 1,_=>exact io m1 m1' n2 n2' W
      | 2,_=>exact io m2 m2' n3 n3' W)
theorem zP {a b c d:Int} (ha:au a) (hb:au b) (hc:au c) (hd:au d) (w:World) (H:ax w) :
    Calls prog 27 #[bf a b,bf c d] w fun e w'=>e=.returned (.tuple #[dt (aK a b&&aK c d) (bf (az (n9 a b c d)) (az (oc a b c d))),.int .i64 (dO (aK a b&&aK c d))])∧Below w.heap.size w w':=by
  have hE:∀ (cap:Array Value) (w:World),(callFunc 56 cap).run prog w=.ok (.enter 56 cap) w:=by
    intro cap w
    simp[go_sem]
  have CJ:Hid (∀ W,ax W->Calls prog 35 #[bf a b,bf c d,.func (.func 56) #[] #[]] W fun e w'=>e=.returned (.tuple #[dt (aK a b&&aK c d) (bf (az (n9 a b c d)) (az (oc a b c d))),.int .i64 (dO (aK a b&&aK c d))])∧Below W.heap.size W w'):=fun W LW=>
    pI _ ha hb hc hd W LW hE (fun h1 h2=>by
      obtain⟨va,vb,_,_,_⟩:=cW.1 h1
      obtain⟨vc,vd,_,_,_⟩:=cW.1 h2
      exact ⟨(Ay ⟨ha,va⟩ ⟨hb,vb⟩ ⟨hc,vc⟩ ⟨hd,vd⟩).1,(Ay ⟨ha,va⟩ ⟨hb,vb⟩ ⟨hc,vc⟩ ⟨hd,vd⟩).2,fun W' hW=>zO ⟨ha,va⟩ ⟨hb,vb⟩ ⟨hc,vc⟩ ⟨hd,vd⟩ W' hW⟩)
  have hx:∃ X Y,dt (aK a b&&aK c d) (bf (az (n9 a b c d)) (az (oc a b c d)))=.agg #[.int .i64 X,.int .i64 Y]:=by
    unfold dt bf;split
    · exact⟨_,_,rfl⟩
    · exact⟨_,_,rfl⟩
  obtain⟨X,Y,hXY⟩:=hx
  rw[hXY] at CJ ⊢
  clear hXY
  unfold bf at *
  generalize dO (aK a b&&aK c d)=E at *
  obtain⟨q0,q1,q2,hs,hb3⟩:=gC w (.cells #[.int .i64 a,.int .i64 b] 23) (.cells #[.int .i64 c,.int .i64 d] 23) (.cells #[.int .i64 0,.int .i64 0] 23)
  have L2:=H.keeps hb3
  go_enter func27,ntmps27
  go_wp2_with fail
  generalize ((w.alloc (.cells #[.int .i64 a,.int .i64 b] 23)).alloc (.cells #[.int .i64 c,.int .i64 d] 23)).alloc (.cells #[.int .i64 0,.int .i64 0] 23)=wx at *
  refine(CJ.out _ L2).mono ?_
  rintro _ w1 ⟨rfl,hb4⟩
  have d2:=(hb4.block _ (aGe q2).1).trans q2
  have d3:=aj d2 0 (.int .i64 X)
  have d4:=aj d3 1 (.int .i64 Y)
  have f0:=aa d2 0 rfl
  have z0:=af d2 0
  have f1:=aa d3 1 rfl
  have z1:=af d3 1
  have e0:=aa d4 0 rfl
  have e1:=aa d4 1 rfl
  have hbe:=((ab hb3 hb4).setCell (p:=⟨w.heap.size+1+1,0,none⟩) (show w.heap.size<=w.heap.size+1+1 by omega) (.int .i64 X)).setCell (p:=⟨w.heap.size+1+1,1,none⟩) (show w.heap.size<=w.heap.size+1+1 by omega) (.int .i64 Y)
  clear d2 d3 d4 q0 q1 q2
  go_wp2
  refine bodyPost_ret (v:=.tuple #[.agg #[.int .i64 X,.int .i64 Y],.int .i64 E]) (by simp[results,results27,go_sem,e0,e1]) rfl ⟨rfl,hbe⟩
structure En where
 i:Int
 v:Int
def En.le (a b:En):Prop:=a.i<b.i∨(a.i=b.i∧a.v<=b.v)
def En.ok (a:En):Prop:=a.i=0∨((a.i=1∨a.i=-1)∧a.v=0)
def a6 (a:En):Int:=if 0<a.i then 9218868437227405312 else if a.i<0 then -4503599627370496 else eR a.v
def a7 (a:En):Int:=if 0<a.i then 9218868437227405312 else if a.i<0 then -4503599627370496 else eS a.v
def ag (p:Int):En:=if rg p=9218868437227405312 then ⟨if p<0 then -1 else 1,0⟩ else ⟨0,aF p⟩
theorem En.eq {a b:En} (h:a.i=b.i) (k:a.v=b.v):a=b:=by cases a;cases b;cases h;cases k;rfl
theorem En.le_refl (a:En):a.le a:=.inr ⟨rfl,Int.le_refl _⟩
theorem En.le_trans {a b c:En} (h:a.le b) (k:b.le c):a.le c:=by
 unfold En.le at *
 omega
theorem En.le.le_trans {a b c:En} (h:a.le b) (k:b.le c):a.le c:=En.le_trans h k
theorem En.le_total (a b:En):a.le b∨b.le a:=by
 unfold En.le
 omega
theorem pJ (V:Int):∃ (ng:Bool) (f:Int->Int × Bool),j3 V ng f:=by
 by_cases h0:V=0
 ·subst h0
  exact⟨false,fun way=>(ay (false&&decide (0<aX way false 0 0)) (aX way false 0 0),decide ((0:Int)≠0)||decide (9218868437227405312<=((0:Nat):Int))),0,0,0,rfl,(fun h=>by cases h),ml,fun way=>rfl⟩
 ·obtain⟨g,A,r0,left,e,hA,hR,_,_⟩:=oT h0
  exact⟨g,fun way=>(ay (g&&decide (0<aX way g r0 left)) (aX way g r0 left),decide (left≠0)||decide (9218868437227405312<=(r0:Int))),A,r0,left,e,fun _=>hA,hR,fun way=>rfl⟩
theorem gm (V:Int):nn (eR V)∧nn (eS V):=by
 obtain⟨ng,f,h⟩:=pJ V
 obtain⟨c1,c2⟩:=lM h
 obtain⟨A,r0,left,e,hn,hR,hf⟩:=h
 obtain⟨_,a2,a3⟩:=j3.key (V:=V) (A:=A) (hf 1)
 obtain⟨_,b2,b3⟩:=j3.key (V:=V) (A:=A) (hf 2)
 rw[c1] at a2 a3
 rw[c2] at b2 b3
 exact⟨⟨a3,a2⟩,⟨b3,b2⟩⟩
theorem sR {a b:Int} (ha:nn a) (hb:nn b) (h:bI a b=false):aw b<=aw a:=by
 unfold bI at h
 simp[ha.2,hb.2] at h
 exact h
theorem DU {V U:Int} (h:V<=U):aw (eR V)<=aw (eR U)∧aw (eS V)<=aw (eS U):=by
 obtain⟨ng,f,k⟩:=pJ V
 obtain⟨mg,g,l⟩:=pJ U
 obtain⟨c1,c2⟩:=lM k
 obtain⟨d1,d2⟩:=lM l
 have m1:=ud k l h 1
 have m2:=ud k l h 2
 rw[c1,d1] at m1
 rw[c2,d2] at m2
 exact⟨sR (gm U).1 (gm V).1 m1,sR (gm U).2 (gm V).2 m2⟩
theorem kW:nn 9218868437227405312∧nn (-4503599627370496):=⟨⟨by unfold au;omega,by decide⟩,⟨by unfold au;omega,by decide⟩⟩
theorem kX {p:Int} (h:nn p):-9218868437227405312<=aw p∧aw p<=9218868437227405312:=by
 have:=fd h
 unfold rg at this
 unfold aw
 split at this<;>(split<;>omega)
theorem pK (a:En):nn (a6 a)∧nn (a7 a):=by
 unfold a6 a7
 split
 ·exact⟨kW.1,kW.1⟩
 ·split
  ·exact⟨kW.2,kW.2⟩
  ·exact gm _
theorem oe:aw 9218868437227405312=9218868437227405312∧aw (-4503599627370496)=-9218868437227405312:=⟨by decide,by decide⟩
theorem eT {a b:En} (h:a.le b):aw (a6 a)<=aw (a6 b)∧aw (a7 a)<=aw (a7 b):=by
 obtain⟨k1,k2⟩:=oe
 have n1:=kX (gm a.v).1
 have n2:=kX (gm a.v).2
 have n3:=kX (gm b.v).1
 have n4:=kX (gm b.v).2
 have m:=fun q=>@DU a.v b.v q
 unfold a6 a7
 rcases h with h|⟨h,h'⟩
 ·by_cases p1:0<a.i
  ·have p2:0<b.i:=by omega
   rw[if_pos p1,if_pos p1,if_pos p2,if_pos p2]
   exact⟨Int.le_refl _,Int.le_refl _⟩
  ·by_cases p2:0<b.i
   ·rw[if_neg p1,if_neg p1,if_pos p2,if_pos p2]
    split<;>(rw[k1];first|(rw[k2];omega)|omega)
   ·have p3:a.i<0:=by omega
    rw[if_neg p1,if_neg p1,if_pos p3,if_pos p3,if_neg p2,if_neg p2]
    split<;>(rw[k2];first|omega|skip)
 ·rw[h]
  split
  ·exact⟨Int.le_refl _,Int.le_refl _⟩
  ·split
   ·exact⟨Int.le_refl _,Int.le_refl _⟩
   ·exact m h'
theorem nC (p:Int):az (az p)=az p:=by
 have c1:az 9221120237041090561=9221120237041090561:=by decide
 have c2:az 0=0:=by decide
 by_cases h4:aE p=4
 ·have:az p=9221120237041090561:=by unfold az;rw[if_pos h4]
  rw[this,c1]
 ·by_cases h0:aE p=0
  ·have:az p=0:=by unfold az;rw[if_neg h4,if_pos h0]
   rw[this,c2]
  ·have:az p=p:=by unfold az;rw[if_neg h4,if_neg h0]
   rw[this,this]
theorem uq (a:En):az (a6 a)=a6 a∧az (a7 a)=a7 a:=by
 unfold a6 a7
 split
 ·exact⟨by decide,by decide⟩
 ·split
  ·exact⟨by decide,by decide⟩
  ·unfold eR eS
   split
   ·exact⟨by decide,by decide⟩
   ·exact⟨nC _,nC _⟩
theorem qB {p q:Int} (hp:nn p) (hq:nn q) (h:aw p=aw q):az p=az q:=by
 by_cases e:p=q
 ·rw[e]
 ·rcases il hp.1 hq.1 h e with⟨rfl,rfl⟩|⟨rfl,rfl⟩<;>decide
theorem qU {p:Int} {a:En} (hp:nn p) (h:aw p=aw (a6 a)):az p=a6 a:=(qB hp (pK a).1 h).trans (uq a).1
theorem qV {p:Int} {a:En} (hp:nn p) (h:aw p=aw (a7 a)):az p=a7 a:=(qB hp (pK a).2 h).trans (uq a).2
theorem Fj {p:Int} {a:En} (hp:nn p) (h:az p=a6 a):aw p=aw (a6 a):=by rw[<- h,(co hp).1]
theorem Fk {p:Int} {a:En} (hp:nn p) (h:az p=a7 a):aw p=aw (a7 a):=by rw[<- h,(co hp).1]
theorem sS {p:Int} (hp:au p):p=ay (decide (p<0)) (rg p):=by
 unfold au at hp
 unfold ay rg
 by_cases h:p<0
 ·rw[if_pos h,decide_eq_true h];simp
 ·rw[if_neg h,decide_eq_false h];simp
theorem ur {p:Int} (hp:au p) (h:rg p=0):p=0∨p=-9223372036854775808:=by
 unfold rg at h
 split at h<;>omega
theorem gF:aF 0=0∧aF (-9223372036854775808)=0:=by
 refine⟨?_,?_⟩
 ·unfold aF
  rw[show bO 0=0 by decide,show c8 0=false by decide]
  exact Int.zero_mul _
 ·unfold aF
  rw[show bO (-9223372036854775808)=0 by decide]
  show sg (c8 (-9223372036854775808)) 0*_=0
  cases c8 (-9223372036854775808)<;>exact Int.zero_mul _
theorem kY:eR 0=0∧eS 0=0:=by unfold eR eS;rw[if_pos rfl,if_pos rfl];exact⟨rfl,rfl⟩
theorem dF {p:Int} (hp:nn p):a6 (ag p)=az p∧a7 (ag p)=az p:=by
 have hr:=fd hp
 obtain⟨c1,c2⟩:=ew hp.1
 unfold ag
 by_cases hi:rg p=9218868437227405312
 ·rw[if_pos hi]
  have hc:az p=p:=by
   unfold az
   rw[if_neg hp.2,if_neg (fun k=>by have:=c2.1 k;omega)]
  rw[hc]
  have h2:=hp.1
  unfold au at h2
  unfold rg at hi
  unfold a6 a7
  by_cases h0:p<0
  ·rw[if_pos h0] at hi
   simp only[if_pos h0]
   exact⟨by simp;omega,by simp;omega⟩
  ·rw[if_neg h0] at hi
   simp only[if_neg h0]
   exact⟨by simp;omega,by simp;omega⟩
 ·rw[if_neg hi]
  have hf:aC p=true:=cX hp hi
  unfold a6 a7
  simp only[Int.lt_irrefl,if_false]
  by_cases h0:rg p=0
  ·have hz:=ur hp.1 h0
   have hc:az p=0:=by
    unfold az
    rw[if_neg hp.2,if_pos (c2.2 h0)]
   have hv:aF p=0:=by
    rcases hz with rfl|rfl
    ·exact gF.1
    ·exact gF.2
   rw[hv,hc]
   exact kY
  ·have hc:az p=p:=by
    unfold az
    rw[if_neg hp.2,if_neg (fun k=>h0 (c2.1 k))]
   have hv:=gY hp.1 hf
   have hn:((rg p).toNat:Int)=rg p:=Int.toNat_of_nonneg hr.1
   obtain⟨a1,a2⟩:=FV (g:=decide (p<0)) (r:=(rg p).toNat) (by omega) (by omega)
   rw[<- hv,hn,<- sS hp.1] at a1 a2
   rw[hc]
   exact⟨a1,a2⟩
theorem iJ {p:Int} (hp:au p):aw p=if p<0 then-rg p else rg p:=by
 unfold aw rg
 split<;>rfl
theorem Fm {p q:Int} (hp:au p) (hq:au q) (h:aw p<=aw q):iV p<=iV q:=by
 rcases Int.lt_or_eq_of_le h with h|h
 ·exact Int.le_of_lt (pH hp hq h)
 ·by_cases e:p=q
  ·rw[e];exact Int.le_refl _
  ·rcases il hp hq h e with⟨rfl,rfl⟩|⟨rfl,rfl⟩<;>decide
theorem BO {p q:Int} (hp:au p) (hq:au q) (pp:aC p=true) (pq:aC q=true) (h:aw p<=aw q):aF p<=aF q:=by
 rw[dJ hp pp,dJ hq pq]
 exact Int.mul_le_mul_of_nonneg_right (Fm hp hq h) (Int.le_of_lt (bT _))
theorem iK {p q:Int} (hp:nn p) (hq:nn q) (h:aw p<=aw q):(ag p).le (ag q):=by
 have kp:=iJ hp.1
 have kq:=iJ hq.1
 have rp:=fd hp
 have rq:=fd hq
 unfold ag
 by_cases ip:rg p=9218868437227405312
 ·by_cases iq:rg q=9218868437227405312
  ·rw[if_pos ip,if_pos iq]
   unfold En.le
   show(if p<0 then (-1:Int) else 1)<(if q<0 then (-1:Int) else 1)∨((if p<0 then (-1:Int) else 1)=(if q<0 then (-1:Int) else 1)∧(0:Int)<=0)
   split at kp<;>split at kq<;>simp_all<;>omega
  ·rw[if_pos ip,if_neg iq]
   unfold En.le
   show(if p<0 then (-1:Int) else 1)<0∨_
   split at kp
   ·rw[if_pos (by assumption)];exact .inl (by decide)
   ·exfalso;split at kq<;>omega
 ·by_cases iq:rg q=9218868437227405312
  ·rw[if_neg ip,if_pos iq]
   unfold En.le
   show 0<(if q<0 then (-1:Int) else 1)∨_
   split at kq
   ·exfalso;split at kp<;>omega
   ·rw[if_neg (by assumption)];exact .inl (by decide)
  ·rw[if_neg ip,if_neg iq]
   exact .inr ⟨rfl,BO hp.1 hq.1 (cX hp ip) (cX hq iq) h⟩
theorem aM (p:Int):(ag p).ok:=by
 unfold ag En.ok
 split
 ·show(if p<0 then (-1:Int) else 1)=0∨_
  split
  ·exact .inr ⟨.inr rfl,rfl⟩
  ·exact .inr ⟨.inl rfl,rfl⟩
 ·exact .inl rfl
def bq (a b:En):En:=if a.i≠0 then a else if b.i≠0 then b else ⟨0,a.v+b.v⟩
theorem dG {p:Int} (h:¬ rg p=9218868437227405312):ag p=⟨0,aF p⟩:=if_neg h
theorem dS {p:Int} (h:rg p=9218868437227405312):ag p=⟨if p<0 then -1 else 1,0⟩:=if_pos h
theorem og {p:Int} (h:rg p=9218868437227405312):(if p<0 then (-1:Int) else 1)≠0:=by split<;>decide
theorem jr {p q:Int} (hp:nn p) (hq:nn q) (hno:¬ (rg p=9218868437227405312∧rg q=9218868437227405312∧decide (p<0)≠decide (q<0))) :
  nn (bt p q)∧az (c6 (bt p q) (cK p q))=a6 (bq (ag p) (ag q))∧az (c7 (bt p q) (cK p q))=a7 (bq (ag p) (ag q)):=by
 have rp:=fd hp
 have rq:=fd hq
 by_cases ip:rg p=9218868437227405312
 ·have hE:bq (ag p) (ag q)=ag p:=by
   rw[dS ip];unfold bq;exact if_pos (og ip)
  rw[hE]
  by_cases iq:rg q=9218868437227405312
  ·have hpq:p=q:=by
    have hd:decide (p<0)=decide (q<0):=Classical.byContradiction fun c=>hno ⟨ip,iq,c⟩
    rw[sS hp.1,sS hq.1,ip,iq,hd]
   subst hpq
   have hh:dl p p=p:=by unfold dl;split<;>rfl
   obtain⟨e1,e2,e3⟩:=mB hp hp (by rw[hh];exact ip) hno
   rw[e2,e3,e1,hh]
   exact⟨hp,(dF hp).1.symm,(dF hp).2.symm⟩
  ·have hh:dl p q=p:=by unfold dl;rw[if_neg (by omega)]
   obtain⟨e1,e2,e3⟩:=mB hp hq (by rw[hh];exact ip) hno
   rw[e2,e3,e1,hh]
   exact⟨hp,(dF hp).1.symm,(dF hp).2.symm⟩
 ·by_cases iq:rg q=9218868437227405312
  ·have hE:bq (ag p) (ag q)=ag q:=by
    rw[dG ip,dS iq];unfold bq
    rw[if_neg (by simp),if_pos (og iq)]
   rw[hE]
   have hh:dl p q=q:=by unfold dl;rw[if_pos (by omega)]
   obtain⟨e1,e2,e3⟩:=mB hp hq (by rw[hh];exact iq) hno
   rw[e2,e3,e1,hh]
   exact⟨hq,(dF hq).1.symm,(dF hq).2.symm⟩
  ·have hE:bq (ag p) (ag q)=⟨0,aF p+aF q⟩:=by
    rw[dG ip,dG iq];unfold bq
    rw[if_neg (by simp),if_neg (by simp)]
   rw[hE]
   obtain⟨a,b,c⟩:=Fh hp.1 hq.1 (cX hp ip) (cX hq iq)
   unfold a6 a7
   simp only[Int.lt_irrefl,if_false]
   exact⟨a,b,c⟩
def fc (v:Int):Int:=if v<0 then -1 else if 0<v then 1 else 0
def a5 (a:En):Int:=if a.i≠0 then a.i else fc a.v
def dW (x y:Int):Int:=x*y/2^4194304
theorem ix (x y:Int):dW x y=dW y x:=by unfold dW;rw[Int.mul_comm]
theorem iy (y:Int):dW 0 y=0:=by unfold dW;rw[Int.zero_mul];exact Int.zero_ediv _
theorem sT {D x y:Int} (hD:0<D) (h:x<=y):x/D<=y/D:=Int.ediv_le_ediv hD h
theorem xJ {x y c:Int} (h:x<=y) (hc:0<=c):dW x c<=dW y c:=sT (aJ _) (Int.mul_le_mul_of_nonneg_right h hc)
theorem xK {x y c:Int} (h:x<=y) (hc:c<=0):dW y c<=dW x c:=sT (aJ _) (Int.mul_le_mul_of_nonpos_right h hc)
def aq (a b:En):En:=if a5 a*a5 b=0 then ⟨0,0⟩ else if a.i≠0∨b.i≠0 then ⟨a5 a*a5 b,0⟩ else ⟨0,dW a.v b.v⟩
theorem i4 {v:Int} (h:fc v=0):v=0:=by unfold fc at h;split at h;(· omega);split at h<;>omega
theorem DV {v u:Int} (h:v<=u):fc v<=fc u:=by unfold fc;repeat' split;all_goals omega
theorem mE (v:Int):-1<=fc v∧fc v<=1∧(0<=fc v↔0<=v)∧(fc v<=0↔v<=0):=by unfold fc;repeat' split;all_goals omega
theorem js {a:En} (h:a.ok):-1<=a5 a∧a5 a<=1:=by
 unfold a5
 have:=mE a.v
 rcases h with h|⟨h,_⟩
 ·rw[if_neg (by omega)];exact⟨this.1,this.2.1⟩
 ·rw[if_pos (by omega)];omega
theorem eC {a:En} (h:a.i=0):a5 a=fc a.v:=if_neg (fun k=>k h)
theorem gR {a:En} (h:a.i≠0):a5 a=a.i:=if_pos h
theorem lN {a b:En} (ha:a.ok) (hb:b.ok) (h:a.le b):a5 a<=a5 b:=by
 have b1:=js ha
 have b2:=js hb
 unfold En.le at h
 by_cases ia:a.i=0
 ·by_cases ib:b.i=0
  ·rw[eC ia,eC ib]
   exact DV (by omega)
  ·have:b.i=1:=by unfold En.ok at hb;omega
   rw[gR ib];omega
 ·by_cases ib:b.i=0
  ·have:a.i=-1:=by unfold En.ok at ha;omega
   rw[gR ia];omega
  ·rw[gR ia,gR ib];omega
theorem cY {a b:En} (ha:a.i=0) (hb:b.i=0):aq a b=⟨0,dW a.v b.v⟩:=by
 unfold aq
 rw[eC ha,eC hb]
 by_cases h:fc a.v*fc b.v=0
 ·rw[if_pos h]
  rcases Int.mul_eq_zero.1 h with k|k
  ·rw[i4 k,iy]
  ·rw[i4 k,ix,iy]
 ·rw[if_neg h,if_neg (by omega)]
theorem fG {a c:En} (hc:c.i≠0):aq a c=⟨a5 a*c.i,0⟩:=by
 unfold aq
 rw[gR hc]
 by_cases h:a5 a*c.i=0
 ·rw[if_pos h,h]
 ·rw[if_neg h,if_pos (.inr hc)]
theorem eX (a b:En):aq a b=aq b a:=by
 unfold aq
 rw[Int.mul_comm (a5 a),ix a.v]
 by_cases h:a5 b*a5 a=0
 ·rw[if_pos h,if_pos h]
 ·rw[if_neg h,if_neg h]
  by_cases k:a.i≠0∨b.i≠0
  ·rw[if_pos k,if_pos k.symm]
  ·rw[if_neg k,if_neg (fun q=>k q.symm)]
theorem dw {a c:En} (ha:a.i≠0):aq a c=⟨a5 c*a.i,0⟩:=by rw[eX,fG ha]
theorem oW (a:En):aq ⟨0,0⟩ a=⟨0,0⟩:=by
 unfold aq
 have:a5 ⟨0,0⟩=0:=rfl
 rw[this,Int.zero_mul,if_pos rfl]
theorem dP {a b:En} (ha:a.ok) (hb:b.ok):(aq a b).ok:=by
 have b1:=js ha
 have b2:=js hb
 by_cases ib:b.i=0
 ·by_cases ia:a.i=0
  ·rw[cY ia ib];exact .inl rfl
  ·rw[dw ia]
   unfold En.ok at *
   show a5 b*a.i=0∨_ 
   have:a.i=1∨a.i=-1:=by omega
   rcases this with e|e<;>(rw[e];show a5 b*_=0∨(a5 b*_=1∨a5 b*_=-1)∧(0:Int)=0;simp only[and_true];omega)
 ·rw[fG ib]
  unfold En.ok at *
  show a5 a*b.i=0∨_ 
  have:b.i=1∨b.i=-1:=by omega
  rcases this with e|e<;>(rw[e];show a5 a*_=0∨(a5 a*_=1∨a5 a*_=-1)∧(0:Int)=0;simp only[and_true];omega)
theorem fH {a b c:En} (ha:a.ok) (hb:b.ok) (hc:c.ok) (h:a.le b) (hs:0<=a5 c):(aq a c).le (aq b c):=by
 have hm:=lN ha hb h
 by_cases ic:c.i=0
 ·rw[eC ic] at hs
  have hv:=(mE c.v).2.2.1.1 hs
  by_cases ia:a.i=0
  ·by_cases ib:b.i=0
   ·rw[cY ia ic,cY ib ic]
    exact .inr ⟨rfl,xJ (by unfold En.le at h;omega) hv⟩
   ·have eb:b.i=1:=by unfold En.ok En.le at *;omega
    rw[cY ia ic,dw ib,eb,eC ic]
    rcases Int.lt_or_eq_of_le hs with q|q
    ·exact .inl (by show 0<fc c.v*1;omega)
    ·exact .inr ⟨by show 0=fc c.v*1;omega,by show dW _ _<=0;rw[i4 q.symm,ix,iy];exact Int.le_refl _⟩
  ·by_cases ib:b.i=0
   ·have ea:a.i=-1:=by unfold En.ok En.le at *;omega
    rw[cY ib ic,dw ia,ea,eC ic]
    rcases Int.lt_or_eq_of_le hs with q|q
    ·exact .inl (by show fc c.v * -1<0;omega)
    ·exact .inr ⟨by show fc c.v * -1=0;omega,by show 0<=dW _ _;rw[i4 q.symm,ix,iy];exact Int.le_refl _⟩
   ·rw[dw ia,dw ib]
    have:a.i<=b.i:=by unfold En.le at h;omega
    have hq:a5 c*a.i<=a5 c*b.i:=Int.mul_le_mul_of_nonneg_left this (by rw[eC ic];exact hs)
    rcases Int.lt_or_eq_of_le hq with q|q
    ·exact .inl q
    ·exact .inr ⟨q,Int.le_refl _⟩
 ·rw[gR ic] at hs
  rw[fG ic,fG ic]
  have hq:a5 a*c.i<=a5 b*c.i:=Int.mul_le_mul_of_nonneg_right hm hs
  rcases Int.lt_or_eq_of_le hq with q|q
  ·exact .inl q
  ·exact .inr ⟨q,Int.le_refl _⟩
theorem fI {a b c:En} (ha:a.ok) (hb:b.ok) (hc:c.ok) (h:a.le b) (hs:a5 c<=0):(aq b c).le (aq a c):=by
 have hm:=lN ha hb h
 by_cases ic:c.i=0
 ·rw[eC ic] at hs
  have hv:=(mE c.v).2.2.2.1 hs
  by_cases ia:a.i=0
  ·by_cases ib:b.i=0
   ·rw[cY ia ic,cY ib ic]
    exact .inr ⟨rfl,xK (by unfold En.le at h;omega) hv⟩
   ·have eb:b.i=1:=by unfold En.ok En.le at *;omega
    rw[cY ia ic,dw ib,eb,eC ic]
    rcases Int.lt_or_eq_of_le hs with q|q
    ·exact .inl (by show fc c.v*1<0;omega)
    ·exact .inr ⟨by show fc c.v*1=0;omega,by show 0<=dW _ _;rw[i4 q,ix,iy];exact Int.le_refl _⟩
  ·by_cases ib:b.i=0
   ·have ea:a.i=-1:=by unfold En.ok En.le at *;omega
    rw[cY ib ic,dw ia,ea,eC ic]
    rcases Int.lt_or_eq_of_le hs with q|q
    ·exact .inl (by show 0<fc c.v * -1;omega)
    ·exact .inr ⟨by show 0=fc c.v * -1;omega,by show dW _ _<=0;rw[i4 q,ix,iy];exact Int.le_refl _⟩
   ·rw[dw ia,dw ib]
    have:a.i<=b.i:=by unfold En.le at h;omega
    have hq:a5 c*b.i<=a5 c*a.i:=Int.mul_le_mul_of_nonpos_left (by rw[eC ic];exact hs) this
    rcases Int.lt_or_eq_of_le hq with q|q
    ·exact .inl q
    ·exact .inr ⟨q,Int.le_refl _⟩
 ·rw[gR ic] at hs
  rw[fG ic,fG ic]
  have hq:a5 b*c.i<=a5 a*c.i:=Int.mul_le_mul_of_nonpos_right hm hs
  rcases Int.lt_or_eq_of_le hq with q|q
  ·exact .inl q
  ·exact .inr ⟨q,Int.le_refl _⟩
def aO (a b:En):En:=if b.i<a.i∨(b.i=a.i∧b.v<a.v) then b else a
def aW (a b:En):En:=if a.i<b.i∨(a.i=b.i∧a.v<b.v) then b else a
theorem cI (a b:En):(aO a b).le a∧(aO a b).le b∧(aO a b=a∨aO a b=b):=by
 unfold aO
 split
 ·rename_i h
  exact⟨by unfold En.le;omega,En.le_refl _,.inr rfl⟩
 ·rename_i h
  exact⟨En.le_refl _,by unfold En.le;omega,.inl rfl⟩
theorem cy (a b:En):a.le (aW a b)∧b.le (aW a b)∧(aW a b=a∨aW a b=b):=by
 unfold aW
 split
 ·rename_i h
  exact⟨by unfold En.le;omega,En.le_refl _,.inr rfl⟩
 ·rename_i h
  exact⟨En.le_refl _,by unfold En.le;omega,.inl rfl⟩
theorem mF {x y:Int} {e f:En} (hx:nn x) (hy:nn y) (kx:aw x=aw (a6 e)) (ky:aw y=aw (a6 f)):nn (bJ x y)∧aw (bJ x y)=aw (a6 (aO e f)):=by
 obtain⟨a,b,c,d⟩:=eK hx hy
 obtain⟨l1,l2,l3⟩:=cI e f
 have m1:=(eT l1).1
 have m2:=(eT l2).1
 refine⟨a,?_⟩
 rcases l3 with q|q<;>(rw[q] at m1 m2 ⊢;omega)
theorem mG {x y:Int} {e f:En} (hx:nn x) (hy:nn y) (kx:aw x=aw (a7 e)) (ky:aw y=aw (a7 f)):nn (bP x y)∧aw (bP x y)=aw (a7 (aW e f)):=by
 obtain⟨a,b,c,d⟩:=eL hx hy
 obtain⟨l1,l2,l3⟩:=cy e f
 have m1:=(eT l1).2
 have m2:=(eT l2).2
 refine⟨a,?_⟩
 rcases l3 with q|q<;>(rw[q] at m1 m2 ⊢;omega)
theorem mH {a b x c:En} (ha:a.ok) (hb:b.ok) (hx:x.ok) (hc:c.ok) (h1:a.le x) (h2:x.le b):(aO (aq a c) (aq b c)).le (aq x c)∧(aq x c).le (aW (aq a c) (aq b c)):=by
 obtain⟨l1,l2,_⟩:=cI (aq a c) (aq b c)
 obtain⟨g1,g2,_⟩:=cy (aq a c) (aq b c)
 rcases Int.le_total 0 (a5 c) with s|s
 ·exact⟨l1.le_trans (fH ha hx hc h1 s),(fH hx hb hc h2 s).le_trans g2⟩
 ·exact⟨l2.le_trans (fI hx hb hc h2 s),(fI ha hx hc h1 s).le_trans g1⟩
def eF (a b c d:En):En:=aO (aO (aO (aq a c) (aq a d)) (aq b c)) (aq b d)
def eG (a b c d:En):En:=aW (aW (aW (aq a c) (aq a d)) (aq b c)) (aq b d)
theorem zQ (a b c d:En):(eF a b c d).le (aq a c)∧(eF a b c d).le (aq a d)∧(eF a b c d).le (aq b c)∧(eF a b c d).le (aq b d):=by
 unfold eF
 have h1:=cI (aq a c) (aq a d)
 have h2:=cI (aO (aq a c) (aq a d)) (aq b c)
 have h3:=cI (aO (aO (aq a c) (aq a d)) (aq b c)) (aq b d)
 exact⟨h3.1.le_trans (h2.1.le_trans h1.1),h3.1.le_trans (h2.1.le_trans h1.2.1),h3.1.le_trans h2.2.1,h3.2.1⟩
theorem zR (a b c d:En):(aq a c).le (eG a b c d)∧(aq a d).le (eG a b c d)∧(aq b c).le (eG a b c d)∧(aq b d).le (eG a b c d):=by
 unfold eG
 have h1:=cy (aq a c) (aq a d)
 have h2:=cy (aW (aq a c) (aq a d)) (aq b c)
 have h3:=cy (aW (aW (aq a c) (aq a d)) (aq b c)) (aq b d)
 exact⟨(h1.1.le_trans h2.1).le_trans h3.1,(h1.2.1.le_trans h2.1).le_trans h3.1,h2.2.1.le_trans h3.1,h3.2.1⟩
theorem kZ {a b x:En} (h:x.le a) (k:x.le b):x.le (aO a b):=by rcases (cI a b).2.2 with q|q<;>(rw[q];assumption)
theorem oX {a b x:En} (h:a.le x) (k:b.le x):(aW a b).le x:=by rcases (cy a b).2.2 with q|q<;>(rw[q];assumption)
theorem DW {a b c d x y:En} (ha:a.ok) (hb:b.ok) (hc:c.ok) (hd:d.ok) (hx:x.ok) (hy:y.ok) (h1:a.le x) (h2:x.le b) (h3:c.le y) (h4:y.le d) :
  (eF a b c d).le (aq x y)∧(aq x y).le (eG a b c d):=by
 obtain⟨l1,l2,l3,l4⟩:=zQ a b c d
 obtain⟨g1,g2,g3,g4⟩:=zR a b c d
 have p:=mH hc hd hy hx h3 h4
 rw[eX c,eX d,eX y] at p
 have pc:=mH ha hb hx hc h1 h2
 have pd:=mH ha hb hx hd h1 h2
 exact⟨(kZ ((kZ l1 l3).le_trans pc.1) ((kZ l2 l4).le_trans pd.1)).le_trans p.1,p.2.le_trans (oX (pc.2.le_trans (oX g1 g3)) (pd.2.le_trans (oX g2 g4)))⟩
def eH (a b:En):En:=if a5 a<=0∧0<=a5 b then ⟨0,0⟩ else aO (aq a a) (aq b b)
def fe (a b:En):En:=aW (aq a a) (aq b b)
theorem sW {a:En} (h:a.ok):(⟨0,0⟩:En).le (aq a a):=by
 rcases Int.le_total 0 (a5 a) with s|s
 ·have hz:(⟨0,0⟩:En).le a:=by
   by_cases ia:a.i=0
   ·rw[eC ia] at s
    exact .inr ⟨ia.symm,(mE a.v).2.2.1.1 s⟩
   ·rw[gR ia] at s
    exact .inl (by show 0<a.i;omega)
  have:=fH (.inl rfl) h h hz s
  rw[oW] at this
  exact this
 ·have hz:a.le (⟨0,0⟩:En):=by
   by_cases ia:a.i=0
   ·rw[eC ia] at s
    exact .inr ⟨ia,(mE a.v).2.2.2.1 s⟩
   ·rw[gR ia] at s
    exact .inl (by show a.i<0;omega)
  have:=fI h (.inl rfl) h hz s
  rw[oW] at this
  exact this
theorem DX {a b x:En} (ha:a.ok) (hb:b.ok) (hx:x.ok) (h1:a.le x) (h2:x.le b):(eH a b).le (aq x x)∧(aq x x).le (fe a b):=by
 have m1:=lN ha hx h1
 have m2:=lN hx hb h2
 obtain⟨l1,l2,_⟩:=cI (aq a a) (aq b b)
 obtain⟨g1,g2,_⟩:=cy (aq a a) (aq b b)
 have hi:(aq x x).le (fe a b):=by
  unfold fe
  rcases Int.le_total 0 (a5 x) with s|s
  ·have p1:=fH hx hb hx h2 s
   have p2:=fH hx hb hb h2 (by omega)
   rw[eX x b] at p2
   exact(p1.le_trans p2).le_trans g2
  ·have p1:=fI ha hx hx h1 s
   have p2:=fI ha hx ha h1 (by omega)
   rw[eX x a] at p2
   exact(p1.le_trans p2).le_trans g1
 refine⟨?_,hi⟩
 unfold eH
 split
 ·exact sW hx
 ·rename_i hs
  by_cases s:0<a5 a
  ·have p1:=fH ha hx ha h1 (by omega)
   have p2:=fH ha hx hx h1 (by omega)
   rw[eX x a] at p1
   exact l1.le_trans (p1.le_trans p2)
  ·have s2:a5 b<0:=by omega
   have p1:=fI hx hb hb h2 (by omega)
   have p2:=fI hx hb hx h2 (by omega)
   rw[eX x b] at p1
   exact l2.le_trans (p1.le_trans p2)
theorem vM {p:Int} (hp:nn p):a5 (ag p)=if rg p=0 then 0 else if p<0 then -1 else 1:=by
 by_cases hi:rg p=9218868437227405312
 ·have h0:¬ rg p=0:=by omega
  rw[dS hi,gR (by exact og hi),if_neg h0]
 ·rw[dG hi,eC rfl]
  show fc (aF p)=_
  have hv:=dJ hp.1 (cX hp hi)
  obtain⟨k1,k2⟩:=sM hp.1
  have hk:=iJ hp.1
  have hr:=fd hp
  have hpw:=bT (-1074)
  unfold fc
  by_cases h0:rg p=0
  ·have hz:iV p=0:=by
    have:aw p=0:=by rw[hk,h0];split<;>rfl
    omega
   rw[if_pos h0,hv,hz,Int.zero_mul]
   simp
  ·rw[if_neg h0]
   by_cases hn:p<0
   ·have:iV p<0:=k1.2 (by rw[hk,if_pos hn];omega)
    have:aF p<0:=by rw[hv];exact Int.mul_neg_of_neg_of_pos this hpw
    rw[if_pos this,if_pos hn]
   ·have:0<iV p:=k2.2 (by rw[hk,if_neg hn];omega)
    have:0<aF p:=by rw[hv];exact Int.mul_pos this hpw
    rw[if_neg (by omega),if_pos this,if_neg hn]
theorem xL {p q:Int} (hp:nn p) (hq:nn q):az (cz p q)=a6 (aq (ag p) (ag q))∧az (cQ p q)=a7 (aq (ag p) (ag q)):=by
 have sp:=vM hp
 have sq:=vM hq
 have c0:az 0=0:=by decide
 have c1:az 9218868437227405312=9218868437227405312:=by decide
 have c2:az (-4503599627370496)=-4503599627370496:=by decide
 by_cases h0:rg p=0∨rg q=0
 ·have hE:aq (ag p) (ag q)=⟨0,0⟩:=by
   unfold aq
   rw[sp,sq]
   rw[if_pos]
   rcases h0 with h|h
   ·rw[if_pos h];exact Int.zero_mul _
   ·rw[if_pos h];exact Int.mul_zero _
  rw[hE]
  unfold cz cQ a6 a7
  rw[if_pos h0,if_pos h0]
  simp only[Int.lt_irrefl,if_false]
  rw[c0]
  exact⟨kY.1.symm,kY.2.symm⟩
 ·by_cases hi:rg p=9218868437227405312∨rg q=9218868437227405312
  ·have hn1:rg p≠0:=fun k=>h0 (.inl k)
   have hn2:rg q≠0:=fun k=>h0 (.inr k)
   rw[if_neg hn1] at sp
   rw[if_neg hn2] at sq
   have hE:aq (ag p) (ag q)=⟨(if p<0 then -1 else 1)*(if q<0 then -1 else 1),0⟩:=by
    unfold aq
    rw[sp,sq]
    rw[if_neg (by split<;>split<;>decide),if_pos]
    rcases hi with h|h
    ·left;rw[dS h];exact og h
    ·right;rw[dS h];exact og h
   rw[hE]
   unfold cz cQ a6 a7
   rw[if_neg h0,if_pos hi,if_neg h0,if_pos hi]
   unfold bg ay
   by_cases a:p<0<;>by_cases b:q<0<;>simp[a,b]<;>decide
  ·have ip:¬ rg p=9218868437227405312:=fun k=>hi (.inl k)
   have iq:¬ rg q=9218868437227405312:=fun k=>hi (.inr k)
   obtain⟨e1,e2⟩:=DP hp.1 hq.1 (cX hp ip) (cX hq iq)
   rw[dG ip,dG iq,cY rfl rfl]
   have hm:dW (aF p) (aF q)=b9 p q:=DL.symm
   unfold a6 a7
   simp only[Int.lt_irrefl,if_false]
   rw[hm]
   exact⟨e1,e2⟩
theorem jO {p q:Int} (hp:nn p) (hq:nn q):aw (cz p q)=aw (a6 (aq (ag p) (ag q)))∧aw (cQ p q)=aw (a7 (aq (ag p) (ag q))) :=
 ⟨Fj (bM hp hq).1 (xL hp hq).1,Fk (bM hp hq).2 (xL hp hq).2⟩
theorem DY {a b c d:Int} (ha:nn a) (hb:nn b) (hc:nn c) (hd:nn d):az (n9 a b c d)=a6 (eF (ag a) (ag b) (ag c) (ag d))∧az (oc a b c d)=a7 (eG (ag a) (ag b) (ag c) (ag d)):=by
 obtain⟨n1,m1⟩:=bM ha hc
 obtain⟨n2,m2⟩:=bM ha hd
 obtain⟨n3,m3⟩:=bM hb hc
 obtain⟨n4,m4⟩:=bM hb hd
 obtain⟨k1,l1⟩:=jO ha hc
 obtain⟨k2,l2⟩:=jO ha hd
 obtain⟨k3,l3⟩:=jO hb hc
 obtain⟨k4,l4⟩:=jO hb hd
 have A1:=mF n1 n2 k1 k2
 have A2:=mF A1.1 n3 A1.2 k3
 have A3:=mF A2.1 n4 A2.2 k4
 have B1:=mG m1 m2 l1 l2
 have B2:=mG B1.1 m3 B1.2 l3
 have B3:=mG B2.1 m4 B2.2 l4
 exact⟨qU A3.1 A3.2,qV B3.1 B3.2⟩
def kM (a b:Int):Int:=if (aw a<=0∧0<=aw b) then 0 else bJ (cz a a) (cz b b)
def vN (a b:Int):Int:=bP (cQ a a) (cQ b b)
theorem mW {p:Int} (hp:nn p):(a5 (ag p)<=0↔aw p<=0)∧(0<=a5 (ag p)↔0<=aw p):=by
 rw[vM hp,iJ hp.1]
 have:=fd hp
 by_cases h0:rg p=0
 ·rw[if_pos h0,h0];split<;>omega
 ·rw[if_neg h0];split<;>omega
theorem Az {a b:Int} (ha:nn a) (hb:nn b):nn (kM a b)∧nn (vN a b):=by
 refine⟨?_,(eL (bM ha ha).2 (bM hb hb).2).1⟩
 unfold kM
 split
 ·exact dR.1
 ·exact(eK (bM ha ha).1 (bM hb hb).1).1
theorem FX {a b:Int} (ha:nn a) (hb:nn b):az (kM a b)=a6 (eH (ag a) (ag b))∧az (vN a b)=a7 (fe (ag a) (ag b)):=by
 obtain⟨k1,l1⟩:=jO ha ha
 obtain⟨k4,l4⟩:=jO hb hb
 have A:=mF (bM ha ha).1 (bM hb hb).1 k1 k4
 have B:=mG (bM ha ha).2 (bM hb hb).2 l1 l4
 refine⟨?_,qV B.1 B.2⟩
 unfold kM eH
 have s1:=(mW ha).1
 have s2:=(mW hb).2
 by_cases h:aw a<=0∧0<=aw b
 ·rw[if_pos h,if_pos ⟨s1.2 h.1,s2.2 h.2⟩]
  unfold a6
  simp only[Int.lt_irrefl,if_false]
  exact(show az 0=0 by decide).trans kY.1.symm
 ·rw[if_neg h,if_neg (fun k=>h ⟨s1.1 k.1,s2.1 k.2⟩)]
  exact qU A.1 A.2
def bK (a:En):En:=⟨-a.i,-a.v⟩
theorem BP {a b:Bool} (h:a≠b) (X:Int):sg a X=- sg b X:=by
 cases a<;>cases b<;>simp[sg] at h ⊢
theorem xM {p:Int} (hp:nn p) (hf:aC p=true) (hn:aC (neg p)=true):aF (neg p)=- aF p:=by
 obtain⟨g1,g2⟩:=kV hp
 rw[gY hp.1 hf,gY (cu hp).1.1 hn,g1]
 exact BP g2 _
theorem DZ (x:Int):bK ⟨0,x⟩=⟨0,-x⟩:=rfl
theorem k8 {p:Int} (hp:nn p):ag (neg p)=bK (ag p):=by
 obtain⟨hn,hk⟩:=cu hp
 obtain⟨g1,g2⟩:=kV hp
 by_cases hi:rg p=9218868437227405312
 ·rw[dS hi,dS (by rw[g1];exact hi)]
  unfold bK
  have:(neg p<0)↔¬ p<0:=by
   by_cases a:neg p<0<;>by_cases b:p<0<;>simp[a,b] at g2 ⊢
  by_cases b:p<0
  ·rw[if_pos b,if_neg (fun k=>this.1 k b)];rfl
  ·rw[if_neg b,if_pos (this.2 b)];rfl
 ·have hi':¬ rg (neg p)=9218868437227405312:=by rw[g1];exact hi
  rw[dG hi,dG hi',DZ,xM hp (cX hp hi) (cX hn hi')]
def sX (a b c d:Int):Bool:=decide (aw a<=aw c∧aw d<=aw b)
theorem D0 {a b c d:Int} (ha:nn a) (hb:nn b) (hc:nn c) (hd:nn d):(decide (aw (bJ a c)=aw a)&&decide (aw (bP b d)=aw b))=sX a b c d:=by
 obtain⟨_,h1,h2,h3⟩:=eK ha hc
 obtain⟨_,g1,g2,g3⟩:=eL hb hd
 unfold sX
 rw[Bool.eq_iff_iff]
 simp only[Bool.and_eq_true,decide_eq_true_eq]
 omega
theorem pL {P:Program} (w:World) (d:Nat) (t:TypeId) (k:FloatKind) (a b:Nat) (h:P.underlying t=some (.float k)):(Op.equalIn (d+1) t (.float .f64 a) (.float .f64 b)).run P w=.ok (FloatKind.f64.format.order a b == some .eq) w:=by
 simp[Op.equalIn,run_underlying h,Op.floatEq]
theorem BQ {lo hi c d:Int} {xg:Bool} {xo:Option Addr} {xn xc:Nat} {xe:Int} (hl:au lo) (hh:au hi) (nc:nn c) (nd:nn d) (hv:aK lo hi=true) (w:World)
    (CA:Hid (∀ W,Below w.heap.size w W->Calls prog 14 #[.agg #[.bool xg,.slice xo xn xc,.int .i64 xe]] W fun r w'=>r=.returned (.tuple #[bf c d,.int .i64 0])∧Below W.heap.size W w')) :
    Calls prog 15 #[bf lo hi,.agg #[.bool xg,.slice xo xn xc,.int .i64 xe]] w fun e w'=>e=.returned (.tuple #[.bool (sX lo hi c d),.int .i64 0])∧Below w.heap.size w w':=by
  obtain⟨va,vb,_,_,_⟩:=cW.1 hv
  have nl:nn lo:=⟨hl,va⟩
  have nh:nn hi:=⟨hh,vb⟩
  obtain⟨n1,_,_,_⟩:=eK nl nc
  obtain⟨n2,_,_,_⟩:=eL nh nd
  have hI:=D0 nl nh nc nd
  have S1:=li n1.1 nl.1
  have S2:=li n2.1 nh.1
  have hs1:fj (bJ lo c) lo=decide (aw (bJ lo c)=aw lo):=by unfold fj;simp[n1.2,nl.2]
  have hs2:fj (bP hi d) hi=decide (aw (bP hi d)=aw hi):=by unfold fj;simp[n2.2,nh.2]
  rw[hs1] at S1
  rw[hs2] at S2
  have R1:Hid (∀ W,Calls prog 37 #[bf lo hi] W fun e w'=>e=.returned (bU lo hi)∧Below W.heap.size W w'):=fun W=>fF lo hi W
  have R2:Hid (∀ W,Calls prog 37 #[bf c d] W fun e w'=>e=.returned (bU c d)∧Below W.heap.size W w'):=fun W=>fF c d W
  have V1:Hid (∀ W,Calls prog 38 #[bU lo hi] W fun e w'=>e=.returned (.bool true)∧Below W.heap.size W w'):=fun W=>by rw[<- hv];exact cM hl hh W
  have CJ:Hid (∀ W,Calls prog 48 #[bU lo hi,bU c d] W fun e w'=>e=.returned (bU (bJ lo c) (bP hi d))∧Below W.heap.size W w'):=fun W=>io nl nh nc nd W
  rw[<- hI]
  clear hI hs1 hs2 n1 n2 nl nh nc nd hl hh hv va vb
  unfold bf bU at *
  generalize wd (bJ lo c)=X at *
  generalize wd (bP hi d)=Y at *
  generalize (decide (aw (bJ lo c)=aw lo))=B1 at *
  generalize (decide (aw (bP hi d)=aw hi))=B2 at *
  generalize wd lo=A at *
  generalize wd hi=B at *
  have hst:∀ (p:Addr) (n:Nat) (m:Mode) (w:World),(store p (.float .f64 n) m).run prog w=stored prog w p (.float .f64 n) m:=fun p n m w=>run_store _ w p _ m rfl
  have hb2:=ar w (.cells #[.int .i64 lo,.int .i64 hi] 23) (.cells #[.bool xg,.slice xo xn xc,.int .i64 xe] 26)
  have p0:=aU w (.cells #[.int .i64 lo,.int .i64 hi] 23) (.cells #[.bool xg,.slice xo xn xc,.int .i64 xe] 26)
  have p1:=aR w (.cells #[.int .i64 lo,.int .i64 hi] 23) (.cells #[.bool xg,.slice xo xn xc,.int .i64 xe] 26)
  go_enter func15,ntmps15
  go_wp2_with fail
  generalize (w.alloc (.cells #[.int .i64 lo,.int .i64 hi] 23)).alloc (.cells #[.bool xg,.slice xo xn xc,.int .i64 xe] 26)=wx at *
  refine(R1.out _).mono ?_
  rintro _ w1 ⟨rfl,hb3⟩
  have p11:=(hb3.block _ (aGe p1).1).trans p1
  have hbi:=ae w1 (.cells #[.float .f64 A,.float .f64 B] 64)
  have gi:(w1.alloc (.cells #[.float .f64 A,.float .f64 B] 64)).heap[w1.heap.size]?=some (.cells #[.float .f64 A,.float .f64 B] 64 (0,0)):=by show(w1.heap.push _)[w1.heap.size]?=_;simp
  go_wp2_with fail
  generalize w1.alloc (.cells #[.float .f64 A,.float .f64 B] 64)=w2 at *
  refine(V1.out _).mono ?_
  rintro _ w3 ⟨rfl,hb4⟩
  have gi3:=(hb4.block _ (aGe gi).1).trans gi
  have p13:=((ab hbi hb4).block _ (aGe p11).1).trans p11
  have c0:=aa p13 0 rfl
  have c1:=aa p13 1 rfl
  have c2:=aa p13 2 rfl
  have hbw:=ab hb2 (ab hb3 (ab hbi hb4))
  go_wp2_with fail
  refine(CA.out _ hbw).mono ?_
  rintro _ w4 ⟨rfl,hb5⟩
  have gi4:=(hb5.block _ (aGe gi3).1).trans gi3
  have hba:=ae w4 (.cells #[.int .i64 c,.int .i64 d] 23)
  have ga:(w4.alloc (.cells #[.int .i64 c,.int .i64 d] 23)).heap[w4.heap.size]?=some (.cells #[.int .i64 c,.int .i64 d] 23 (0,0)):=by show(w4.heap.push _)[w4.heap.size]?=_;simp
  have gi5:=(hba.block _ (aGe gi4).1).trans gi4
  have i0:=aa gi5 0 rfl
  have i1:=aa gi5 1 rfl
  have a0:=aa ga 0 rfl
  have a1:=aa ga 1 rfl
  clear c0 c1 c2
  go_wp2_with fail
  generalize w4.alloc (.cells #[.int .i64 c,.int .i64 d] 23)=w5 at *
  have kk:=And.intro i0 (And.intro i1 (And.intro a0 a1))
  have kd:=Q4.keeps kk (ap w5).drew
  have hbw5:=ab hbw (ab hb5 hba)
  clear hst R1 V1 CA i0 i1 a0 a1 kk gi gi3 gi4 gi5 ga p0 p1 p11 p13
  have QX:∀ W,(Op.equalIn 9999 62 (.float .f64 X) (.float .f64 A)).run prog W=.ok B1 W:=fun W=>by rw[pL W 9998 62 _ X A underlying62,S1]
  have QY:∀ W,(Op.equalIn 9999 62 (.float .f64 Y) (.float .f64 B)).run prog W=.ok B2 W:=fun W=>by rw[pL W 9998 62 _ Y B underlying62,S2]
  clear S1 S2
  cases B1<;>cases B2
  all_goals
    go_region_held3 (fun W=>W.cell? ⟨w1.heap.size,0,none⟩=some (.float .f64 A)∧W.cell? ⟨w1.heap.size,1,none⟩=some (.float .f64 B)∧W.cell? ⟨w4.heap.size,0,none⟩=some (.int .i64 c)∧W.cell? ⟨w4.heap.size,1,none⟩=some (.int .i64 d))
      (first|assumption|exact kd|exact kk1|exact kk2)
      (first
        | (go_at_call 37;refine(R2.out _).mono ?_;rintro _ w6 ⟨rfl,hb6⟩;have kk1:=Q4.keeps kd hb6)
        | (go_at_call 48; refine (CJ.out _).mono ?_; rintro _ w7 ⟨rfl,hb7⟩; have kk2:=Q4.keeps kk1 hb7))
    go_wp2
  all_goals first
    | exact bodyPost_ret (v:=.tuple #[.bool false,.int .i64 0]) (by simp[results,results15,go_sem]) rfl ⟨rfl,ab hbw5.drew (ab hb6 hb7)⟩
    | exact bodyPost_ret (v:=.tuple #[.bool true,.int .i64 0]) (by simp[results,results15,go_sem]) rfl ⟨rfl,ab hbw5.drew (ab hb6 hb7)⟩
end Go.Proofs.YtkkpppgfoilgmaaGreatDoor
