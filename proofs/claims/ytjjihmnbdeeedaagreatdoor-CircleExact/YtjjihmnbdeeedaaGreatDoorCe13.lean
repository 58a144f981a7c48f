/-
  Package circle: value of three rows of exact numbers, by its contract.
-/
import Derived.Test.YtjjihmnbdeeedaaGreatDoorCe11
import Derived.Test.YtjjihmnbdeeedaaGreatDoorCe12
import Derived.Deep.CutRange
set_option linter.unusedVariables false
set_option linter.unusedSimpArgs false
namespace Go.Proofs.YtjjihmnbdeeedaaGreatDoor
open Go Go.RowKit Go.Proofs.YtjjihmnbdeeedaaGreatDoor.M
theorem cc_gs (arr:Array Value) (i j:Nat) (v:Value) (h:i<arr.size):(arr.setIfInBounds i v)[j]?=if i=j then some v else arr[j]?:=by
  rw [Array.getElem?_setIfInBounds]
  by_cases e:i=j
  . subst e
    simp [h]
  . simp [e]
structure N3 (W:World) (arr:Array Value) (V:Nat->Int) (I:Nat):Prop where
  n:arr.size=9
  e:∀ p,p<3->∃ ng so sn sc e,arr[p*3]?=some (.bool ng)∧arr[p*3+1]?=some (.slice so sn sc)∧arr[p*3+2]?=some (.int .i64 e)∧(p<I->DAn 0 W (V p) (.agg #[.bool ng,.slice so sn sc,.int .i64 e]))
theorem N3.keeps {W W':World} {arr:Array Value} {V:Nat->Int} {I:Nat} (h:N3 W arr V I) (hb:Below W.heap.size W W'):N3 W' arr V I :=
  ⟨h.n,fun p hp=>by obtain ⟨a,b,c,d,e,e0,e1,e2,hd⟩:=h.e p hp; exact ⟨a,b,c,d,e,e0,e1,e2,fun hi=>(hd hi).keeps hb⟩⟩
theorem N3.set {W:World} {arr:Array Value} {V:Nat->Int} {I:Nat} (h:N3 W arr V I) {g:Nat} {xs:Array Value} {t:TypeId} {z:Nat × Nat} (hg:W.heap[g]?=some (.cells xs t z)) (ht:t≠3) (o0 o1 o2:Nat) (x y u:Value):N3 (((W.setCell ⟨g,o0,none⟩ x).setCell ⟨g,o1,none⟩ y).setCell ⟨g,o2,none⟩ u) arr V I :=
  ⟨h.n,fun p hp=>by obtain ⟨a,b,c,d,e,e0,e1,e2,hd⟩:=h.e p hp; exact ⟨a,b,c,d,e,e0,e1,e2,fun hi=>cc_dan (hd hi) hg ht o0 o1 o2 x y u⟩⟩
theorem N3.step {W:World} {arr:Array Value} {V:Nat->Int} {i:Nat} (h:N3 W arr V i) (i3:i<3) {g:Nat} {t:TypeId} {z:Nat × Nat} (hg:W.heap[g]?=some (.cells arr t z)) (ht:t≠3) {B:Nat} {x_g:Bool} {x_o:Option Addr} {x_n x_c:Nat} {x_e:Int} (hx:DAn B W (V i) (.agg #[.bool x_g,.slice x_o x_n x_c,.int .i64 x_e])) :
    N3 (((W.setCell ⟨g,i*3,none⟩ (.bool x_g)).setCell ⟨g,i*3+1,none⟩ (.slice x_o x_n x_c)).setCell ⟨g,i*3+2,none⟩ (.int .i64 x_e)) (((arr.setIfInBounds (i*3) (.bool x_g)).setIfInBounds (i*3+1) (.slice x_o x_n x_c)).setIfInBounds (i*3+2) (.int .i64 x_e)) V (i+1):=by
  have hn:=h.n
  have gg:∀ q,(((arr.setIfInBounds (i*3) (.bool x_g)).setIfInBounds (i*3+1) (.slice x_o x_n x_c)).setIfInBounds (i*3+2) (.int .i64 x_e))[q]?=if i*3+2=q then some (.int .i64 x_e) else if i*3+1=q then some (.slice x_o x_n x_c) else if i*3=q then some (.bool x_g) else arr[q]?:=fun q=>by
    rw [cc_gs _ _ _ _ (by simp only [Array.size_setIfInBounds]; omega),cc_gs _ _ _ _ (by simp only [Array.size_setIfInBounds]; omega),cc_gs _ _ _ _ (by omega)]
  refine ⟨by simp only [Array.size_setIfInBounds]; exact hn,fun p hp=>?_⟩
  by_cases e:p=i
  . subst e
    refine ⟨x_g,x_o,x_n,x_c,x_e,?_,?_,?_,fun _=>cc_dan (hx.lower (Nat.zero_le _)) hg ht _ _ _ _ _ _⟩
    . rw [gg,if_neg (by omega),if_neg (by omega),if_pos rfl]
    . rw [gg,if_neg (by omega),if_pos rfl]
    . rw [gg,if_pos rfl]
  . obtain ⟨a,b,c,d,ee,e0,e1,e2,hd⟩:=h.e p hp
    refine ⟨a,b,c,d,ee,?_,?_,?_,fun hi=>cc_dan (hd (by omega)) hg ht _ _ _ _ _ _⟩
    . rw [gg,if_neg (by omega),if_neg (by omega),if_neg (by omega)]; exact e0
    . rw [gg,if_neg (by omega),if_neg (by omega),if_neg (by omega)]; exact e1
    . rw [gg,if_neg (by omega),if_neg (by omega),if_neg (by omega)]; exact e2
theorem N3.zero (W:World) (V:Nat->Int):N3 W #[.bool false,.slice none 0 0,.int .i64 0,.bool false,.slice none 0 0,.int .i64 0,.bool false,.slice none 0 0,.int .i64 0] V 0 :=
  ⟨rfl,fun p hp=>match p,hp with
    | 0,_=>⟨false,none,0,0,0,rfl,rfl,rfl,fun h=>absurd h (Nat.not_lt_zero _)⟩
    | 1,_=>⟨false,none,0,0,0,rfl,rfl,rfl,fun h=>absurd h (Nat.not_lt_zero _)⟩
    | 2,_=>⟨false,none,0,0,0,rfl,rfl,rfl,fun h=>absurd h (Nat.not_lt_zero _)⟩⟩
theorem bd_ex {B:Nat} {V W:Int} (h:Bd B V) (k:Bd B W) (hB:B<=1000000):∃ U,U*2^4194304=V*W∧Bd (2*B) U:=by
  obtain ⟨m,h0,h1,h2⟩:=id h
  obtain ⟨n,k0,k1,k2⟩:=id k
  have e:m*n*pw (-((2*B:Nat):Int))*2^4194304=V*W:=by
    rw [h0,k0,Int.mul_assoc (m*n),show -((2*B:Nat):Int)=-(B:Int) + -(B:Int) by omega,<- pw_mul (by omega) (by omega)]
    grind
  exact ⟨_,e,h.mul k e hB⟩
theorem bd_cross {B:Nat} {X Y Z U:Int} (h:Bd B X) (k:Bd B Y) (i:Bd B Z) (j:Bd B U) (hB:B<=100000):∃ M,M*2^4194304=X*Y-Z*U∧Bd (2*B+1) M:=by
  obtain ⟨C,c1,c2⟩:=bd_ex h k (by omega)
  obtain ⟨D,d1,d2⟩:=bd_ex i j (by omega)
  exact ⟨C-D,by rw [Int.sub_mul,c1,d1],c2.sub d2 (by omega)⟩
theorem bd_lift {B:Nat} {X Y:Int} (h:Bd B X) (k:Bd B Y) (hB:B<=100000):∃ M,M*2^4194304=X*X+Y*Y∧Bd (2*B+1) M:=by
  obtain ⟨C,c1,c2⟩:=bd_ex h h (by omega)
  obtain ⟨D,d1,d2⟩:=bd_ex k k (by omega)
  exact ⟨C+D,by rw [Int.add_mul,c1,d1],c2.add d2 (by omega)⟩
theorem three_ex {P:Nat->Int->Prop} (h:∀ i,i<3->∃ V,P i V):∃ f:Nat->Int,∀ i,i<3->P i (f i):=by
  obtain ⟨a,ha⟩:=h 0 (by decide)
  obtain ⟨b,hb⟩:=h 1 (by decide)
  obtain ⟨c,hc⟩:=h 2 (by decide)
  exact ⟨fun i=>if i=0 then a else if i=1 then b else c,fun i hi=>match i,hi with
    | 0,_=>ha
    | 1,_=>hb
    | 2,_=>hc⟩
def su (T:Nat->Int):Nat->Int
  | 0=>0
  | p+1=>su T p+T p
theorem su_bd {T:Nat->Int} {B:Nat} (h:∀ i,i<3->Bd (2*(2*B+1)) (T i)) (hB:4*B+10<=4194304):∀ p,p<=3->Bd (4*B+5) (su T p):=by
  have k:∀ p,p<=3->Bd (4*B+2+p) (su T p):=fun p=>by
    induction p with
    | zero=>exact fun _=>⟨0,by simp [su],by have:=two_pos (2*(4*B+2+0)); omega,two_pos _⟩
    | succ p ih=>exact fun hp=>(ih (by omega)).add ((h p (by omega)).up (by omega) (by omega)) (by omega)
  exact fun p hp=>(k p hp).up (by omega) (by omega)
theorem c_term {S L M T l m:Int} (t:T*S=L*M) (hl:L*S=l) (hm:M*S=m):T*S*S*S=l*m:=by
  rw [<- hl,<- hm,t]
  grind
theorem c_tot {S A B C a b c:Int} (x:A*S*S*S=a) (y:B*S*S*S=b) (z:C*S*S*S=c):(0+A+B+C)*S*S*S=a+b+c:=by
  rw [<- x,<- y,<- z]
  grind
set_option maxRecDepth 100000 in
set_option maxHeartbeats 20000000 in
theorem cval_any {F gp K:Nat} {X Y:Nat->Int} (w:World) (hE:∀ (cap:Array Value) (w:World),(callFunc F cap).run Tryz.prog w=.ok (.enter F cap) w) (CR:Hid (∀ i:Nat,i<3->∀ W,Below w.heap.size w W->Calls Tryz.prog F #[.int .i64 i,.pointer (some ⟨gp,0,none⟩)] W fun r w'=>∃ x y,r=.returned (.tuple #[x,y])∧DAn W.heap.size w' (X i) x∧DAn W.heap.size w' (Y i) y∧Below W.heap.size W w')) (bX:∀ i,i<3->Bd K (X i)) (bY:∀ i,i<3->Bd K (Y i)) (hK:K<=2000) (hT:Tab w) :
    Calls Tryz.prog 76 #[.agg #[.func (.func 97) #[] #[],.func (.func 98) #[] #[],.func (.func 99) #[] #[],.func (.func 148) #[] #[]],.func (.func F) #[] #[.pointer (some ⟨gp,0,none⟩)]] w fun r w'=>∃ v V,r=.returned v∧DAn w.heap.size w' V v∧Below w.heap.size w w'∧V*2^4194304*2^4194304*2^4194304=cdet X Y∧Bd (4*K+5) V:=by
  obtain ⟨L,hL⟩:=three_ex (P:=fun i V=>V*2^4194304=X i*X i+Y i*Y i∧Bd (2*K+1) V) (fun i hi=>bd_lift (bX i hi) (bY i hi) (by omega))
  obtain ⟨M,hM⟩:=three_ex (P:=fun i V=>V*2^4194304=X ((i+1) % 3)*Y ((i+2) % 3)-X ((i+2) % 3)*Y ((i+1) % 3)∧Bd (2*K+1) V) (fun i hi=>bd_cross (bX _ (by omega)) (bY _ (by omega)) (bX _ (by omega)) (bY _ (by omega)) (by omega))
  obtain ⟨T,hT3⟩:=three_ex (P:=fun i V=>V*2^4194304=L i*M i∧Bd (2*(2*K+1)) V) (fun i hi=>bd_ex (hL i hi).2 (hM i hi).2 (by omega))
  obtain ⟨hb0,k_k,r_k,x_k,y_k,l_k,hsz0⟩:=blks5 w (.cells #[.func (.func 97) #[] #[],.func (.func 98) #[] #[],.func (.func 99) #[] #[],.func (.func 148) #[] #[]] 116) (.cells #[.bool false,.slice none 0 0,.int .i64 0] 40) (.cells #[.bool false,.slice none 0 0,.int .i64 0,.bool false,.slice none 0 0,.int .i64 0,.bool false,.slice none 0 0,.int .i64 0] 178) (.cells #[.bool false,.slice none 0 0,.int .i64 0,.bool false,.slice none 0 0,.int .i64 0,.bool false,.slice none 0 0,.int .i64 0] 178) (.cells #[.bool false,.slice none 0 0,.int .i64 0,.bool false,.slice none 0 0,.int .i64 0,.bool false,.slice none 0 0,.int .i64 0] 178)
  clear hsz0
  go_enter Tryz.func76,Tryz.ntmps76
  go_wp2_with fail
  generalize (((((w.alloc (.cells #[.func (.func 97) #[] #[],.func (.func 98) #[] #[],.func (.func 99) #[] #[],.func (.func 148) #[] #[]] 116)).alloc (.cells #[.bool false,.slice none 0 0,.int .i64 0] 40)).alloc (.cells #[.bool false,.slice none 0 0,.int .i64 0,.bool false,.slice none 0 0,.int .i64 0,.bool false,.slice none 0 0,.int .i64 0] 178)).alloc (.cells #[.bool false,.slice none 0 0,.int .i64 0,.bool false,.slice none 0 0,.int .i64 0,.bool false,.slice none 0 0,.int .i64 0] 178)).alloc (.cells #[.bool false,.slice none 0 0,.int .i64 0,.bool false,.slice none 0 0,.int .i64 0,.bool false,.slice none 0 0,.int .i64 0] 178))=x0 at hb0 k_k r_k x_k y_k l_k ⊢
  have HX:Hid (N3 x0 #[.bool false,.slice none 0 0,.int .i64 0,.bool false,.slice none 0 0,.int .i64 0,.bool false,.slice none 0 0,.int .i64 0] X 0):=N3.zero x0 X
  have HY:Hid (N3 x0 #[.bool false,.slice none 0 0,.int .i64 0,.bool false,.slice none 0 0,.int .i64 0,.bool false,.slice none 0 0,.int .i64 0] Y 0):=N3.zero x0 Y
  have HL:Hid (N3 x0 #[.bool false,.slice none 0 0,.int .i64 0,.bool false,.slice none 0 0,.int .i64 0,.bool false,.slice none 0 0,.int .i64 0] L 0):=N3.zero x0 L
  generalize (#[.bool false,.slice none 0 0,.int .i64 0,.bool false,.slice none 0 0,.int .i64 0,.bool false,.slice none 0 0,.int .i64 0]:Array Value)=z9 at x_k y_k l_k HX HY HL
  go_loopw [14] (fun i wr=>∃ p:Nat,p<=3∧i=.int .i64 p∧∃ ax ay al,Hid (N3 wr ax X p)∧Hid (N3 wr ay Y p)∧Hid (N3 wr al L p)∧wr.heap[w.heap.size]?=some (.cells #[.func (.func 97) #[] #[],.func (.func 98) #[] #[],.func (.func 99) #[] #[],.func (.func 148) #[] #[]] 116 (0,0))∧wr.heap[w.heap.size+1]?=some (.cells #[.bool false,.slice none 0 0,.int .i64 0] 40 (0,0))∧wr.heap[w.heap.size+1+1]?=some (.cells ax 178 (0,0))∧wr.heap[w.heap.size+1+1+1]?=some (.cells ay 178 (0,0))∧wr.heap[w.heap.size+1+1+1+1]?=some (.cells al 178 (0,0))∧Below w.heap.size w wr) (fun i _=>3-(intOf i).toNat)
  case atStart=>exact ⟨0,by omega,rfl,z9,z9,z9,HX,HY,HL,k_k,r_k,x_k,y_k,l_k,hb0⟩
  case round=>
    clear k_k r_k x_k y_k l_k hb0 HX HY HL
    obtain ⟨p,hp,rfl,ax,ay,al,HX,HY,HL,k_k,r_k,x_k,y_k,l_k,hbw⟩:=hrel
    by_cases p3:p<3
    . have p3':(p:Int)<3:=by omega
      have p0':(0:Int)<=(p:Int):=by omega
      obtain ⟨a_g,a_o,a_n,a_c,a_e,a0,a1,a2,aD⟩:=HX.out.e p p3
      obtain ⟨b_g,b_o,b_n,b_c,b_e,b0,b1,b2,bD⟩:=HY.out.e p p3
      clear aD bD
      go_wp2_with fail
      refine (CR.out p p3 _ hbw).mono ?_
      rintro _ y1 ⟨vx,vy,rfl,dx,dy,hw1⟩
      obtain ⟨x_g,x_o,x_n,x_c,x_e,rfl⟩:=dx.shape
      obtain ⟨y_g,y_o,y_n,y_c,y_e,rfl⟩:=dy.shape
      replace k_k:=blk_on hw1 k_k
      replace r_k:=blk_on hw1 r_k
      replace x_k:=blk_on hw1 x_k
      replace y_k:=blk_on hw1 y_k
      replace l_k:=blk_on hw1 l_k
      replace hbw:=bel_trans hbw hw1
      have nxy:w.heap.size+1+1≠w.heap.size+1+1+1:=by omega
      have nyx:w.heap.size+1+1+1≠w.heap.size+1+1:=by omega
      have ea0:=blkC x_k _ a0
      have ea1:=blkC x_k _ a1
      have ea2:=blkC x_k _ a2
      have za0:=blkF x_k (p*3)
      have za1:=blkF x_k (p*3+1)
      have za2:=blkF x_k (p*3+2)
      have y_k1:=cc_n3 y_k nyx (p*3) (p*3+1) (p*3+2) (.bool x_g) (.slice x_o x_n x_c) (.int .i64 x_e)
      have eb0:=blkC y_k1 _ b0
      have eb1:=blkC y_k1 _ b1
      have eb2:=blkC y_k1 _ b2
      have zb0:=blkF y_k1 (p*3)
      have zb1:=blkF y_k1 (p*3+1)
      have zb2:=blkF y_k1 (p*3+2)
      go_wp2_with fail
      clear ea0 ea1 ea2 eb0 eb1 eb2 za0 za1 za2 zb0 zb1 zb2
      have x_k2:=cc_n3 (heap_set (heap_set (heap_set x_k (p*3) (.bool x_g)) (p*3+1) (.slice x_o x_n x_c)) (p*3+2) (.int .i64 x_e)) nxy (p*3) (p*3+1) (p*3+2) (.bool y_g) (.slice y_o y_n y_c) (.int .i64 y_e)
      have y_k2:=heap_set (heap_set (heap_set y_k1 (p*3) (.bool y_g)) (p*3+1) (.slice y_o y_n y_c)) (p*3+2) (.int .i64 y_e)
      have k_k2:=cc_n3 (cc_n3 k_k (show w.heap.size≠w.heap.size+1+1 by omega) (p*3) (p*3+1) (p*3+2) (.bool x_g) (.slice x_o x_n x_c) (.int .i64 x_e)) (show w.heap.size≠w.heap.size+1+1+1 by omega) (p*3) (p*3+1) (p*3+2) (.bool y_g) (.slice y_o y_n y_c) (.int .i64 y_e)
      have r_k2:=cc_n3 (cc_n3 r_k (show w.heap.size+1≠w.heap.size+1+1 by omega) (p*3) (p*3+1) (p*3+2) (.bool x_g) (.slice x_o x_n x_c) (.int .i64 x_e)) (show w.heap.size+1≠w.heap.size+1+1+1 by omega) (p*3) (p*3+1) (p*3+2) (.bool y_g) (.slice y_o y_n y_c) (.int .i64 y_e)
      have l_k2:=cc_n3 (cc_n3 l_k (show w.heap.size+1+1+1+1≠w.heap.size+1+1 by omega) (p*3) (p*3+1) (p*3+2) (.bool x_g) (.slice x_o x_n x_c) (.int .i64 x_e)) (show w.heap.size+1+1+1+1≠w.heap.size+1+1+1 by omega) (p*3) (p*3+1) (p*3+2) (.bool y_g) (.slice y_o y_n y_c) (.int .i64 y_e)
      have HX2:Hid (N3 _ _ X (p+1)):=((HX.out.keeps hw1).step p3 x_k (by decide) dx).set y_k1 (by decide) (p*3) (p*3+1) (p*3+2) (.bool y_g) (.slice y_o y_n y_c) (.int .i64 y_e)
      have HY2:Hid (N3 _ _ Y (p+1)):=((HY.out.keeps hw1).set x_k (by decide) (p*3) (p*3+1) (p*3+2) (.bool x_g) (.slice x_o x_n x_c) (.int .i64 x_e)).step p3 y_k1 (by decide) (cc_dan dy x_k (by decide) _ _ _ _ _ _)
      have HL2:Hid (N3 _ al L p):=((HL.out.keeps hw1).set x_k (by decide) (p*3) (p*3+1) (p*3+2) (.bool x_g) (.slice x_o x_n x_c) (.int .i64 x_e)).set y_k1 (by decide) (p*3) (p*3+1) (p*3+2) (.bool y_g) (.slice y_o y_n y_c) (.int .i64 y_e)
      have hb2:=cc_s3 (cc_s3 hbw (show w.heap.size<=w.heap.size+1+1 by omega) (p*3) (p*3+1) (p*3+2) (.bool x_g) (.slice x_o x_n x_c) (.int .i64 x_e)) (show w.heap.size<=w.heap.size+1+1+1 by omega) (p*3) (p*3+1) (p*3+2) (.bool y_g) (.slice y_o y_n y_c) (.int .i64 y_e)
      clear dx dy hw1 y_k1 HX HY HL k_k r_k x_k y_k l_k hbw
      generalize ((((((y1.setCell ⟨w.heap.size+1+1,p*3,none⟩ (.bool x_g)).setCell ⟨w.heap.size+1+1,p*3+1,none⟩ (.slice x_o x_n x_c)).setCell ⟨w.heap.size+1+1,p*3+2,none⟩ (.int .i64 x_e)).setCell ⟨w.heap.size+1+1+1,p*3,none⟩ (.bool y_g)).setCell ⟨w.heap.size+1+1+1,p*3+1,none⟩ (.slice y_o y_n y_c)).setCell ⟨w.heap.size+1+1+1,p*3+2,none⟩ (.int .i64 y_e))=x6 at x_k2 y_k2 k_k2 r_k2 l_k2 HX2 HY2 HL2 hb2 ⊢
      generalize (((ax.setIfInBounds (p*3) (.bool x_g)).setIfInBounds (p*3+1) (.slice x_o x_n x_c)).setIfInBounds (p*3+2) (.int .i64 x_e))=bx at x_k2 HX2
      generalize (((ay.setIfInBounds (p*3) (.bool y_g)).setIfInBounds (p*3+1) (.slice y_o y_n y_c)).setIfInBounds (p*3+2) (.int .i64 y_e))=by' at y_k2 HY2
      obtain ⟨u_g,u_o,u_n,u_c,u_e,u0,u1,u2,uD⟩:=HX2.out.e p p3
      obtain ⟨v_g,v_o,v_n,v_c,v_e,v0,v1,v2,vD⟩:=HY2.out.e p p3
      obtain ⟨q_g,q_o,q_n,q_c,q_e,q0,q1,q2,qD⟩:=HL2.out.e p p3
      clear qD
      replace uD:=uD (Nat.lt_succ_self p)
      replace vD:=vD (Nat.lt_succ_self p)
      have k_k:=k_k2
      have x_k:=x_k2
      have y_k:=y_k2
      have l_k:=l_k2
      have hlt:w.heap.size+1+1+1+1<=x6.heap.size:=Nat.le_of_lt (Array.getElem?_eq_some_iff.1 l_k).1
      have KK:∀ W,Below (w.heap.size+1+1+1+1) x6 W->W.cell? ⟨w.heap.size,0,none⟩=some (.func (.func 97) #[] #[])∧W.cell? ⟨w.heap.size,3,none⟩=some (.func (.func 148) #[] #[])∧W.cell? ⟨w.heap.size+1+1,p*3,none⟩=some (.bool u_g)∧W.cell? ⟨w.heap.size+1+1,p*3+1,none⟩=some (.slice u_o u_n u_c)∧W.cell? ⟨w.heap.size+1+1,p*3+2,none⟩=some (.int .i64 u_e)∧W.cell? ⟨w.heap.size+1+1+1,p*3,none⟩=some (.bool v_g)∧W.cell? ⟨w.heap.size+1+1+1,p*3+1,none⟩=some (.slice v_o v_n v_c)∧W.cell? ⟨w.heap.size+1+1+1,p*3+2,none⟩=some (.int .i64 v_e):=fun W hb=>⟨cc_b (blkC k_k 0 rfl) hb (show w.heap.size<w.heap.size+1+1+1+1 by omega),cc_b (blkC k_k 3 rfl) hb (show w.heap.size<w.heap.size+1+1+1+1 by omega),cc_b (blkC x_k _ u0) hb (show w.heap.size+1+1<w.heap.size+1+1+1+1 by omega),cc_b (blkC x_k _ u1) hb (show w.heap.size+1+1<w.heap.size+1+1+1+1 by omega),cc_b (blkC x_k _ u2) hb (show w.heap.size+1+1<w.heap.size+1+1+1+1 by omega),cc_b (blkC y_k _ v0) hb (show w.heap.size+1+1+1<w.heap.size+1+1+1+1 by omega),cc_b (blkC y_k _ v1) hb (show w.heap.size+1+1+1<w.heap.size+1+1+1+1 by omega),cc_b (blkC y_k _ v2) hb (show w.heap.size+1+1+1<w.heap.size+1+1+1+1 by omega)⟩
      have hC0:=(bel_refl x6).drew
      have hl:=hL p p3
      have bx:=bX p p3
      have by2:=bY p p3
      go_region_held3 (fun W=>W.cell? ⟨w.heap.size,0,none⟩=some (.func (.func 97) #[] #[])∧W.cell? ⟨w.heap.size,3,none⟩=some (.func (.func 148) #[] #[])∧W.cell? ⟨w.heap.size+1+1,p*3,none⟩=some (.bool u_g)∧W.cell? ⟨w.heap.size+1+1,p*3+1,none⟩=some (.slice u_o u_n u_c)∧W.cell? ⟨w.heap.size+1+1,p*3+2,none⟩=some (.int .i64 u_e)∧W.cell? ⟨w.heap.size+1+1+1,p*3,none⟩=some (.bool v_g)∧W.cell? ⟨w.heap.size+1+1+1,p*3+1,none⟩=some (.slice v_o v_n v_c)∧W.cell? ⟨w.heap.size+1+1+1,p*3+2,none⟩=some (.int .i64 v_e))
        (with_reducible first | assumption | exact KK _ (hC0.mono hlt) | exact KK _ (hC1.mono hlt) | exact KK _ (hC2.mono hlt) | exact KK _ (hC3.mono hlt) | exact KK _ (hC4.mono hlt) | exact KK _ (hC5.mono hlt) | exact KK _ (hC6.mono hlt) | exact KK _ (cc_s3 (hC6.mono hlt) (Nat.le_refl _) _ _ _ _ _ _) | fail)
        (first
          | (go_at_call 149; have _t:=hs5; refine (csure_any _ _ _ _ _ _ _).mono ?_; rintro _ y6 ⟨rfl,hs6⟩; have hC6:=bel_trans hC5 hs6; have m_D:=d5.dan.keeps hs6; have rk:=blk_on hC6 l_k; have eq0:=blkC rk _ q0; have eq1:=blkC rk _ q1; have eq2:=blkC rk _ q2; have zq0:=blkF rk (p*3); have zq1:=blkF rk (p*3+1); have zq2:=blkF rk (p*3+2))
          | (go_at_call 97; have _t:=hs4; refine (add_B c_D4 d_D B1 B3 (by omega) (hT.keeps (bel_trans hb2 hC4))).mono ?_; rintro _ y5 ⟨v,rfl,d5⟩; obtain ⟨m_g,m_o,m_n,m_c,m_e,rfl⟩:=dans_shape d5; have hs5:=d5.below; have hC5:=bel_trans hC4 hs5)
          | (go_at_call 149; have _t:=hs3; refine (csure_any _ _ _ _ _ _ _).mono ?_; rintro _ y4 ⟨rfl,hs4⟩; have hC4:=bel_trans hC3 hs4; have d_D:=d3.num.keeps hs4; have c_D4:=c_D.keeps (bel_trans d3.below hs4))
          | (go_at_call 148; have _t:=hs2; refine (csq_any (vD.num.keeps hC2) by2 (by omega) (hT.keeps (bel_trans hb2 hC2))).mono ?_; rintro _ y3 ⟨v,C2,rfl,d3,E3,B3⟩; obtain ⟨d_g,d_o,d_n,d_c,d_e,rfl⟩:=dans_shape d3; have hs3:=d3.below; have hC3:=bel_trans hC2 hs3)
          | (go_at_call 149; have _t:=hs1; refine (csure_any _ _ _ _ _ _ _).mono ?_; rintro _ y2 ⟨rfl,hs2⟩; have hC2:=bel_trans hC1 hs2; have c_D:=d1.num.keeps hs2)
          | (go_at_call 148; refine (csq_any (uD.num.keeps hC0) bx (by omega) (hT.keeps (bel_trans hb2 hC0))).mono ?_; rintro _ y1 ⟨v,C1,rfl,d1,E1,B1⟩; obtain ⟨c_g,c_o,c_n,c_c,c_e,rfl⟩:=dans_shape d1; have hs1:=d1.below; have hC1:=bel_trans hC0 hs1))
      have eL:C1+C2=L p:=scale_inj (by rw [Int.add_mul,E1,E3]; exact hl.1.symm)
      rw [eL] at m_D
      have HX3:Hid (N3 _ _ X (p+1)):=(HX2.out.keeps hC6).set rk (by decide) (p*3) (p*3+1) (p*3+2) (.bool m_g) (.slice m_o m_n m_c) (.int .i64 m_e)
      have HY3:Hid (N3 _ _ Y (p+1)):=(HY2.out.keeps hC6).set rk (by decide) (p*3) (p*3+1) (p*3+2) (.bool m_g) (.slice m_o m_n m_c) (.int .i64 m_e)
      have HL3:Hid (N3 _ _ L (p+1)):=(HL2.out.keeps hC6).step p3 rk (by decide) m_D
      have k_k3:=cc_n3 (blk_on hC6 k_k2) (show w.heap.size≠w.heap.size+1+1+1+1 by omega) (p*3) (p*3+1) (p*3+2) (.bool m_g) (.slice m_o m_n m_c) (.int .i64 m_e)
      have r_k3:=cc_n3 (blk_on hC6 r_k2) (show w.heap.size+1≠w.heap.size+1+1+1+1 by omega) (p*3) (p*3+1) (p*3+2) (.bool m_g) (.slice m_o m_n m_c) (.int .i64 m_e)
      have x_k3:=cc_n3 (blk_on hC6 x_k2) (show w.heap.size+1+1≠w.heap.size+1+1+1+1 by omega) (p*3) (p*3+1) (p*3+2) (.bool m_g) (.slice m_o m_n m_c) (.int .i64 m_e)
      have y_k3:=cc_n3 (blk_on hC6 y_k2) (show w.heap.size+1+1+1≠w.heap.size+1+1+1+1 by omega) (p*3) (p*3+1) (p*3+2) (.bool m_g) (.slice m_o m_n m_c) (.int .i64 m_e)
      have l_k3:=heap_set (heap_set (heap_set rk (p*3) (.bool m_g)) (p*3+1) (.slice m_o m_n m_c)) (p*3+2) (.int .i64 m_e)
      have hb3:=cc_s3 (bel_trans hb2 hC6) (show w.heap.size<=w.heap.size+1+1+1+1 by omega) (p*3) (p*3+1) (p*3+2) (.bool m_g) (.slice m_o m_n m_c) (.int .i64 m_e)
      clear eq0 eq1 eq2 zq0 zq1 zq2
      go_wp2_with fail
      go_roundw
      case rel=>exact ⟨p+1,by omega,by go_num,_,_,_,HX3,HY3,HL3,k_k3,r_k3,x_k3,y_k3,l_k3,hb3⟩
      case measure=>simp [intOf]; omega
    . obtain rfl:p=3:=by omega
      have hlw:=(Array.getElem?_eq_some_iff.1 l_k).1
      go_wp2_with fail
      replace k_k:=heap_past (.cells #[.bool false,.slice none 0 0,.int .i64 0] 40) k_k
      replace r_k:=heap_past (.cells #[.bool false,.slice none 0 0,.int .i64 0] 40) r_k
      replace x_k:=heap_past (.cells #[.bool false,.slice none 0 0,.int .i64 0] 40) x_k
      replace y_k:=heap_past (.cells #[.bool false,.slice none 0 0,.int .i64 0] 40) y_k
      replace l_k:=heap_past (.cells #[.bool false,.slice none 0 0,.int .i64 0] 40) l_k
      have s_k:=heap_a1 wr (.cells #[.bool false,.slice none 0 0,.int .i64 0] 40)
      have hb1:=bel_alloc wr (.cells #[.bool false,.slice none 0 0,.int .i64 0] 40)
      have HX1:=hideIt (HX.out.keeps hb1)
      have HY1:=hideIt (HY.out.keeps hb1)
      have HL1:=hideIt (HL.out.keeps hb1)
      replace hbw:=bel_trans hbw hb1
      clear HX HY HL hb1
      generalize wr.alloc (.cells #[.bool false,.slice none 0 0,.int .i64 0] 40)=x7 at k_k r_k x_k y_k l_k s_k HX1 HY1 HL1 hbw ⊢
      generalize hgs:wr.heap.size=gs at hlw s_k ⊢
      skip
      have HS1:Hid (DAn w.heap.size x7 (su T 0) (.agg #[.bool false,.slice none 0 0,.int .i64 0])):=(DAns.zero hbw).dan
      go_loopw [54] (fun i wr=>∃ p:Nat,p<=3∧i=.int .i64 p∧∃ s_g s_o s_n s_c s_e,wr.heap[gs]?=some (.cells #[.bool s_g,.slice s_o s_n s_c,.int .i64 s_e] 40 (0,0))∧Hid (DAn w.heap.size wr (su T p) (.agg #[.bool s_g,.slice s_o s_n s_c,.int .i64 s_e]))∧Hid (N3 wr ax X 3)∧Hid (N3 wr ay Y 3)∧Hid (N3 wr al L 3)∧wr.heap[w.heap.size]?=some (.cells #[.func (.func 97) #[] #[],.func (.func 98) #[] #[],.func (.func 99) #[] #[],.func (.func 148) #[] #[]] 116 (0,0))∧wr.heap[w.heap.size+1]?=some (.cells #[.bool false,.slice none 0 0,.int .i64 0] 40 (0,0))∧wr.heap[w.heap.size+1+1]?=some (.cells ax 178 (0,0))∧wr.heap[w.heap.size+1+1+1]?=some (.cells ay 178 (0,0))∧wr.heap[w.heap.size+1+1+1+1]?=some (.cells al 178 (0,0))∧Below w.heap.size w wr) (fun i _=>3-(intOf i).toNat)
      case atStart=>exact ⟨0,by omega,rfl,false,none,0,0,0,s_k,HS1,HX1,HY1,HL1,k_k,r_k,x_k,y_k,l_k,hbw⟩
      case round=>
        clear k_k r_k x_k y_k l_k s_k hbw HX1 HY1 HL1 HS1
        obtain ⟨p,hp,rfl,s_g,s_o,s_n,s_c,s_e,s_k,HS,HX,HY,HL,k_k,r_k,x_k,y_k,l_k,hbw⟩:=hrel
        have h4:p=0∨p=1∨p=2∨p=3:=by omega
        rcases h4 with rfl | rfl | rfl | rfl
        . have hgl:=(Array.getElem?_eq_some_iff.1 s_k).1
          obtain ⟨xj_g,xj_o,xj_n,xj_c,xj_e,xj0,xj1,xj2,xjD⟩:=HX.out.e 1 (by decide)
          have xjN:=(xjD (by decide)).num
          obtain ⟨xl_g,xl_o,xl_n,xl_c,xl_e,xl0,xl1,xl2,xlD⟩:=HX.out.e 2 (by decide)
          have xlN:=(xlD (by decide)).num
          obtain ⟨yj_g,yj_o,yj_n,yj_c,yj_e,yj0,yj1,yj2,yjD⟩:=HY.out.e 1 (by decide)
          have yjN:=(yjD (by decide)).num
          obtain ⟨yl_g,yl_o,yl_n,yl_c,yl_e,yl0,yl1,yl2,ylD⟩:=HY.out.e 2 (by decide)
          have ylN:=(ylD (by decide)).num
          have TT:=hT.keeps hbw
          have bj:=bX 1 (by decide)
          have bl:=bX 2 (by decide)
          have cj:=bY 1 (by decide)
          have cl:=bY 2 (by decide)
          have hm:=hM 0 (by decide)
          go_upto_region 13 with (fail)
          have KK:∀ W,Below wr.heap.size wr W->W.cell? ⟨w.heap.size,1,none⟩=some (.func (.func 98) #[] #[])∧W.cell? ⟨w.heap.size,2,none⟩=some (.func (.func 99) #[] #[])∧W.cell? ⟨w.heap.size+1+1,3,none⟩=some (.bool xj_g)∧W.cell? ⟨w.heap.size+1+1,4,none⟩=some (.slice xj_o xj_n xj_c)∧W.cell? ⟨w.heap.size+1+1,5,none⟩=some (.int .i64 xj_e)∧W.cell? ⟨w.heap.size+1+1,6,none⟩=some (.bool xl_g)∧W.cell? ⟨w.heap.size+1+1,7,none⟩=some (.slice xl_o xl_n xl_c)∧W.cell? ⟨w.heap.size+1+1,8,none⟩=some (.int .i64 xl_e)∧W.cell? ⟨w.heap.size+1+1+1,3,none⟩=some (.bool yj_g)∧W.cell? ⟨w.heap.size+1+1+1,4,none⟩=some (.slice yj_o yj_n yj_c)∧W.cell? ⟨w.heap.size+1+1+1,5,none⟩=some (.int .i64 yj_e)∧W.cell? ⟨w.heap.size+1+1+1,6,none⟩=some (.bool yl_g)∧W.cell? ⟨w.heap.size+1+1+1,7,none⟩=some (.slice yl_o yl_n yl_c)∧W.cell? ⟨w.heap.size+1+1+1,8,none⟩=some (.int .i64 yl_e):=fun W hb=>⟨q_cell (blkC k_k 1 rfl) hb,q_cell (blkC k_k 2 rfl) hb,q_cell (blkC x_k 3 xj0) hb,q_cell (blkC x_k 4 xj1) hb,q_cell (blkC x_k 5 xj2) hb,q_cell (blkC x_k 6 xl0) hb,q_cell (blkC x_k 7 xl1) hb,q_cell (blkC x_k 8 xl2) hb,q_cell (blkC y_k 3 yj0) hb,q_cell (blkC y_k 4 yj1) hb,q_cell (blkC y_k 5 yj2) hb,q_cell (blkC y_k 6 yl0) hb,q_cell (blkC y_k 7 yl1) hb,q_cell (blkC y_k 8 yl2) hb⟩
          have hC13_0:=(bel_refl wr).drew
          have hT13_0:Below w.heap.size w wr.drew:=hbw.drew
          have xjN_13_0:=xjN.keeps (bel_refl wr).drew
          have xlN_13_0:=xlN.keeps (bel_refl wr).drew
          have yjN_13_0:=yjN.keeps (bel_refl wr).drew
          have ylN_13_0:=ylN.keeps (bel_refl wr).drew
          have TT_13_0:=TT.keeps (bel_refl wr).drew
          have hs13_0:=(bel_refl wr).drew
          go_cut [13,54] from 54 to 110 (fun sm s54 wx=>s54=.int .i64 0∧∃ g m_g m_o m_n m_c m_e,sm=.pointer (some ⟨g,0,none⟩)∧wr.heap.size<=g∧Below wr.heap.size wr wx∧wx.heap[g]?=some (.cells #[.bool m_g,.slice m_o m_n m_c,.int .i64 m_e] 40 (0,0))∧DAn w.heap.size wx (M 0) (.agg #[.bool m_g,.slice m_o m_n m_c,.int .i64 m_e]))
          case first=>
            clear HX HY HL HS CR hE hT bX bY hL hM hT3 s_k r_k l_k
            go_region_held3 (fun W=>W.cell? ⟨w.heap.size,1,none⟩=some (.func (.func 98) #[] #[])∧W.cell? ⟨w.heap.size,2,none⟩=some (.func (.func 99) #[] #[])∧W.cell? ⟨w.heap.size+1+1,3,none⟩=some (.bool xj_g)∧W.cell? ⟨w.heap.size+1+1,4,none⟩=some (.slice xj_o xj_n xj_c)∧W.cell? ⟨w.heap.size+1+1,5,none⟩=some (.int .i64 xj_e)∧W.cell? ⟨w.heap.size+1+1,6,none⟩=some (.bool xl_g)∧W.cell? ⟨w.heap.size+1+1,7,none⟩=some (.slice xl_o xl_n xl_c)∧W.cell? ⟨w.heap.size+1+1,8,none⟩=some (.int .i64 xl_e)∧W.cell? ⟨w.heap.size+1+1+1,3,none⟩=some (.bool yj_g)∧W.cell? ⟨w.heap.size+1+1+1,4,none⟩=some (.slice yj_o yj_n yj_c)∧W.cell? ⟨w.heap.size+1+1+1,5,none⟩=some (.int .i64 yj_e)∧W.cell? ⟨w.heap.size+1+1+1,6,none⟩=some (.bool yl_g)∧W.cell? ⟨w.heap.size+1+1+1,7,none⟩=some (.slice yl_o yl_n yl_c)∧W.cell? ⟨w.heap.size+1+1+1,8,none⟩=some (.int .i64 yl_e))
              (with_reducible first | assumption | (refine KK _ ?_; first | assumption | exact (bel_alloc _ _).drew | (refine bel_trans ?_ (bel_alloc _ _); assumption) | (refine bel_set3' ?_ (by first | exact Nat.le_refl _ | exact hC13_1.size | exact hC13_2.size | exact hC13_3.size | exact hC13_4.size | exact hC13_5.size) _ _ _; assumption)) | fail)
              (first
                | (go_at_call 149; have _t:=hs13_5; refine (csure_any _ _ _ _ _ _ _).mono ?_; rintro _ y13_6 ⟨rfl,hq13_6⟩; have hs13_6:Below y13_5.heap.size y13_5 y13_6:=(by with_reducible first | exact hq13_6 | exact bel_trans (bel_alloc _ _) hq13_6 | exact bel_trans (bel_dr _ _) hq13_6); have hT13_6:=bel_trans hT13_5 hs13_6; have hC13_6:=bel_trans hC13_5 hs13_6; have xjN_13_6:=xjN_13_5.keeps hs13_6; have xlN_13_6:=xlN_13_5.keeps hs13_6; have yjN_13_6:=yjN_13_5.keeps hs13_6; have ylN_13_6:=ylN_13_5.keeps hs13_6; have TT_13_6:=TT_13_5.keeps hs13_6; have m_A:=ne13.keeps hs13_6; with_reducible first | (have qz13:y13_6.heap[wr.heap.size]?=some (.cells #[.bool false,.slice none 0 0,.int .i64 0] 40 (0,0)):=blk_on hq13_6 (blk_on hq13_5 (blk_on hq13_4 (blk_on hq13_3 (blk_on hq13_2 (blk_on hq13_1 (heap_a1d wr (.cells #[.bool false,.slice none 0 0,.int .i64 0] 40))))))); have cz13_0:=blkC qz13 0 rfl; have zz13_0:=blkF qz13 0; have cz13_1:=blkC qz13 1 rfl; have zz13_1:=blkF qz13 1; have cz13_2:=blkC qz13 2 rfl; have zz13_2:=blkF qz13 2) | (have qz13:y13_6.heap[y13_1.heap.size]?=some (.cells #[.bool false,.slice none 0 0,.int .i64 0] 40 (0,0)):=blk_on hq13_6 (blk_on hq13_5 (blk_on hq13_4 (blk_on hq13_3 (blk_on hq13_2 (heap_a1 _ _))))); have cz13_0:=blkC qz13 0 rfl; have zz13_0:=blkF qz13 0; have cz13_1:=blkC qz13 1 rfl; have zz13_1:=blkF qz13 1; have cz13_2:=blkC qz13 2 rfl; have zz13_2:=blkF qz13 2) | (have qz13:y13_6.heap[y13_2.heap.size]?=some (.cells #[.bool false,.slice none 0 0,.int .i64 0] 40 (0,0)):=blk_on hq13_6 (blk_on hq13_5 (blk_on hq13_4 (blk_on hq13_3 (heap_a1 _ _)))); have cz13_0:=blkC qz13 0 rfl; have zz13_0:=blkF qz13 0; have cz13_1:=blkC qz13 1 rfl; have zz13_1:=blkF qz13 1; have cz13_2:=blkC qz13 2 rfl; have zz13_2:=blkF qz13 2) | (have qz13:y13_6.heap[y13_3.heap.size]?=some (.cells #[.bool false,.slice none 0 0,.int .i64 0] 40 (0,0)):=blk_on hq13_6 (blk_on hq13_5 (blk_on hq13_4 (heap_a1 _ _))); have cz13_0:=blkC qz13 0 rfl; have zz13_0:=blkF qz13 0; have cz13_1:=blkC qz13 1 rfl; have zz13_1:=blkF qz13 1; have cz13_2:=blkC qz13 2 rfl; have zz13_2:=blkF qz13 2) | (have qz13:y13_6.heap[y13_4.heap.size]?=some (.cells #[.bool false,.slice none 0 0,.int .i64 0] 40 (0,0)):=blk_on hq13_6 (blk_on hq13_5 (heap_a1 _ _)); have cz13_0:=blkC qz13 0 rfl; have zz13_0:=blkF qz13 0; have cz13_1:=blkC qz13 1 rfl; have zz13_1:=blkF qz13 1; have cz13_2:=blkC qz13 2 rfl; have zz13_2:=blkF qz13 2) | (have qz13:y13_6.heap[y13_5.heap.size]?=some (.cells #[.bool false,.slice none 0 0,.int .i64 0] 40 (0,0)):=blk_on hq13_6 (heap_a1 _ _); have cz13_0:=blkC qz13 0 rfl; have zz13_0:=blkF qz13 0; have cz13_1:=blkC qz13 1 rfl; have zz13_1:=blkF qz13 1; have cz13_2:=blkC qz13 2 rfl; have zz13_2:=blkF qz13 2) | skip)
                | (go_at_call 98; have _t:=hs13_4; refine (sub_B (np13.keeps (by with_reducible first | exact bel_refl _ | exact bel_alloc _ _ | exact bel_dr _ _)) (nq13.keeps (by with_reducible first | exact bel_refl _ | exact bel_alloc _ _ | exact bel_dr _ _)) B1 B2 (by omega) (TT_13_4.keeps (by with_reducible first | exact bel_refl _ | exact bel_alloc _ _ | exact bel_dr _ _))).mono ?_; rintro _ y13_5 ⟨v,rfl,nc13⟩; obtain ⟨m_g,m_o,m_n,m_c,m_e,rfl⟩:=dans_shape nc13; have hq13_5:=nc13.below; have ne13:=nc13.dan.lower (Nat.le_trans hT13_4.size (by with_reducible first | exact Nat.le_refl _ | exact (bel_alloc _ _).size | exact (bel_dr _ _).size)); have hs13_5:Below y13_4.heap.size y13_4 y13_5:=(by with_reducible first | exact hq13_5 | exact bel_trans (bel_alloc _ _) hq13_5 | exact bel_trans (bel_dr _ _) hq13_5); have hT13_5:=bel_trans hT13_4 hs13_5; have hC13_5:=bel_trans hC13_4 hs13_5; have xjN_13_5:=xjN_13_4.keeps hs13_5; have xlN_13_5:=xlN_13_4.keeps hs13_5; have yjN_13_5:=yjN_13_4.keeps hs13_5; have ylN_13_5:=ylN_13_4.keeps hs13_5; have TT_13_5:=TT_13_4.keeps hs13_5)
                | (go_at_call 149; have _t:=hs13_3; refine (csure_any _ _ _ _ _ _ _).mono ?_; rintro _ y13_4 ⟨rfl,hq13_4⟩; have hs13_4:Below y13_3.heap.size y13_3 y13_4:=(by with_reducible first | exact hq13_4 | exact bel_trans (bel_alloc _ _) hq13_4 | exact bel_trans (bel_dr _ _) hq13_4); have hT13_4:=bel_trans hT13_3 hs13_4; have hC13_4:=bel_trans hC13_3 hs13_4; have xjN_13_4:=xjN_13_3.keeps hs13_4; have xlN_13_4:=xlN_13_3.keeps hs13_4; have yjN_13_4:=yjN_13_3.keeps hs13_4; have ylN_13_4:=ylN_13_3.keeps hs13_4; have TT_13_4:=TT_13_3.keeps hs13_4; have nq13:=nb13.num.keeps hs13_4; have np13:=np13.keeps hs13_4)
                | (go_at_call 99; have _t:=hs13_2; refine (mul_B (xlN_13_2.keeps (by with_reducible first | exact bel_refl _ | exact bel_alloc _ _ | exact bel_dr _ _)) (yjN_13_2.keeps (by with_reducible first | exact bel_refl _ | exact bel_alloc _ _ | exact bel_dr _ _)) bl cj (by omega) (TT_13_2.keeps (by with_reducible first | exact bel_refl _ | exact bel_alloc _ _ | exact bel_dr _ _))).mono ?_; rintro _ y13_3 ⟨v,C2,rfl,nb13,E2,B2⟩; obtain ⟨b_g,b_o,b_n,b_c,b_e,rfl⟩:=dans_shape nb13; have hq13_3:=nb13.below; have hs13_3:Below y13_2.heap.size y13_2 y13_3:=(by with_reducible first | exact hq13_3 | exact bel_trans (bel_alloc _ _) hq13_3 | exact bel_trans (bel_dr _ _) hq13_3); have hT13_3:=bel_trans hT13_2 hs13_3; have hC13_3:=bel_trans hC13_2 hs13_3; have xjN_13_3:=xjN_13_2.keeps hs13_3; have xlN_13_3:=xlN_13_2.keeps hs13_3; have yjN_13_3:=yjN_13_2.keeps hs13_3; have ylN_13_3:=ylN_13_2.keeps hs13_3; have TT_13_3:=TT_13_2.keeps hs13_3; have np13:=np13.keeps hs13_3)
                | (go_at_call 149; have _t:=hs13_1; refine (csure_any _ _ _ _ _ _ _).mono ?_; rintro _ y13_2 ⟨rfl,hq13_2⟩; have hs13_2:Below y13_1.heap.size y13_1 y13_2:=(by with_reducible first | exact hq13_2 | exact bel_trans (bel_alloc _ _) hq13_2 | exact bel_trans (bel_dr _ _) hq13_2); have hT13_2:=bel_trans hT13_1 hs13_2; have hC13_2:=bel_trans hC13_1 hs13_2; have xjN_13_2:=xjN_13_1.keeps hs13_2; have xlN_13_2:=xlN_13_1.keeps hs13_2; have yjN_13_2:=yjN_13_1.keeps hs13_2; have ylN_13_2:=ylN_13_1.keeps hs13_2; have TT_13_2:=TT_13_1.keeps hs13_2; have np13:=na13.num.keeps hs13_2)
                | (go_at_call 99; refine (mul_B (xjN_13_0.keeps (by with_reducible first | exact bel_refl _ | exact bel_alloc _ _ | exact bel_dr _ _)) (ylN_13_0.keeps (by with_reducible first | exact bel_refl _ | exact bel_alloc _ _ | exact bel_dr _ _)) bj cl (by omega) (TT_13_0.keeps (by with_reducible first | exact bel_refl _ | exact bel_alloc _ _ | exact bel_dr _ _))).mono ?_; rintro _ y13_1 ⟨v,C1,rfl,na13,E1,B1⟩; obtain ⟨a_g,a_o,a_n,a_c,a_e,rfl⟩:=dans_shape na13; have hq13_1:=na13.below; have hs13_1:Below wr.drew.heap.size wr.drew y13_1:=(by with_reducible first | exact hq13_1 | exact bel_trans (bel_alloc _ _) hq13_1 | exact bel_trans (bel_dr _ _) hq13_1); have hT13_1:=bel_trans hT13_0 hs13_1; have hC13_1:=bel_trans hC13_0 hs13_1; have xjN_13_1:=xjN_13_0.keeps hs13_1; have xlN_13_1:=xlN_13_0.keeps hs13_1; have yjN_13_1:=yjN_13_0.keeps hs13_1; have ylN_13_1:=ylN_13_0.keeps hs13_1; have TT_13_1:=TT_13_0.keeps hs13_1))
            all_goals
              rw [show C1-C2=M 0 from scale_inj (by rw [Int.sub_mul,E1,E2]; exact hm.1.symm)] at m_A
              go_wp2_with fail
              go_meet
            . exact ⟨rfl,_,m_g,m_o,m_n,m_c,m_e,rfl,(bel_trans (bel_trans (bel_trans (bel_trans (bel_trans (bel_trans (hs13_0) hs13_1) hs13_2) hs13_3) hs13_4) hs13_5) hs13_6).size,bel_trans (bel_trans (bel_trans (bel_trans (bel_trans (bel_trans (bel_trans (hs13_0) hs13_1) hs13_2) hs13_3) hs13_4) hs13_5) hs13_6) (bel_alloc y13_6 (.cells #[.bool m_g,.slice m_o m_n m_c,.int .i64 m_e] 40)),heap_a1 y13_6 (.cells #[.bool m_g,.slice m_o m_n m_c,.int .i64 m_e] 40),m_A.keeps (bel_alloc y13_6 (.cells #[.bool m_g,.slice m_o m_n m_c,.int .i64 m_e] 40))⟩
            . exact ⟨rfl,_,m_g,m_o,m_n,m_c,m_e,rfl,(bel_trans (bel_trans (bel_trans (bel_trans (bel_trans (hs13_0) hs13_1) hs13_2) hs13_3) hs13_4) hs13_5).size,bel_set3' (bel_trans (bel_trans (bel_trans (bel_trans (bel_trans (bel_trans (hs13_0) hs13_1) hs13_2) hs13_3) hs13_4) hs13_5) hs13_6) ((bel_trans (bel_trans (bel_trans (bel_trans (bel_trans (hs13_0) hs13_1) hs13_2) hs13_3) hs13_4) hs13_5).size) (.bool m_g) (.slice m_o m_n m_c) (.int .i64 m_e),heap_set (heap_set (heap_set (blk_on hq13_6 (heap_a1 y13_5 (.cells #[.bool false,.slice none 0 0,.int .i64 0] 40))) 0 (.bool m_g)) 1 (.slice m_o m_n m_c)) 2 (.int .i64 m_e),dan_res3 m_A (blk_on hq13_6 (heap_a1 y13_5 (.cells #[.bool false,.slice none 0 0,.int .i64 0] 40))) (.bool m_g) (.slice m_o m_n m_c) (.int .i64 m_e)⟩
            . exact ⟨rfl,_,m_g,m_o,m_n,m_c,m_e,rfl,(bel_trans (bel_trans (bel_trans (bel_trans (hs13_0) hs13_1) hs13_2) hs13_3) hs13_4).size,bel_set3' (bel_trans (bel_trans (bel_trans (bel_trans (bel_trans (bel_trans (hs13_0) hs13_1) hs13_2) hs13_3) hs13_4) hs13_5) hs13_6) ((bel_trans (bel_trans (bel_trans (bel_trans (hs13_0) hs13_1) hs13_2) hs13_3) hs13_4).size) (.bool m_g) (.slice m_o m_n m_c) (.int .i64 m_e),heap_set (heap_set (heap_set (blk_on hq13_6 (blk_on hq13_5 (heap_a1 y13_4 (.cells #[.bool false,.slice none 0 0,.int .i64 0] 40)))) 0 (.bool m_g)) 1 (.slice m_o m_n m_c)) 2 (.int .i64 m_e),dan_res3 m_A (blk_on hq13_6 (blk_on hq13_5 (heap_a1 y13_4 (.cells #[.bool false,.slice none 0 0,.int .i64 0] 40)))) (.bool m_g) (.slice m_o m_n m_c) (.int .i64 m_e)⟩
            . exact ⟨rfl,_,m_g,m_o,m_n,m_c,m_e,rfl,(bel_trans (bel_trans (bel_trans (hs13_0) hs13_1) hs13_2) hs13_3).size,bel_set3' (bel_trans (bel_trans (bel_trans (bel_trans (bel_trans (bel_trans (hs13_0) hs13_1) hs13_2) hs13_3) hs13_4) hs13_5) hs13_6) ((bel_trans (bel_trans (bel_trans (hs13_0) hs13_1) hs13_2) hs13_3).size) (.bool m_g) (.slice m_o m_n m_c) (.int .i64 m_e),heap_set (heap_set (heap_set (blk_on hq13_6 (blk_on hq13_5 (blk_on hq13_4 (heap_a1 y13_3 (.cells #[.bool false,.slice none 0 0,.int .i64 0] 40))))) 0 (.bool m_g)) 1 (.slice m_o m_n m_c)) 2 (.int .i64 m_e),dan_res3 m_A (blk_on hq13_6 (blk_on hq13_5 (blk_on hq13_4 (heap_a1 y13_3 (.cells #[.bool false,.slice none 0 0,.int .i64 0] 40))))) (.bool m_g) (.slice m_o m_n m_c) (.int .i64 m_e)⟩
            . exact ⟨rfl,_,m_g,m_o,m_n,m_c,m_e,rfl,(bel_trans (bel_trans (hs13_0) hs13_1) hs13_2).size,bel_set3' (bel_trans (bel_trans (bel_trans (bel_trans (bel_trans (bel_trans (hs13_0) hs13_1) hs13_2) hs13_3) hs13_4) hs13_5) hs13_6) ((bel_trans (bel_trans (hs13_0) hs13_1) hs13_2).size) (.bool m_g) (.slice m_o m_n m_c) (.int .i64 m_e),heap_set (heap_set (heap_set (blk_on hq13_6 (blk_on hq13_5 (blk_on hq13_4 (blk_on hq13_3 (heap_a1 y13_2 (.cells #[.bool false,.slice none 0 0,.int .i64 0] 40)))))) 0 (.bool m_g)) 1 (.slice m_o m_n m_c)) 2 (.int .i64 m_e),dan_res3 m_A (blk_on hq13_6 (blk_on hq13_5 (blk_on hq13_4 (blk_on hq13_3 (heap_a1 y13_2 (.cells #[.bool false,.slice none 0 0,.int .i64 0] 40)))))) (.bool m_g) (.slice m_o m_n m_c) (.int .i64 m_e)⟩
            . exact ⟨rfl,_,m_g,m_o,m_n,m_c,m_e,rfl,(bel_trans (hs13_0) hs13_1).size,bel_set3' (bel_trans (bel_trans (bel_trans (bel_trans (bel_trans (bel_trans (hs13_0) hs13_1) hs13_2) hs13_3) hs13_4) hs13_5) hs13_6) ((bel_trans (hs13_0) hs13_1).size) (.bool m_g) (.slice m_o m_n m_c) (.int .i64 m_e),heap_set (heap_set (heap_set (blk_on hq13_6 (blk_on hq13_5 (blk_on hq13_4 (blk_on hq13_3 (blk_on hq13_2 (heap_a1 y13_1 (.cells #[.bool false,.slice none 0 0,.int .i64 0] 40))))))) 0 (.bool m_g)) 1 (.slice m_o m_n m_c)) 2 (.int .i64 m_e),dan_res3 m_A (blk_on hq13_6 (blk_on hq13_5 (blk_on hq13_4 (blk_on hq13_3 (blk_on hq13_2 (heap_a1 y13_1 (.cells #[.bool false,.slice none 0 0,.int .i64 0] 40))))))) (.bool m_g) (.slice m_o m_n m_c) (.int .i64 m_e)⟩
            . exact ⟨rfl,_,m_g,m_o,m_n,m_c,m_e,rfl,Nat.le_refl _,bel_set3' (bel_trans (bel_trans (bel_trans (bel_trans (bel_trans (bel_trans (hs13_0) hs13_1) hs13_2) hs13_3) hs13_4) hs13_5) hs13_6) (Nat.le_refl _) (.bool m_g) (.slice m_o m_n m_c) (.int .i64 m_e),heap_set (heap_set (heap_set (blk_on hq13_6 (blk_on hq13_5 (blk_on hq13_4 (blk_on hq13_3 (blk_on hq13_2 (blk_on hq13_1 (heap_a1d wr (.cells #[.bool false,.slice none 0 0,.int .i64 0] 40)))))))) 0 (.bool m_g)) 1 (.slice m_o m_n m_c)) 2 (.int .i64 m_e),dan_res3 m_A (blk_on hq13_6 (blk_on hq13_5 (blk_on hq13_4 (blk_on hq13_3 (blk_on hq13_2 (blk_on hq13_1 (heap_a1d wr (.cells #[.bool false,.slice none 0 0,.int .i64 0] 40)))))))) (.bool m_g) (.slice m_o m_n m_c) (.int .i64 m_e)⟩
          case rest=>
            obtain ⟨rfl,g,m_g,m_o,m_n,m_c,m_e,rfl,hge,hwc,m_k,mD⟩:=hcut
            replace k_k:=blk_on hwc k_k
            replace r_k:=blk_on hwc r_k
            replace x_k:=blk_on hwc x_k
            replace y_k:=blk_on hwc y_k
            replace l_k:=blk_on hwc l_k
            replace s_k:=blk_on hwc s_k
            have HX2:=hideIt (HX.out.keeps hwc)
            have HY2:=hideIt (HY.out.keeps hwc)
            have HL2:=hideIt (HL.out.keeps hwc)
            have sD:=HS.out.keeps hwc
            skip
            replace hbw:=bel_trans hbw hwc
            clear HX HY HL HS hwc TT xjN xlN yjN ylN bj bl cj cl xj0 xj1 xj2 xjD xl0 xl1 xl2 xlD yj0 yj1 yj2 yjD yl0 yl1 yl2 ylD
            obtain ⟨q_g,q_o,q_n,q_c,q_e,q0,q1,q2,qD⟩:=HL2.out.e 0 (by decide)
            have qN:=(qD (by decide)).num
            clear qD
            have TT:=hT.keeps hbw
            have hl:=hL 0 (by decide)
            have ht:=hT3 0 (by decide)
            have bS:=su_bd (fun i hi=>(hT3 i hi).2) (show 4*K+10<=4194304 by omega) 0 (by decide)
            go_upto_region 14 with (fail)
            have hngs:g≠gs:=by omega
            have hC0:=(bel_refl wc).drew
            have KK2:∀ W,Below wc.heap.size wc W->W.cell? ⟨w.heap.size,0,none⟩=some (.func (.func 97) #[] #[])∧W.cell? ⟨w.heap.size,2,none⟩=some (.func (.func 99) #[] #[])∧W.cell? ⟨w.heap.size+1+1+1+1,0,none⟩=some (.bool q_g)∧W.cell? ⟨w.heap.size+1+1+1+1,1,none⟩=some (.slice q_o q_n q_c)∧W.cell? ⟨w.heap.size+1+1+1+1,2,none⟩=some (.int .i64 q_e)∧W.cell? ⟨g,0,none⟩=some (.bool m_g)∧W.cell? ⟨g,1,none⟩=some (.slice m_o m_n m_c)∧W.cell? ⟨g,2,none⟩=some (.int .i64 m_e):=fun W hb=>⟨q_cell (blkC k_k 0 rfl) hb,q_cell (blkC k_k 2 rfl) hb,q_cell (blkC l_k 0 q0) hb,q_cell (blkC l_k 1 q1) hb,q_cell (blkC l_k 2 q2) hb,q_cell (blkC m_k 0 rfl) hb,q_cell (blkC m_k 1 rfl) hb,q_cell (blkC m_k 2 rfl) hb⟩
            skip
            have sa0:=q_cell (blkC s_k 0 rfl) hC0
            have sa1:=q_cell (blkC s_k 1 rfl) hC0
            have sa2:=q_cell (blkC s_k 2 rfl) hC0
            refine wp_region_held_drew (S:=fun W=>W.cell? ⟨w.heap.size,0,none⟩=some (.func (.func 97) #[] #[])∧W.cell? ⟨w.heap.size,2,none⟩=some (.func (.func 99) #[] #[])∧W.cell? ⟨w.heap.size+1+1+1+1,0,none⟩=some (.bool q_g)∧W.cell? ⟨w.heap.size+1+1+1+1,1,none⟩=some (.slice q_o q_n q_c)∧W.cell? ⟨w.heap.size+1+1+1+1,2,none⟩=some (.int .i64 q_e)∧W.cell? ⟨g,0,none⟩=some (.bool m_g)∧W.cell? ⟨g,1,none⟩=some (.slice m_o m_n m_c)∧W.cell? ⟨g,2,none⟩=some (.int .i64 m_e)) (by kernel_rfl) (KK2 _ hC0) (fun hHeld0=>?_)
            refine wpAnyH_take (i:=0) (v:=?_) rfl (by kernel_rfl) (by kernel_rfl) (by kernel_rfl) (fun _ _ _ h=>h) (Or.inl ⟨by kernel_rfl,?_⟩) (by assumption) ?_
            rotate_left
            . intro w hSw; (try dsimp only at hSw); go_simp; first | done | with_reducible rfl
            try simp only [Act.put,List.setIfInBounds_toArray,List.set_cons_zero,List.set_cons_succ,List.getElem_toArray,List.getElem_cons_zero,List.getElem_cons_succ]
            refine wpAnyH_take (i:=1) (v:=?_) rfl (by kernel_rfl) (by kernel_rfl) (by kernel_rfl) (fun _ _ _ h=>h) (Or.inl ⟨by kernel_rfl,?_⟩) (by assumption) ?_
            rotate_left
            . intro w hSw; (try dsimp only at hSw); go_simp; first | done | with_reducible rfl
            try simp only [Act.put,List.setIfInBounds_toArray,List.set_cons_zero,List.set_cons_succ,List.getElem_toArray,List.getElem_cons_zero,List.getElem_cons_succ]
            refine wpAnyH_take (i:=3) (v:=?_) rfl (by kernel_rfl) (by kernel_rfl) (by kernel_rfl) (fun _ _ _ h=>h) (Or.inl ⟨by kernel_rfl,?_⟩) (by assumption) ?_
            rotate_left
            . intro w hSw; (try dsimp only at hSw); go_simp; first | done | with_reducible rfl
            try simp only [Act.put,List.setIfInBounds_toArray,List.set_cons_zero,List.set_cons_succ,List.getElem_toArray,List.getElem_cons_zero,List.getElem_cons_succ]
            refine wpAnyH_take (i:=4) (v:=?_) rfl (by kernel_rfl) (by kernel_rfl) (by kernel_rfl) (fun _ _ _ h=>h) (Or.inl ⟨by kernel_rfl,?_⟩) (by assumption) ?_
            rotate_left
            . intro w hSw; (try dsimp only at hSw); go_simp; first | done | with_reducible rfl
            try simp only [Act.put,List.setIfInBounds_toArray,List.set_cons_zero,List.set_cons_succ,List.getElem_toArray,List.getElem_cons_zero,List.getElem_cons_succ]
            refine wpAnyH_take (i:=5) (v:=?_) rfl (by kernel_rfl) (by kernel_rfl) (by kernel_rfl) (fun _ _ _ h=>h) (Or.inl ⟨by kernel_rfl,?_⟩) (by assumption) ?_
            rotate_left
            . intro w hSw; (try dsimp only at hSw); go_simp; first | done | with_reducible rfl
            try simp only [Act.put,List.setIfInBounds_toArray,List.set_cons_zero,List.set_cons_succ,List.getElem_toArray,List.getElem_cons_zero,List.getElem_cons_succ]
            refine wpAnyH_take (i:=6) (v:=?_) rfl (by kernel_rfl) (by kernel_rfl) (by kernel_rfl) (fun _ _ _ h=>h) (Or.inl ⟨by kernel_rfl,?_⟩) (by assumption) ?_
            rotate_left
            . intro w hSw; (try dsimp only at hSw); go_simp; first | done | with_reducible rfl
            try simp only [Act.put,List.setIfInBounds_toArray,List.set_cons_zero,List.set_cons_succ,List.getElem_toArray,List.getElem_cons_zero,List.getElem_cons_succ]
            refine wpAnyH_take (i:=7) (v:=?_) rfl (by kernel_rfl) (by kernel_rfl) (by kernel_rfl) (fun _ _ _ h=>h) (Or.inl ⟨by kernel_rfl,?_⟩) (by assumption) ?_
            rotate_left
            . intro w hSw; (try dsimp only at hSw); go_simp; first | done | with_reducible rfl
            try simp only [Act.put,List.setIfInBounds_toArray,List.set_cons_zero,List.set_cons_succ,List.getElem_toArray,List.getElem_cons_zero,List.getElem_cons_succ]
            refine wpAnyH_take (i:=8) (v:=?_) rfl (by kernel_rfl) (by kernel_rfl) (by kernel_rfl) (fun _ _ _ h=>h) (Or.inl ⟨by kernel_rfl,?_⟩) (by assumption) ?_
            rotate_left
            . intro w hSw; (try dsimp only at hSw); go_simp; first | done | with_reducible rfl
            try simp only [Act.put,List.setIfInBounds_toArray,List.set_cons_zero,List.set_cons_succ,List.getElem_toArray,List.getElem_cons_zero,List.getElem_cons_succ]
            refine wpAnyH_ready (rs:=[2,9]) (by kernel_rfl) (by simp) ?_
            refine AllReadyH.cons rfl (fun K hK=>?_) (AllReadyH.cons rfl (fun K hK=>?_) (AllReadyH.nil))
            . go_simp
              refine hK.out _ _ (KK2 _ hC0) (fun hHeld1=>?_)
              clear hK K hHeld0
              try simp only [Act.put,List.setIfInBounds_toArray,List.set_cons_zero,List.set_cons_succ,List.getElem_toArray,List.getElem_cons_zero,List.getElem_cons_succ]
              refine wpAnyH_ready (rs:=[9]) (by kernel_rfl) (by simp) ?_
              refine AllReadyH.cons rfl (fun K hK=>?_) (AllReadyH.nil)
              go_simp
              refine (mul_B (qN.keeps hC0) (mD.num.keeps hC0) hl.2 hm.2 (by omega) (TT.keeps hC0)).mono ?_
              rintro _ y1 ⟨v,C1,rfl,d1,E1,B1⟩
              obtain ⟨a_g,a_o,a_n,a_c,a_e,rfl⟩:=dans_shape d1
              have hs1:=d1.below
              have hC1:=bel_trans hC0 hs1
              have sb0:=q_cell (blkC s_k 0 rfl) hC1
              have sb1:=q_cell (blkC s_k 1 rfl) hC1
              have sb2:=q_cell (blkC s_k 2 rfl) hC1
              refine hK.out _ _ (KK2 _ hC1) (fun hHeld2=>?_)
              clear hK K hHeld1
              try simp only [Act.put,List.setIfInBounds_toArray,List.set_cons_zero,List.set_cons_succ,List.getElem_toArray,List.getElem_cons_zero,List.getElem_cons_succ]
              refine wpAnyH_take (i:=10) (v:=?_) rfl (by kernel_rfl) (by kernel_rfl) (by kernel_rfl) (fun _ _ _ h=>h) (Or.inl ⟨by kernel_rfl,?_⟩) (by assumption) ?_
              rotate_left
              . intro w hSw; (try dsimp only at hSw); go_simp; first | done | with_reducible rfl
              try simp only [Act.put,List.setIfInBounds_toArray,List.set_cons_zero,List.set_cons_succ,List.getElem_toArray,List.getElem_cons_zero,List.getElem_cons_succ]
              refine wpAnyH_take (i:=11) (v:=?_) rfl (by kernel_rfl) (by kernel_rfl) (by kernel_rfl) (fun _ _ _ h=>h) (Or.inl ⟨by kernel_rfl,?_⟩) (by assumption) ?_
              rotate_left
              . intro w hSw; (try dsimp only at hSw); go_simp; first | done | with_reducible rfl
              try simp only [Act.put,List.setIfInBounds_toArray,List.set_cons_zero,List.set_cons_succ,List.getElem_toArray,List.getElem_cons_zero,List.getElem_cons_succ]
              refine wpAnyH_ready (rs:=[12]) (by kernel_rfl) (by simp) ?_
              refine AllReadyH.cons rfl (fun K hK=>?_) (AllReadyH.nil)
              go_simp
              refine (csure_any _ _ _ _ _ _ _).mono ?_
              rintro _ y2 ⟨rfl,hs2⟩
              have hC2:=bel_trans hC1 hs2
              have a_D:=d1.num.keeps hs2
              have sc0:=q_cell (blkC s_k 0 rfl) hC2
              have sc1:=q_cell (blkC s_k 1 rfl) hC2
              have sc2:=q_cell (blkC s_k 2 rfl) hC2
              refine hK.out _ _ (KK2 _ hC2) (fun hHeld3=>?_)
              clear hK K hHeld2
              try simp only [Act.put,List.setIfInBounds_toArray,List.set_cons_zero,List.set_cons_succ,List.getElem_toArray,List.getElem_cons_zero,List.getElem_cons_succ]
              refine wpAnyH_ready (rs:=[13]) (by kernel_rfl) (by simp) ?_
              refine AllReadyH.cons rfl (fun K hK=>?_) (AllReadyH.nil)
              go_simp
              refine (add_B (sD.num.keeps hC2) a_D bS (B1.up (by omega) (by omega)) (by omega) (TT.keeps hC2)).mono ?_
              rintro _ y3 ⟨v,rfl,d3⟩
              obtain ⟨n_g,n_o,n_n,n_c,n_e,rfl⟩:=dans_shape d3
              have hs3:=d3.below
              have hC3:=bel_trans hC2 hs3
              refine hK.out _ _ (KK2 _ hC3) (fun hHeld4=>?_)
              clear hK K hHeld3
              try simp only [Act.put,List.setIfInBounds_toArray,List.set_cons_zero,List.set_cons_succ,List.getElem_toArray,List.getElem_cons_zero,List.getElem_cons_succ]
              refine wpAnyH_take (i:=14) (v:=?_) rfl (by kernel_rfl) (by kernel_rfl) (by kernel_rfl) (fun _ _ _ h=>h) (Or.inl ⟨by kernel_rfl,?_⟩) (by assumption) ?_
              rotate_left
              . intro w hSw; (try dsimp only at hSw); go_simp; first | done | with_reducible rfl
              try simp only [Act.put,List.setIfInBounds_toArray,List.set_cons_zero,List.set_cons_succ,List.getElem_toArray,List.getElem_cons_zero,List.getElem_cons_succ]
              refine wpAnyH_take (i:=15) (v:=?_) rfl (by kernel_rfl) (by kernel_rfl) (by kernel_rfl) (fun _ _ _ h=>h) (Or.inl ⟨by kernel_rfl,?_⟩) (by assumption) ?_
              rotate_left
              . intro w hSw; (try dsimp only at hSw); go_simp; first | done | with_reducible rfl
              try simp only [Act.put,List.setIfInBounds_toArray,List.set_cons_zero,List.set_cons_succ,List.getElem_toArray,List.getElem_cons_zero,List.getElem_cons_succ]
              refine wpAnyH_ready (rs:=[16]) (by kernel_rfl) (by simp) ?_
              refine AllReadyH.cons rfl (fun K hK=>?_) (AllReadyH.nil)
              go_simp
              refine (csure_any _ _ _ _ _ _ _).mono ?_
              rintro _ y4 ⟨rfl,hs4⟩
              have hC4:=bel_trans hC3 hs4
              have n_D:=(d3.dan.keeps hs4).lower (bel_trans hbw hC2).size
              have rk:=blk_on hC4 s_k
              have e0:=blkC rk 0 rfl
              have e1:=blkC rk 1 rfl
              have e2:=blkC rk 2 rfl
              have z0:=blkF rk 0
              have z1:=blkF rk 1
              have z2:=blkF rk 2
              refine hK.out _ _ (KK2 _ hC4) (fun hHeld5=>?_)
              clear hK K hHeld4
              try simp only [Act.put,List.setIfInBounds_toArray,List.set_cons_zero,List.set_cons_succ,List.getElem_toArray,List.getElem_cons_zero,List.getElem_cons_succ]
              refine wpAnyH_ready (rs:=[17]) (by kernel_rfl) (by simp) ?_
              refine AllReadyH.cons rfl (fun K hK=>?_) (AllReadyH.nil)
              go_simp
              refine hK.out _ _ ⟨cell_c3 (KK2 _ hC4).1 _ _ _ (show w.heap.size≠gs by omega),cell_c3 (KK2 _ hC4).2.1 _ _ _ (show w.heap.size≠gs by omega),cell_c3 (KK2 _ hC4).2.2.1 _ _ _ (show w.heap.size+1+1+1+1≠gs by omega),cell_c3 (KK2 _ hC4).2.2.2.1 _ _ _ (show w.heap.size+1+1+1+1≠gs by omega),cell_c3 (KK2 _ hC4).2.2.2.2.1 _ _ _ (show w.heap.size+1+1+1+1≠gs by omega),cell_c3 (KK2 _ hC4).2.2.2.2.2.1 _ _ _ hngs,cell_c3 (KK2 _ hC4).2.2.2.2.2.2.1 _ _ _ hngs,cell_c3 (KK2 _ hC4).2.2.2.2.2.2.2 _ _ _ hngs⟩ (fun hHeld6=>?_)
              clear hK K hHeld5
              try simp only [Act.put,List.setIfInBounds_toArray,List.set_cons_zero,List.set_cons_succ,List.getElem_toArray,List.getElem_cons_zero,List.getElem_cons_succ]
              refine wpAnyH_done (by kernel_rfl) ?_ _
              have eT:C1=T 0:=scale_inj (E1.trans ht.1.symm)
              rw [eT] at n_D
              have HX3:=hideIt ((HX2.out.keeps hC4).set rk (by decide) 0 1 2 (.bool n_g) (.slice n_o n_n n_c) (.int .i64 n_e))
              have HY3:=hideIt ((HY2.out.keeps hC4).set rk (by decide) 0 1 2 (.bool n_g) (.slice n_o n_n n_c) (.int .i64 n_e))
              have HL3:=hideIt ((HL2.out.keeps hC4).set rk (by decide) 0 1 2 (.bool n_g) (.slice n_o n_n n_c) (.int .i64 n_e))
              have k_k3:=cc_n3 (blk_on hC4 k_k) (show w.heap.size≠gs by omega) 0 1 2 (.bool n_g) (.slice n_o n_n n_c) (.int .i64 n_e)
              have r_k3:=cc_n3 (blk_on hC4 r_k) (show w.heap.size+1≠gs by omega) 0 1 2 (.bool n_g) (.slice n_o n_n n_c) (.int .i64 n_e)
              have x_k3:=cc_n3 (blk_on hC4 x_k) (show w.heap.size+1+1≠gs by omega) 0 1 2 (.bool n_g) (.slice n_o n_n n_c) (.int .i64 n_e)
              have y_k3:=cc_n3 (blk_on hC4 y_k) (show w.heap.size+1+1+1≠gs by omega) 0 1 2 (.bool n_g) (.slice n_o n_n n_c) (.int .i64 n_e)
              have l_k3:=cc_n3 (blk_on hC4 l_k) (show w.heap.size+1+1+1+1≠gs by omega) 0 1 2 (.bool n_g) (.slice n_o n_n n_c) (.int .i64 n_e)
              have s_k3:=heap_set (heap_set (heap_set rk 0 (.bool n_g)) 1 (.slice n_o n_n n_c)) 2 (.int .i64 n_e)
              have HS3:Hid (DAn w.heap.size _ (su T 1) (.agg #[.bool n_g,.slice n_o n_n n_c,.int .i64 n_e])):=dan_res3 n_D rk (.bool n_g) (.slice n_o n_n n_c) (.int .i64 n_e)
              have hb3:=cc_s3 (bel_trans hbw hC4) (show w.heap.size<=gs by omega) 0 1 2 (.bool n_g) (.slice n_o n_n n_c) (.int .i64 n_e)
              clear e0 e1 e2 z0 z1 z2
              go_wp2_with fail
              go_roundw
              case rel=>(repeat apply Exists.intro); exact ⟨⟨1,by omega,by go_num,_,_,_,_,_,s_k3,HS3,HX3,HY3,HL3,k_k3,r_k3,x_k3,y_k3,l_k3,hb3⟩,rfl⟩
              case measure=>simp [intOf]
            . go_simp
              refine (mul_B (qN.keeps hC0) (mD.num.keeps hC0) hl.2 hm.2 (by omega) (TT.keeps hC0)).mono ?_
              rintro _ y1 ⟨v,C1,rfl,d1,E1,B1⟩
              obtain ⟨a_g,a_o,a_n,a_c,a_e,rfl⟩:=dans_shape d1
              have hs1:=d1.below
              have hC1:=bel_trans hC0 hs1
              have sb0:=q_cell (blkC s_k 0 rfl) hC1
              have sb1:=q_cell (blkC s_k 1 rfl) hC1
              have sb2:=q_cell (blkC s_k 2 rfl) hC1
              refine hK.out _ _ (KK2 _ hC1) (fun hHeld1=>?_)
              clear hK K hHeld0
              try simp only [Act.put,List.setIfInBounds_toArray,List.set_cons_zero,List.set_cons_succ,List.getElem_toArray,List.getElem_cons_zero,List.getElem_cons_succ]
              refine wpAnyH_take (i:=10) (v:=?_) rfl (by kernel_rfl) (by kernel_rfl) (by kernel_rfl) (fun _ _ _ h=>h) (Or.inl ⟨by kernel_rfl,?_⟩) (by assumption) ?_
              rotate_left
              . intro w hSw; (try dsimp only at hSw); go_simp; first | done | with_reducible rfl
              try simp only [Act.put,List.setIfInBounds_toArray,List.set_cons_zero,List.set_cons_succ,List.getElem_toArray,List.getElem_cons_zero,List.getElem_cons_succ]
              refine wpAnyH_take (i:=11) (v:=?_) rfl (by kernel_rfl) (by kernel_rfl) (by kernel_rfl) (fun _ _ _ h=>h) (Or.inl ⟨by kernel_rfl,?_⟩) (by assumption) ?_
              rotate_left
              . intro w hSw; (try dsimp only at hSw); go_simp; first | done | with_reducible rfl
              try simp only [Act.put,List.setIfInBounds_toArray,List.set_cons_zero,List.set_cons_succ,List.getElem_toArray,List.getElem_cons_zero,List.getElem_cons_succ]
              refine wpAnyH_ready (rs:=[2,12]) (by kernel_rfl) (by simp) ?_
              refine AllReadyH.cons rfl (fun K hK=>?_) (AllReadyH.cons rfl (fun K hK=>?_) (AllReadyH.nil))
              . go_simp
                refine hK.out _ _ (KK2 _ hC1) (fun hHeld2=>?_)
                clear hK K hHeld1
                try simp only [Act.put,List.setIfInBounds_toArray,List.set_cons_zero,List.set_cons_succ,List.getElem_toArray,List.getElem_cons_zero,List.getElem_cons_succ]
                refine wpAnyH_ready (rs:=[12]) (by kernel_rfl) (by simp) ?_
                refine AllReadyH.cons rfl (fun K hK=>?_) (AllReadyH.nil)
                go_simp
                refine (csure_any _ _ _ _ _ _ _).mono ?_
                rintro _ y2 ⟨rfl,hs2⟩
                have hC2:=bel_trans hC1 hs2
                have a_D:=d1.num.keeps hs2
                have sc0:=q_cell (blkC s_k 0 rfl) hC2
                have sc1:=q_cell (blkC s_k 1 rfl) hC2
                have sc2:=q_cell (blkC s_k 2 rfl) hC2
                refine hK.out _ _ (KK2 _ hC2) (fun hHeld3=>?_)
                clear hK K hHeld2
                try simp only [Act.put,List.setIfInBounds_toArray,List.set_cons_zero,List.set_cons_succ,List.getElem_toArray,List.getElem_cons_zero,List.getElem_cons_succ]
                refine wpAnyH_ready (rs:=[13]) (by kernel_rfl) (by simp) ?_
                refine AllReadyH.cons rfl (fun K hK=>?_) (AllReadyH.nil)
                go_simp
                refine (add_B (sD.num.keeps hC2) a_D bS (B1.up (by omega) (by omega)) (by omega) (TT.keeps hC2)).mono ?_
                rintro _ y3 ⟨v,rfl,d3⟩
                obtain ⟨n_g,n_o,n_n,n_c,n_e,rfl⟩:=dans_shape d3
                have hs3:=d3.below
                have hC3:=bel_trans hC2 hs3
                refine hK.out _ _ (KK2 _ hC3) (fun hHeld4=>?_)
                clear hK K hHeld3
                try simp only [Act.put,List.setIfInBounds_toArray,List.set_cons_zero,List.set_cons_succ,List.getElem_toArray,List.getElem_cons_zero,List.getElem_cons_succ]
                refine wpAnyH_take (i:=14) (v:=?_) rfl (by kernel_rfl) (by kernel_rfl) (by kernel_rfl) (fun _ _ _ h=>h) (Or.inl ⟨by kernel_rfl,?_⟩) (by assumption) ?_
                rotate_left
                . intro w hSw; (try dsimp only at hSw); go_simp; first | done | with_reducible rfl
                try simp only [Act.put,List.setIfInBounds_toArray,List.set_cons_zero,List.set_cons_succ,List.getElem_toArray,List.getElem_cons_zero,List.getElem_cons_succ]
                refine wpAnyH_take (i:=15) (v:=?_) rfl (by kernel_rfl) (by kernel_rfl) (by kernel_rfl) (fun _ _ _ h=>h) (Or.inl ⟨by kernel_rfl,?_⟩) (by assumption) ?_
                rotate_left
                . intro w hSw; (try dsimp only at hSw); go_simp; first | done | with_reducible rfl
                try simp only [Act.put,List.setIfInBounds_toArray,List.set_cons_zero,List.set_cons_succ,List.getElem_toArray,List.getElem_cons_zero,List.getElem_cons_succ]
                refine wpAnyH_ready (rs:=[16]) (by kernel_rfl) (by simp) ?_
                refine AllReadyH.cons rfl (fun K hK=>?_) (AllReadyH.nil)
                go_simp
                refine (csure_any _ _ _ _ _ _ _).mono ?_
                rintro _ y4 ⟨rfl,hs4⟩
                have hC4:=bel_trans hC3 hs4
                have n_D:=(d3.dan.keeps hs4).lower (bel_trans hbw hC2).size
                have rk:=blk_on hC4 s_k
                have e0:=blkC rk 0 rfl
                have e1:=blkC rk 1 rfl
                have e2:=blkC rk 2 rfl
                have z0:=blkF rk 0
                have z1:=blkF rk 1
                have z2:=blkF rk 2
                refine hK.out _ _ (KK2 _ hC4) (fun hHeld5=>?_)
                clear hK K hHeld4
                try simp only [Act.put,List.setIfInBounds_toArray,List.set_cons_zero,List.set_cons_succ,List.getElem_toArray,List.getElem_cons_zero,List.getElem_cons_succ]
                refine wpAnyH_ready (rs:=[17]) (by kernel_rfl) (by simp) ?_
                refine AllReadyH.cons rfl (fun K hK=>?_) (AllReadyH.nil)
                go_simp
                refine hK.out _ _ ⟨cell_c3 (KK2 _ hC4).1 _ _ _ (show w.heap.size≠gs by omega),cell_c3 (KK2 _ hC4).2.1 _ _ _ (show w.heap.size≠gs by omega),cell_c3 (KK2 _ hC4).2.2.1 _ _ _ (show w.heap.size+1+1+1+1≠gs by omega),cell_c3 (KK2 _ hC4).2.2.2.1 _ _ _ (show w.heap.size+1+1+1+1≠gs by omega),cell_c3 (KK2 _ hC4).2.2.2.2.1 _ _ _ (show w.heap.size+1+1+1+1≠gs by omega),cell_c3 (KK2 _ hC4).2.2.2.2.2.1 _ _ _ hngs,cell_c3 (KK2 _ hC4).2.2.2.2.2.2.1 _ _ _ hngs,cell_c3 (KK2 _ hC4).2.2.2.2.2.2.2 _ _ _ hngs⟩ (fun hHeld6=>?_)
                clear hK K hHeld5
                try simp only [Act.put,List.setIfInBounds_toArray,List.set_cons_zero,List.set_cons_succ,List.getElem_toArray,List.getElem_cons_zero,List.getElem_cons_succ]
                refine wpAnyH_done (by kernel_rfl) ?_ _
                have eT:C1=T 0:=scale_inj (E1.trans ht.1.symm)
                rw [eT] at n_D
                have HX3:=hideIt ((HX2.out.keeps hC4).set rk (by decide) 0 1 2 (.bool n_g) (.slice n_o n_n n_c) (.int .i64 n_e))
                have HY3:=hideIt ((HY2.out.keeps hC4).set rk (by decide) 0 1 2 (.bool n_g) (.slice n_o n_n n_c) (.int .i64 n_e))
                have HL3:=hideIt ((HL2.out.keeps hC4).set rk (by decide) 0 1 2 (.bool n_g) (.slice n_o n_n n_c) (.int .i64 n_e))
                have k_k3:=cc_n3 (blk_on hC4 k_k) (show w.heap.size≠gs by omega) 0 1 2 (.bool n_g) (.slice n_o n_n n_c) (.int .i64 n_e)
                have r_k3:=cc_n3 (blk_on hC4 r_k) (show w.heap.size+1≠gs by omega) 0 1 2 (.bool n_g) (.slice n_o n_n n_c) (.int .i64 n_e)
                have x_k3:=cc_n3 (blk_on hC4 x_k) (show w.heap.size+1+1≠gs by omega) 0 1 2 (.bool n_g) (.slice n_o n_n n_c) (.int .i64 n_e)
                have y_k3:=cc_n3 (blk_on hC4 y_k) (show w.heap.size+1+1+1≠gs by omega) 0 1 2 (.bool n_g) (.slice n_o n_n n_c) (.int .i64 n_e)
                have l_k3:=cc_n3 (blk_on hC4 l_k) (show w.heap.size+1+1+1+1≠gs by omega) 0 1 2 (.bool n_g) (.slice n_o n_n n_c) (.int .i64 n_e)
                have s_k3:=heap_set (heap_set (heap_set rk 0 (.bool n_g)) 1 (.slice n_o n_n n_c)) 2 (.int .i64 n_e)
                have HS3:Hid (DAn w.heap.size _ (su T 1) (.agg #[.bool n_g,.slice n_o n_n n_c,.int .i64 n_e])):=dan_res3 n_D rk (.bool n_g) (.slice n_o n_n n_c) (.int .i64 n_e)
                have hb3:=cc_s3 (bel_trans hbw hC4) (show w.heap.size<=gs by omega) 0 1 2 (.bool n_g) (.slice n_o n_n n_c) (.int .i64 n_e)
                clear e0 e1 e2 z0 z1 z2
                go_wp2_with fail
                go_roundw
                case rel=>(repeat apply Exists.intro); exact ⟨⟨1,by omega,by go_num,_,_,_,_,_,s_k3,HS3,HX3,HY3,HL3,k_k3,r_k3,x_k3,y_k3,l_k3,hb3⟩,rfl⟩
                case measure=>simp [intOf]
              . go_simp
                refine (csure_any _ _ _ _ _ _ _).mono ?_
                rintro _ y2 ⟨rfl,hs2⟩
                have hC2:=bel_trans hC1 hs2
                have a_D:=d1.num.keeps hs2
                have sc0:=q_cell (blkC s_k 0 rfl) hC2
                have sc1:=q_cell (blkC s_k 1 rfl) hC2
                have sc2:=q_cell (blkC s_k 2 rfl) hC2
                refine hK.out _ _ (KK2 _ hC2) (fun hHeld2=>?_)
                clear hK K hHeld1
                try simp only [Act.put,List.setIfInBounds_toArray,List.set_cons_zero,List.set_cons_succ,List.getElem_toArray,List.getElem_cons_zero,List.getElem_cons_succ]
                refine wpAnyH_ready (rs:=[2]) (by kernel_rfl) (by simp) ?_
                refine AllReadyH.cons rfl (fun K hK=>?_) (AllReadyH.nil)
                go_simp
                refine hK.out _ _ (KK2 _ hC2) (fun hHeld3=>?_)
                clear hK K hHeld2
                try simp only [Act.put,List.setIfInBounds_toArray,List.set_cons_zero,List.set_cons_succ,List.getElem_toArray,List.getElem_cons_zero,List.getElem_cons_succ]
                refine wpAnyH_ready (rs:=[13]) (by kernel_rfl) (by simp) ?_
                refine AllReadyH.cons rfl (fun K hK=>?_) (AllReadyH.nil)
                go_simp
                refine (add_B (sD.num.keeps hC2) a_D bS (B1.up (by omega) (by omega)) (by omega) (TT.keeps hC2)).mono ?_
                rintro _ y3 ⟨v,rfl,d3⟩
                obtain ⟨n_g,n_o,n_n,n_c,n_e,rfl⟩:=dans_shape d3
                have hs3:=d3.below
                have hC3:=bel_trans hC2 hs3
                refine hK.out _ _ (KK2 _ hC3) (fun hHeld4=>?_)
                clear hK K hHeld3
                try simp only [Act.put,List.setIfInBounds_toArray,List.set_cons_zero,List.set_cons_succ,List.getElem_toArray,List.getElem_cons_zero,List.getElem_cons_succ]
                refine wpAnyH_take (i:=14) (v:=?_) rfl (by kernel_rfl) (by kernel_rfl) (by kernel_rfl) (fun _ _ _ h=>h) (Or.inl ⟨by kernel_rfl,?_⟩) (by assumption) ?_
                rotate_left
                . intro w hSw; (try dsimp only at hSw); go_simp; first | done | with_reducible rfl
                try simp only [Act.put,List.setIfInBounds_toArray,List.set_cons_zero,List.set_cons_succ,List.getElem_toArray,List.getElem_cons_zero,List.getElem_cons_succ]
                refine wpAnyH_take (i:=15) (v:=?_) rfl (by kernel_rfl) (by kernel_rfl) (by kernel_rfl) (fun _ _ _ h=>h) (Or.inl ⟨by kernel_rfl,?_⟩) (by assumption) ?_
                rotate_left
                . intro w hSw; (try dsimp only at hSw); go_simp; first | done | with_reducible rfl
                try simp only [Act.put,List.setIfInBounds_toArray,List.set_cons_zero,List.set_cons_succ,List.getElem_toArray,List.getElem_cons_zero,List.getElem_cons_succ]
                refine wpAnyH_ready (rs:=[16]) (by kernel_rfl) (by simp) ?_
                refine AllReadyH.cons rfl (fun K hK=>?_) (AllReadyH.nil)
                go_simp
                refine (csure_any _ _ _ _ _ _ _).mono ?_
                rintro _ y4 ⟨rfl,hs4⟩
                have hC4:=bel_trans hC3 hs4
                have n_D:=(d3.dan.keeps hs4).lower (bel_trans hbw hC2).size
                have rk:=blk_on hC4 s_k
                have e0:=blkC rk 0 rfl
                have e1:=blkC rk 1 rfl
                have e2:=blkC rk 2 rfl
                have z0:=blkF rk 0
                have z1:=blkF rk 1
                have z2:=blkF rk 2
                refine hK.out _ _ (KK2 _ hC4) (fun hHeld5=>?_)
                clear hK K hHeld4
                try simp only [Act.put,List.setIfInBounds_toArray,List.set_cons_zero,List.set_cons_succ,List.getElem_toArray,List.getElem_cons_zero,List.getElem_cons_succ]
                refine wpAnyH_ready (rs:=[17]) (by kernel_rfl) (by simp) ?_
                refine AllReadyH.cons rfl (fun K hK=>?_) (AllReadyH.nil)
                go_simp
                refine hK.out _ _ ⟨cell_c3 (KK2 _ hC4).1 _ _ _ (show w.heap.size≠gs by omega),cell_c3 (KK2 _ hC4).2.1 _ _ _ (show w.heap.size≠gs by omega),cell_c3 (KK2 _ hC4).2.2.1 _ _ _ (show w.heap.size+1+1+1+1≠gs by omega),cell_c3 (KK2 _ hC4).2.2.2.1 _ _ _ (show w.heap.size+1+1+1+1≠gs by omega),cell_c3 (KK2 _ hC4).2.2.2.2.1 _ _ _ (show w.heap.size+1+1+1+1≠gs by omega),cell_c3 (KK2 _ hC4).2.2.2.2.2.1 _ _ _ hngs,cell_c3 (KK2 _ hC4).2.2.2.2.2.2.1 _ _ _ hngs,cell_c3 (KK2 _ hC4).2.2.2.2.2.2.2 _ _ _ hngs⟩ (fun hHeld6=>?_)
                clear hK K hHeld5
                try simp only [Act.put,List.setIfInBounds_toArray,List.set_cons_zero,List.set_cons_succ,List.getElem_toArray,List.getElem_cons_zero,List.getElem_cons_succ]
                refine wpAnyH_done (by kernel_rfl) ?_ _
                have eT:C1=T 0:=scale_inj (E1.trans ht.1.symm)
                rw [eT] at n_D
                have HX3:=hideIt ((HX2.out.keeps hC4).set rk (by decide) 0 1 2 (.bool n_g) (.slice n_o n_n n_c) (.int .i64 n_e))
                have HY3:=hideIt ((HY2.out.keeps hC4).set rk (by decide) 0 1 2 (.bool n_g) (.slice n_o n_n n_c) (.int .i64 n_e))
                have HL3:=hideIt ((HL2.out.keeps hC4).set rk (by decide) 0 1 2 (.bool n_g) (.slice n_o n_n n_c) (.int .i64 n_e))
                have k_k3:=cc_n3 (blk_on hC4 k_k) (show w.heap.size≠gs by omega) 0 1 2 (.bool n_g) (.slice n_o n_n n_c) (.int .i64 n_e)
                have r_k3:=cc_n3 (blk_on hC4 r_k) (show w.heap.size+1≠gs by omega) 0 1 2 (.bool n_g) (.slice n_o n_n n_c) (.int .i64 n_e)
                have x_k3:=cc_n3 (blk_on hC4 x_k) (show w.heap.size+1+1≠gs by omega) 0 1 2 (.bool n_g) (.slice n_o n_n n_c) (.int .i64 n_e)
                have y_k3:=cc_n3 (blk_on hC4 y_k) (show w.heap.size+1+1+1≠gs by omega) 0 1 2 (.bool n_g) (.slice n_o n_n n_c) (.int .i64 n_e)
                have l_k3:=cc_n3 (blk_on hC4 l_k) (show w.heap.size+1+1+1+1≠gs by omega) 0 1 2 (.bool n_g) (.slice n_o n_n n_c) (.int .i64 n_e)
                have s_k3:=heap_set (heap_set (heap_set rk 0 (.bool n_g)) 1 (.slice n_o n_n n_c)) 2 (.int .i64 n_e)
                have HS3:Hid (DAn w.heap.size _ (su T 1) (.agg #[.bool n_g,.slice n_o n_n n_c,.int .i64 n_e])):=dan_res3 n_D rk (.bool n_g) (.slice n_o n_n n_c) (.int .i64 n_e)
                have hb3:=cc_s3 (bel_trans hbw hC4) (show w.heap.size<=gs by omega) 0 1 2 (.bool n_g) (.slice n_o n_n n_c) (.int .i64 n_e)
                clear e0 e1 e2 z0 z1 z2
                go_wp2_with fail
                go_roundw
                case rel=>(repeat apply Exists.intro); exact ⟨⟨1,by omega,by go_num,_,_,_,_,_,s_k3,HS3,HX3,HY3,HL3,k_k3,r_k3,x_k3,y_k3,l_k3,hb3⟩,rfl⟩
                case measure=>simp [intOf]
        . have hgl:=(Array.getElem?_eq_some_iff.1 s_k).1
          obtain ⟨xj_g,xj_o,xj_n,xj_c,xj_e,xj0,xj1,xj2,xjD⟩:=HX.out.e 2 (by decide)
          have xjN:=(xjD (by decide)).num
          obtain ⟨xl_g,xl_o,xl_n,xl_c,xl_e,xl0,xl1,xl2,xlD⟩:=HX.out.e 0 (by decide)
          have xlN:=(xlD (by decide)).num
          obtain ⟨yj_g,yj_o,yj_n,yj_c,yj_e,yj0,yj1,yj2,yjD⟩:=HY.out.e 2 (by decide)
          have yjN:=(yjD (by decide)).num
          obtain ⟨yl_g,yl_o,yl_n,yl_c,yl_e,yl0,yl1,yl2,ylD⟩:=HY.out.e 0 (by decide)
          have ylN:=(ylD (by decide)).num
          have TT:=hT.keeps hbw
          have bj:=bX 2 (by decide)
          have bl:=bX 0 (by decide)
          have cj:=bY 2 (by decide)
          have cl:=bY 0 (by decide)
          have hm:=hM 1 (by decide)
          go_upto_region 13 with (fail)
          have KK:∀ W,Below wr.heap.size wr W->W.cell? ⟨w.heap.size,1,none⟩=some (.func (.func 98) #[] #[])∧W.cell? ⟨w.heap.size,2,none⟩=some (.func (.func 99) #[] #[])∧W.cell? ⟨w.heap.size+1+1,6,none⟩=some (.bool xj_g)∧W.cell? ⟨w.heap.size+1+1,7,none⟩=some (.slice xj_o xj_n xj_c)∧W.cell? ⟨w.heap.size+1+1,8,none⟩=some (.int .i64 xj_e)∧W.cell? ⟨w.heap.size+1+1,0,none⟩=some (.bool xl_g)∧W.cell? ⟨w.heap.size+1+1,1,none⟩=some (.slice xl_o xl_n xl_c)∧W.cell? ⟨w.heap.size+1+1,2,none⟩=some (.int .i64 xl_e)∧W.cell? ⟨w.heap.size+1+1+1,6,none⟩=some (.bool yj_g)∧W.cell? ⟨w.heap.size+1+1+1,7,none⟩=some (.slice yj_o yj_n yj_c)∧W.cell? ⟨w.heap.size+1+1+1,8,none⟩=some (.int .i64 yj_e)∧W.cell? ⟨w.heap.size+1+1+1,0,none⟩=some (.bool yl_g)∧W.cell? ⟨w.heap.size+1+1+1,1,none⟩=some (.slice yl_o yl_n yl_c)∧W.cell? ⟨w.heap.size+1+1+1,2,none⟩=some (.int .i64 yl_e):=fun W hb=>⟨q_cell (blkC k_k 1 rfl) hb,q_cell (blkC k_k 2 rfl) hb,q_cell (blkC x_k 6 xj0) hb,q_cell (blkC x_k 7 xj1) hb,q_cell (blkC x_k 8 xj2) hb,q_cell (blkC x_k 0 xl0) hb,q_cell (blkC x_k 1 xl1) hb,q_cell (blkC x_k 2 xl2) hb,q_cell (blkC y_k 6 yj0) hb,q_cell (blkC y_k 7 yj1) hb,q_cell (blkC y_k 8 yj2) hb,q_cell (blkC y_k 0 yl0) hb,q_cell (blkC y_k 1 yl1) hb,q_cell (blkC y_k 2 yl2) hb⟩
          have hC13_0:=(bel_refl wr).drew
          have hT13_0:Below w.heap.size w wr.drew:=hbw.drew
          have xjN_13_0:=xjN.keeps (bel_refl wr).drew
          have xlN_13_0:=xlN.keeps (bel_refl wr).drew
          have yjN_13_0:=yjN.keeps (bel_refl wr).drew
          have ylN_13_0:=ylN.keeps (bel_refl wr).drew
          have TT_13_0:=TT.keeps (bel_refl wr).drew
          have hs13_0:=(bel_refl wr).drew
          go_cut [13,54] from 54 to 110 (fun sm s54 wx=>s54=.int .i64 1∧∃ g m_g m_o m_n m_c m_e,sm=.pointer (some ⟨g,0,none⟩)∧wr.heap.size<=g∧Below wr.heap.size wr wx∧wx.heap[g]?=some (.cells #[.bool m_g,.slice m_o m_n m_c,.int .i64 m_e] 40 (0,0))∧DAn w.heap.size wx (M 1) (.agg #[.bool m_g,.slice m_o m_n m_c,.int .i64 m_e]))
          case first=>
            clear HX HY HL HS CR hE hT bX bY hL hM hT3 s_k r_k l_k
            go_region_held3 (fun W=>W.cell? ⟨w.heap.size,1,none⟩=some (.func (.func 98) #[] #[])∧W.cell? ⟨w.heap.size,2,none⟩=some (.func (.func 99) #[] #[])∧W.cell? ⟨w.heap.size+1+1,6,none⟩=some (.bool xj_g)∧W.cell? ⟨w.heap.size+1+1,7,none⟩=some (.slice xj_o xj_n xj_c)∧W.cell? ⟨w.heap.size+1+1,8,none⟩=some (.int .i64 xj_e)∧W.cell? ⟨w.heap.size+1+1,0,none⟩=some (.bool xl_g)∧W.cell? ⟨w.heap.size+1+1,1,none⟩=some (.slice xl_o xl_n xl_c)∧W.cell? ⟨w.heap.size+1+1,2,none⟩=some (.int .i64 xl_e)∧W.cell? ⟨w.heap.size+1+1+1,6,none⟩=some (.bool yj_g)∧W.cell? ⟨w.heap.size+1+1+1,7,none⟩=some (.slice yj_o yj_n yj_c)∧W.cell? ⟨w.heap.size+1+1+1,8,none⟩=some (.int .i64 yj_e)∧W.cell? ⟨w.heap.size+1+1+1,0,none⟩=some (.bool yl_g)∧W.cell? ⟨w.heap.size+1+1+1,1,none⟩=some (.slice yl_o yl_n yl_c)∧W.cell? ⟨w.heap.size+1+1+1,2,none⟩=some (.int .i64 yl_e))
              (with_reducible first | assumption | (refine KK _ ?_; first | assumption | exact (bel_alloc _ _).drew | (refine bel_trans ?_ (bel_alloc _ _); assumption) | (refine bel_set3' ?_ (by first | exact Nat.le_refl _ | exact hC13_1.size | exact hC13_2.size | exact hC13_3.size | exact hC13_4.size | exact hC13_5.size) _ _ _; assumption)) | fail)
              (first
                | (go_at_call 149; have _t:=hs13_5; refine (csure_any _ _ _ _ _ _ _).mono ?_; rintro _ y13_6 ⟨rfl,hq13_6⟩; have hs13_6:Below y13_5.heap.size y13_5 y13_6:=(by with_reducible first | exact hq13_6 | exact bel_trans (bel_alloc _ _) hq13_6 | exact bel_trans (bel_dr _ _) hq13_6); have hT13_6:=bel_trans hT13_5 hs13_6; have hC13_6:=bel_trans hC13_5 hs13_6; have xjN_13_6:=xjN_13_5.keeps hs13_6; have xlN_13_6:=xlN_13_5.keeps hs13_6; have yjN_13_6:=yjN_13_5.keeps hs13_6; have ylN_13_6:=ylN_13_5.keeps hs13_6; have TT_13_6:=TT_13_5.keeps hs13_6; have m_A:=ne13.keeps hs13_6; with_reducible first | (have qz13:y13_6.heap[wr.heap.size]?=some (.cells #[.bool false,.slice none 0 0,.int .i64 0] 40 (0,0)):=blk_on hq13_6 (blk_on hq13_5 (blk_on hq13_4 (blk_on hq13_3 (blk_on hq13_2 (blk_on hq13_1 (heap_a1d wr (.cells #[.bool false,.slice none 0 0,.int .i64 0] 40))))))); have cz13_0:=blkC qz13 0 rfl; have zz13_0:=blkF qz13 0; have cz13_1:=blkC qz13 1 rfl; have zz13_1:=blkF qz13 1; have cz13_2:=blkC qz13 2 rfl; have zz13_2:=blkF qz13 2) | (have qz13:y13_6.heap[y13_1.heap.size]?=some (.cells #[.bool false,.slice none 0 0,.int .i64 0] 40 (0,0)):=blk_on hq13_6 (blk_on hq13_5 (blk_on hq13_4 (blk_on hq13_3 (blk_on hq13_2 (heap_a1 _ _))))); have cz13_0:=blkC qz13 0 rfl; have zz13_0:=blkF qz13 0; have cz13_1:=blkC qz13 1 rfl; have zz13_1:=blkF qz13 1; have cz13_2:=blkC qz13 2 rfl; have zz13_2:=blkF qz13 2) | (have qz13:y13_6.heap[y13_2.heap.size]?=some (.cells #[.bool false,.slice none 0 0,.int .i64 0] 40 (0,0)):=blk_on hq13_6 (blk_on hq13_5 (blk_on hq13_4 (blk_on hq13_3 (heap_a1 _ _)))); have cz13_0:=blkC qz13 0 rfl; have zz13_0:=blkF qz13 0; have cz13_1:=blkC qz13 1 rfl; have zz13_1:=blkF qz13 1; have cz13_2:=blkC qz13 2 rfl; have zz13_2:=blkF qz13 2) | (have qz13:y13_6.heap[y13_3.heap.size]?=some (.cells #[.bool false,.slice none 0 0,.int .i64 0] 40 (0,0)):=blk_on hq13_6 (blk_on hq13_5 (blk_on hq13_4 (heap_a1 _ _))); have cz13_0:=blkC qz13 0 rfl; have zz13_0:=blkF qz13 0; have cz13_1:=blkC qz13 1 rfl; have zz13_1:=blkF qz13 1; have cz13_2:=blkC qz13 2 rfl; have zz13_2:=blkF qz13 2) | (have qz13:y13_6.heap[y13_4.heap.size]?=some (.cells #[.bool false,.slice none 0 0,.int .i64 0] 40 (0,0)):=blk_on hq13_6 (blk_on hq13_5 (heap_a1 _ _)); have cz13_0:=blkC qz13 0 rfl; have zz13_0:=blkF qz13 0; have cz13_1:=blkC qz13 1 rfl; have zz13_1:=blkF qz13 1; have cz13_2:=blkC qz13 2 rfl; have zz13_2:=blkF qz13 2) | (have qz13:y13_6.heap[y13_5.heap.size]?=some (.cells #[.bool false,.slice none 0 0,.int .i64 0] 40 (0,0)):=blk_on hq13_6 (heap_a1 _ _); have cz13_0:=blkC qz13 0 rfl; have zz13_0:=blkF qz13 0; have cz13_1:=blkC qz13 1 rfl; have zz13_1:=blkF qz13 1; have cz13_2:=blkC qz13 2 rfl; have zz13_2:=blkF qz13 2) | skip)
                | (go_at_call 98; have _t:=hs13_4; refine (sub_B (np13.keeps (by with_reducible first | exact bel_refl _ | exact bel_alloc _ _ | exact bel_dr _ _)) (nq13.keeps (by with_reducible first | exact bel_refl _ | exact bel_alloc _ _ | exact bel_dr _ _)) B1 B2 (by omega) (TT_13_4.keeps (by with_reducible first | exact bel_refl _ | exact bel_alloc _ _ | exact bel_dr _ _))).mono ?_; rintro _ y13_5 ⟨v,rfl,nc13⟩; obtain ⟨m_g,m_o,m_n,m_c,m_e,rfl⟩:=dans_shape nc13; have hq13_5:=nc13.below; have ne13:=nc13.dan.lower (Nat.le_trans hT13_4.size (by with_reducible first | exact Nat.le_refl _ | exact (bel_alloc _ _).size | exact (bel_dr _ _).size)); have hs13_5:Below y13_4.heap.size y13_4 y13_5:=(by with_reducible first | exact hq13_5 | exact bel_trans (bel_alloc _ _) hq13_5 | exact bel_trans (bel_dr _ _) hq13_5); have hT13_5:=bel_trans hT13_4 hs13_5; have hC13_5:=bel_trans hC13_4 hs13_5; have xjN_13_5:=xjN_13_4.keeps hs13_5; have xlN_13_5:=xlN_13_4.keeps hs13_5; have yjN_13_5:=yjN_13_4.keeps hs13_5; have ylN_13_5:=ylN_13_4.keeps hs13_5; have TT_13_5:=TT_13_4.keeps hs13_5)
                | (go_at_call 149; have _t:=hs13_3; refine (csure_any _ _ _ _ _ _ _).mono ?_; rintro _ y13_4 ⟨rfl,hq13_4⟩; have hs13_4:Below y13_3.heap.size y13_3 y13_4:=(by with_reducible first | exact hq13_4 | exact bel_trans (bel_alloc _ _) hq13_4 | exact bel_trans (bel_dr _ _) hq13_4); have hT13_4:=bel_trans hT13_3 hs13_4; have hC13_4:=bel_trans hC13_3 hs13_4; have xjN_13_4:=xjN_13_3.keeps hs13_4; have xlN_13_4:=xlN_13_3.keeps hs13_4; have yjN_13_4:=yjN_13_3.keeps hs13_4; have ylN_13_4:=ylN_13_3.keeps hs13_4; have TT_13_4:=TT_13_3.keeps hs13_4; have nq13:=nb13.num.keeps hs13_4; have np13:=np13.keeps hs13_4)
                | (go_at_call 99; have _t:=hs13_2; refine (mul_B (xlN_13_2.keeps (by with_reducible first | exact bel_refl _ | exact bel_alloc _ _ | exact bel_dr _ _)) (yjN_13_2.keeps (by with_reducible first | exact bel_refl _ | exact bel_alloc _ _ | exact bel_dr _ _)) bl cj (by omega) (TT_13_2.keeps (by with_reducible first | exact bel_refl _ | exact bel_alloc _ _ | exact bel_dr _ _))).mono ?_; rintro _ y13_3 ⟨v,C2,rfl,nb13,E2,B2⟩; obtain ⟨b_g,b_o,b_n,b_c,b_e,rfl⟩:=dans_shape nb13; have hq13_3:=nb13.below; have hs13_3:Below y13_2.heap.size y13_2 y13_3:=(by with_reducible first | exact hq13_3 | exact bel_trans (bel_alloc _ _) hq13_3 | exact bel_trans (bel_dr _ _) hq13_3); have hT13_3:=bel_trans hT13_2 hs13_3; have hC13_3:=bel_trans hC13_2 hs13_3; have xjN_13_3:=xjN_13_2.keeps hs13_3; have xlN_13_3:=xlN_13_2.keeps hs13_3; have yjN_13_3:=yjN_13_2.keeps hs13_3; have ylN_13_3:=ylN_13_2.keeps hs13_3; have TT_13_3:=TT_13_2.keeps hs13_3; have np13:=np13.keeps hs13_3)
                | (go_at_call 149; have _t:=hs13_1; refine (csure_any _ _ _ _ _ _ _).mono ?_; rintro _ y13_2 ⟨rfl,hq13_2⟩; have hs13_2:Below y13_1.heap.size y13_1 y13_2:=(by with_reducible first | exact hq13_2 | exact bel_trans (bel_alloc _ _) hq13_2 | exact bel_trans (bel_dr _ _) hq13_2); have hT13_2:=bel_trans hT13_1 hs13_2; have hC13_2:=bel_trans hC13_1 hs13_2; have xjN_13_2:=xjN_13_1.keeps hs13_2; have xlN_13_2:=xlN_13_1.keeps hs13_2; have yjN_13_2:=yjN_13_1.keeps hs13_2; have ylN_13_2:=ylN_13_1.keeps hs13_2; have TT_13_2:=TT_13_1.keeps hs13_2; have np13:=na13.num.keeps hs13_2)
                | (go_at_call 99; refine (mul_B (xjN_13_0.keeps (by with_reducible first | exact bel_refl _ | exact bel_alloc _ _ | exact bel_dr _ _)) (ylN_13_0.keeps (by with_reducible first | exact bel_refl _ | exact bel_alloc _ _ | exact bel_dr _ _)) bj cl (by omega) (TT_13_0.keeps (by with_reducible first | exact bel_refl _ | exact bel_alloc _ _ | exact bel_dr _ _))).mono ?_; rintro _ y13_1 ⟨v,C1,rfl,na13,E1,B1⟩; obtain ⟨a_g,a_o,a_n,a_c,a_e,rfl⟩:=dans_shape na13; have hq13_1:=na13.below; have hs13_1:Below wr.drew.heap.size wr.drew y13_1:=(by with_reducible first | exact hq13_1 | exact bel_trans (bel_alloc _ _) hq13_1 | exact bel_trans (bel_dr _ _) hq13_1); have hT13_1:=bel_trans hT13_0 hs13_1; have hC13_1:=bel_trans hC13_0 hs13_1; have xjN_13_1:=xjN_13_0.keeps hs13_1; have xlN_13_1:=xlN_13_0.keeps hs13_1; have yjN_13_1:=yjN_13_0.keeps hs13_1; have ylN_13_1:=ylN_13_0.keeps hs13_1; have TT_13_1:=TT_13_0.keeps hs13_1))
            all_goals
              rw [show C1-C2=M 1 from scale_inj (by rw [Int.sub_mul,E1,E2]; exact hm.1.symm)] at m_A
              go_wp2_with fail
              go_meet
            . exact ⟨rfl,_,m_g,m_o,m_n,m_c,m_e,rfl,(bel_trans (bel_trans (bel_trans (bel_trans (bel_trans (bel_trans (hs13_0) hs13_1) hs13_2) hs13_3) hs13_4) hs13_5) hs13_6).size,bel_trans (bel_trans (bel_trans (bel_trans (bel_trans (bel_trans (bel_trans (hs13_0) hs13_1) hs13_2) hs13_3) hs13_4) hs13_5) hs13_6) (bel_alloc y13_6 (.cells #[.bool m_g,.slice m_o m_n m_c,.int .i64 m_e] 40)),heap_a1 y13_6 (.cells #[.bool m_g,.slice m_o m_n m_c,.int .i64 m_e] 40),m_A.keeps (bel_alloc y13_6 (.cells #[.bool m_g,.slice m_o m_n m_c,.int .i64 m_e] 40))⟩
            . exact ⟨rfl,_,m_g,m_o,m_n,m_c,m_e,rfl,(bel_trans (bel_trans (bel_trans (bel_trans (bel_trans (hs13_0) hs13_1) hs13_2) hs13_3) hs13_4) hs13_5).size,bel_set3' (bel_trans (bel_trans (bel_trans (bel_trans (bel_trans (bel_trans (hs13_0) hs13_1) hs13_2) hs13_3) hs13_4) hs13_5) hs13_6) ((bel_trans (bel_trans (bel_trans (bel_trans (bel_trans (hs13_0) hs13_1) hs13_2) hs13_3) hs13_4) hs13_5).size) (.bool m_g) (.slice m_o m_n m_c) (.int .i64 m_e),heap_set (heap_set (heap_set (blk_on hq13_6 (heap_a1 y13_5 (.cells #[.bool false,.slice none 0 0,.int .i64 0] 40))) 0 (.bool m_g)) 1 (.slice m_o m_n m_c)) 2 (.int .i64 m_e),dan_res3 m_A (blk_on hq13_6 (heap_a1 y13_5 (.cells #[.bool false,.slice none 0 0,.int .i64 0] 40))) (.bool m_g) (.slice m_o m_n m_c) (.int .i64 m_e)⟩
            . exact ⟨rfl,_,m_g,m_o,m_n,m_c,m_e,rfl,(bel_trans (bel_trans (bel_trans (bel_trans (hs13_0) hs13_1) hs13_2) hs13_3) hs13_4).size,bel_set3' (bel_trans (bel_trans (bel_trans (bel_trans (bel_trans (bel_trans (hs13_0) hs13_1) hs13_2) hs13_3) hs13_4) hs13_5) hs13_6) ((bel_trans (bel_trans (bel_trans (bel_trans (hs13_0) hs13_1) hs13_2) hs13_3) hs13_4).size) (.bool m_g) (.slice m_o m_n m_c) (.int .i64 m_e),heap_set (heap_set (heap_set (blk_on hq13_6 (blk_on hq13_5 (heap_a1 y13_4 (.cells #[.bool false,.slice none 0 0,.int .i64 0] 40)))) 0 (.bool m_g)) 1 (.slice m_o m_n m_c)) 2 (.int .i64 m_e),dan_res3 m_A (blk_on hq13_6 (blk_on hq13_5 (heap_a1 y13_4 (.cells #[.bool false,.slice none 0 0,.int .i64 0] 40)))) (.bool m_g) (.slice m_o m_n m_c) (.int .i64 m_e)⟩
            . exact ⟨rfl,_,m_g,m_o,m_n,m_c,m_e,rfl,(bel_trans (bel_trans (bel_trans (hs13_0) hs13_1) hs13_2) hs13_3).size,bel_set3' (bel_trans (bel_trans (bel_trans (bel_trans (bel_trans (bel_trans (hs13_0) hs13_1) hs13_2) hs13_3) hs13_4) hs13_5) hs13_6) ((bel_trans (bel_trans (bel_trans (hs13_0) hs13_1) hs13_2) hs13_3).size) (.bool m_g) (.slice m_o m_n m_c) (.int .i64 m_e),heap_set (heap_set (heap_set (blk_on hq13_6 (blk_on hq13_5 (blk_on hq13_4 (heap_a1 y13_3 (.cells #[.bool false,.slice none 0 0,.int .i64 0] 40))))) 0 (.bool m_g)) 1 (.slice m_o m_n m_c)) 2 (.int .i64 m_e),dan_res3 m_A (blk_on hq13_6 (blk_on hq13_5 (blk_on hq13_4 (heap_a1 y13_3 (.cells #[.bool false,.slice none 0 0,.int .i64 0] 40))))) (.bool m_g) (.slice m_o m_n m_c) (.int .i64 m_e)⟩
            . exact ⟨rfl,_,m_g,m_o,m_n,m_c,m_e,rfl,(bel_trans (bel_trans (hs13_0) hs13_1) hs13_2).size,bel_set3' (bel_trans (bel_trans (bel_trans (bel_trans (bel_trans (bel_trans (hs13_0) hs13_1) hs13_2) hs13_3) hs13_4) hs13_5) hs13_6) ((bel_trans (bel_trans (hs13_0) hs13_1) hs13_2).size) (.bool m_g) (.slice m_o m_n m_c) (.int .i64 m_e),heap_set (heap_set (heap_set (blk_on hq13_6 (blk_on hq13_5 (blk_on hq13_4 (blk_on hq13_3 (heap_a1 y13_2 (.cells #[.bool false,.slice none 0 0,.int .i64 0] 40)))))) 0 (.bool m_g)) 1 (.slice m_o m_n m_c)) 2 (.int .i64 m_e),dan_res3 m_A (blk_on hq13_6 (blk_on hq13_5 (blk_on hq13_4 (blk_on hq13_3 (heap_a1 y13_2 (.cells #[.bool false,.slice none 0 0,.int .i64 0] 40)))))) (.bool m_g) (.slice m_o m_n m_c) (.int .i64 m_e)⟩
            . exact ⟨rfl,_,m_g,m_o,m_n,m_c,m_e,rfl,(bel_trans (hs13_0) hs13_1).size,bel_set3' (bel_trans (bel_trans (bel_trans (bel_trans (bel_trans (bel_trans (hs13_0) hs13_1) hs13_2) hs13_3) hs13_4) hs13_5) hs13_6) ((bel_trans (hs13_0) hs13_1).size) (.bool m_g) (.slice m_o m_n m_c) (.int .i64 m_e),heap_set (heap_set (heap_set (blk_on hq13_6 (blk_on hq13_5 (blk_on hq13_4 (blk_on hq13_3 (blk_on hq13_2 (heap_a1 y13_1 (.cells #[.bool false,.slice none 0 0,.int .i64 0] 40))))))) 0 (.bool m_g)) 1 (.slice m_o m_n m_c)) 2 (.int .i64 m_e),dan_res3 m_A (blk_on hq13_6 (blk_on hq13_5 (blk_on hq13_4 (blk_on hq13_3 (blk_on hq13_2 (heap_a1 y13_1 (.cells #[.bool false,.slice none 0 0,.int .i64 0] 40))))))) (.bool m_g) (.slice m_o m_n m_c) (.int .i64 m_e)⟩
            . exact ⟨rfl,_,m_g,m_o,m_n,m_c,m_e,rfl,Nat.le_refl _,bel_set3' (bel_trans (bel_trans (bel_trans (bel_trans (bel_trans (bel_trans (hs13_0) hs13_1) hs13_2) hs13_3) hs13_4) hs13_5) hs13_6) (Nat.le_refl _) (.bool m_g) (.slice m_o m_n m_c) (.int .i64 m_e),heap_set (heap_set (heap_set (blk_on hq13_6 (blk_on hq13_5 (blk_on hq13_4 (blk_on hq13_3 (blk_on hq13_2 (blk_on hq13_1 (heap_a1d wr (.cells #[.bool false,.slice none 0 0,.int .i64 0] 40)))))))) 0 (.bool m_g)) 1 (.slice m_o m_n m_c)) 2 (.int .i64 m_e),dan_res3 m_A (blk_on hq13_6 (blk_on hq13_5 (blk_on hq13_4 (blk_on hq13_3 (blk_on hq13_2 (blk_on hq13_1 (heap_a1d wr (.cells #[.bool false,.slice none 0 0,.int .i64 0] 40)))))))) (.bool m_g) (.slice m_o m_n m_c) (.int .i64 m_e)⟩
          case rest=>
            obtain ⟨rfl,g,m_g,m_o,m_n,m_c,m_e,rfl,hge,hwc,m_k,mD⟩:=hcut
            replace k_k:=blk_on hwc k_k
            replace r_k:=blk_on hwc r_k
            replace x_k:=blk_on hwc x_k
            replace y_k:=blk_on hwc y_k
            replace l_k:=blk_on hwc l_k
            replace s_k:=blk_on hwc s_k
            have HX2:=hideIt (HX.out.keeps hwc)
            have HY2:=hideIt (HY.out.keeps hwc)
            have HL2:=hideIt (HL.out.keeps hwc)
            have sD:=HS.out.keeps hwc
            skip
            replace hbw:=bel_trans hbw hwc
            clear HX HY HL HS hwc TT xjN xlN yjN ylN bj bl cj cl xj0 xj1 xj2 xjD xl0 xl1 xl2 xlD yj0 yj1 yj2 yjD yl0 yl1 yl2 ylD
            obtain ⟨q_g,q_o,q_n,q_c,q_e,q0,q1,q2,qD⟩:=HL2.out.e 1 (by decide)
            have qN:=(qD (by decide)).num
            clear qD
            have TT:=hT.keeps hbw
            have hl:=hL 1 (by decide)
            have ht:=hT3 1 (by decide)
            have bS:=su_bd (fun i hi=>(hT3 i hi).2) (show 4*K+10<=4194304 by omega) 1 (by decide)
            go_upto_region 14 with (fail)
            have hngs:g≠gs:=by omega
            have hC0:=(bel_refl wc).drew
            have KK2:∀ W,Below wc.heap.size wc W->W.cell? ⟨w.heap.size,0,none⟩=some (.func (.func 97) #[] #[])∧W.cell? ⟨w.heap.size,2,none⟩=some (.func (.func 99) #[] #[])∧W.cell? ⟨w.heap.size+1+1+1+1,3,none⟩=some (.bool q_g)∧W.cell? ⟨w.heap.size+1+1+1+1,4,none⟩=some (.slice q_o q_n q_c)∧W.cell? ⟨w.heap.size+1+1+1+1,5,none⟩=some (.int .i64 q_e)∧W.cell? ⟨g,0,none⟩=some (.bool m_g)∧W.cell? ⟨g,1,none⟩=some (.slice m_o m_n m_c)∧W.cell? ⟨g,2,none⟩=some (.int .i64 m_e):=fun W hb=>⟨q_cell (blkC k_k 0 rfl) hb,q_cell (blkC k_k 2 rfl) hb,q_cell (blkC l_k 3 q0) hb,q_cell (blkC l_k 4 q1) hb,q_cell (blkC l_k 5 q2) hb,q_cell (blkC m_k 0 rfl) hb,q_cell (blkC m_k 1 rfl) hb,q_cell (blkC m_k 2 rfl) hb⟩
            skip
            have sa0:=q_cell (blkC s_k 0 rfl) hC0
            have sa1:=q_cell (blkC s_k 1 rfl) hC0
            have sa2:=q_cell (blkC s_k 2 rfl) hC0
            refine wp_region_held_drew (S:=fun W=>W.cell? ⟨w.heap.size,0,none⟩=some (.func (.func 97) #[] #[])∧W.cell? ⟨w.heap.size,2,none⟩=some (.func (.func 99) #[] #[])∧W.cell? ⟨w.heap.size+1+1+1+1,3,none⟩=some (.bool q_g)∧W.cell? ⟨w.heap.size+1+1+1+1,4,none⟩=some (.slice q_o q_n q_c)∧W.cell? ⟨w.heap.size+1+1+1+1,5,none⟩=some (.int .i64 q_e)∧W.cell? ⟨g,0,none⟩=some (.bool m_g)∧W.cell? ⟨g,1,none⟩=some (.slice m_o m_n m_c)∧W.cell? ⟨g,2,none⟩=some (.int .i64 m_e)) (by kernel_rfl) (KK2 _ hC0) (fun hHeld0=>?_)
            refine wpAnyH_take (i:=0) (v:=?_) rfl (by kernel_rfl) (by kernel_rfl) (by kernel_rfl) (fun _ _ _ h=>h) (Or.inl ⟨by kernel_rfl,?_⟩) (by assumption) ?_
            rotate_left
            . intro w hSw; (try dsimp only at hSw); go_simp; first | done | with_reducible rfl
            try simp only [Act.put,List.setIfInBounds_toArray,List.set_cons_zero,List.set_cons_succ,List.getElem_toArray,List.getElem_cons_zero,List.getElem_cons_succ]
            refine wpAnyH_take (i:=1) (v:=?_) rfl (by kernel_rfl) (by kernel_rfl) (by kernel_rfl) (fun _ _ _ h=>h) (Or.inl ⟨by kernel_rfl,?_⟩) (by assumption) ?_
            rotate_left
            . intro w hSw; (try dsimp only at hSw); go_simp; first | done | with_reducible rfl
            try simp only [Act.put,List.setIfInBounds_toArray,List.set_cons_zero,List.set_cons_succ,List.getElem_toArray,List.getElem_cons_zero,List.getElem_cons_succ]
            refine wpAnyH_take (i:=3) (v:=?_) rfl (by kernel_rfl) (by kernel_rfl) (by kernel_rfl) (fun _ _ _ h=>h) (Or.inl ⟨by kernel_rfl,?_⟩) (by assumption) ?_
            rotate_left
            . intro w hSw; (try dsimp only at hSw); go_simp; first | done | with_reducible rfl
            try simp only [Act.put,List.setIfInBounds_toArray,List.set_cons_zero,List.set_cons_succ,List.getElem_toArray,List.getElem_cons_zero,List.getElem_cons_succ]
            refine wpAnyH_take (i:=4) (v:=?_) rfl (by kernel_rfl) (by kernel_rfl) (by kernel_rfl) (fun _ _ _ h=>h) (Or.inl ⟨by kernel_rfl,?_⟩) (by assumption) ?_
            rotate_left
            . intro w hSw; (try dsimp only at hSw); go_simp; first | done | with_reducible rfl
            try simp only [Act.put,List.setIfInBounds_toArray,List.set_cons_zero,List.set_cons_succ,List.getElem_toArray,List.getElem_cons_zero,List.getElem_cons_succ]
            refine wpAnyH_take (i:=5) (v:=?_) rfl (by kernel_rfl) (by kernel_rfl) (by kernel_rfl) (fun _ _ _ h=>h) (Or.inl ⟨by kernel_rfl,?_⟩) (by assumption) ?_
            rotate_left
            . intro w hSw; (try dsimp only at hSw); go_simp; first | done | with_reducible rfl
            try simp only [Act.put,List.setIfInBounds_toArray,List.set_cons_zero,List.set_cons_succ,List.getElem_toArray,List.getElem_cons_zero,List.getElem_cons_succ]
            refine wpAnyH_take (i:=6) (v:=?_) rfl (by kernel_rfl) (by kernel_rfl) (by kernel_rfl) (fun _ _ _ h=>h) (Or.inl ⟨by kernel_rfl,?_⟩) (by assumption) ?_
            rotate_left
            . intro w hSw; (try dsimp only at hSw); go_simp; first | done | with_reducible rfl
            try simp only [Act.put,List.setIfInBounds_toArray,List.set_cons_zero,List.set_cons_succ,List.getElem_toArray,List.getElem_cons_zero,List.getElem_cons_succ]
            refine wpAnyH_take (i:=7) (v:=?_) rfl (by kernel_rfl) (by kernel_rfl) (by kernel_rfl) (fun _ _ _ h=>h) (Or.inl ⟨by kernel_rfl,?_⟩) (by assumption) ?_
            rotate_left
            . intro w hSw; (try dsimp only at hSw); go_simp; first | done | with_reducible rfl
            try simp only [Act.put,List.setIfInBounds_toArray,List.set_cons_zero,List.set_cons_succ,List.getElem_toArray,List.getElem_cons_zero,List.getElem_cons_succ]
            refine wpAnyH_take (i:=8) (v:=?_) rfl (by kernel_rfl) (by kernel_rfl) (by kernel_rfl) (fun _ _ _ h=>h) (Or.inl ⟨by kernel_rfl,?_⟩) (by assumption) ?_
            rotate_left
            . intro w hSw; (try dsimp only at hSw); go_simp; first | done | with_reducible rfl
            try simp only [Act.put,List.setIfInBounds_toArray,List.set_cons_zero,List.set_cons_succ,List.getElem_toArray,List.getElem_cons_zero,List.getElem_cons_succ]
            refine wpAnyH_ready (rs:=[2,9]) (by kernel_rfl) (by simp) ?_
            refine AllReadyH.cons rfl (fun K hK=>?_) (AllReadyH.cons rfl (fun K hK=>?_) (AllReadyH.nil))
            . go_simp
              refine hK.out _ _ (KK2 _ hC0) (fun hHeld1=>?_)
              clear hK K hHeld0
              try simp only [Act.put,List.setIfInBounds_toArray,List.set_cons_zero,List.set_cons_succ,List.getElem_toArray,List.getElem_cons_zero,List.getElem_cons_succ]
              refine wpAnyH_ready (rs:=[9]) (by kernel_rfl) (by simp) ?_
              refine AllReadyH.cons rfl (fun K hK=>?_) (AllReadyH.nil)
              go_simp
              refine (mul_B (qN.keeps hC0) (mD.num.keeps hC0) hl.2 hm.2 (by omega) (TT.keeps hC0)).mono ?_
              rintro _ y1 ⟨v,C1,rfl,d1,E1,B1⟩
              obtain ⟨a_g,a_o,a_n,a_c,a_e,rfl⟩:=dans_shape d1
              have hs1:=d1.below
              have hC1:=bel_trans hC0 hs1
              have sb0:=q_cell (blkC s_k 0 rfl) hC1
              have sb1:=q_cell (blkC s_k 1 rfl) hC1
              have sb2:=q_cell (blkC s_k 2 rfl) hC1
              refine hK.out _ _ (KK2 _ hC1) (fun hHeld2=>?_)
              clear hK K hHeld1
              try simp only [Act.put,List.setIfInBounds_toArray,List.set_cons_zero,List.set_cons_succ,List.getElem_toArray,List.getElem_cons_zero,List.getElem_cons_succ]
              refine wpAnyH_take (i:=10) (v:=?_) rfl (by kernel_rfl) (by kernel_rfl) (by kernel_rfl) (fun _ _ _ h=>h) (Or.inl ⟨by kernel_rfl,?_⟩) (by assumption) ?_
              rotate_left
              . intro w hSw; (try dsimp only at hSw); go_simp; first | done | with_reducible rfl
              try simp only [Act.put,List.setIfInBounds_toArray,List.set_cons_zero,List.set_cons_succ,List.getElem_toArray,List.getElem_cons_zero,List.getElem_cons_succ]
              refine wpAnyH_take (i:=11) (v:=?_) rfl (by kernel_rfl) (by kernel_rfl) (by kernel_rfl) (fun _ _ _ h=>h) (Or.inl ⟨by kernel_rfl,?_⟩) (by assumption) ?_
              rotate_left
              . intro w hSw; (try dsimp only at hSw); go_simp; first | done | with_reducible rfl
              try simp only [Act.put,List.setIfInBounds_toArray,List.set_cons_zero,List.set_cons_succ,List.getElem_toArray,List.getElem_cons_zero,List.getElem_cons_succ]
              refine wpAnyH_ready (rs:=[12]) (by kernel_rfl) (by simp) ?_
              refine AllReadyH.cons rfl (fun K hK=>?_) (AllReadyH.nil)
              go_simp
              refine (csure_any _ _ _ _ _ _ _).mono ?_
              rintro _ y2 ⟨rfl,hs2⟩
              have hC2:=bel_trans hC1 hs2
              have a_D:=d1.num.keeps hs2
              have sc0:=q_cell (blkC s_k 0 rfl) hC2
              have sc1:=q_cell (blkC s_k 1 rfl) hC2
              have sc2:=q_cell (blkC s_k 2 rfl) hC2
              refine hK.out _ _ (KK2 _ hC2) (fun hHeld3=>?_)
              clear hK K hHeld2
              try simp only [Act.put,List.setIfInBounds_toArray,List.set_cons_zero,List.set_cons_succ,List.getElem_toArray,List.getElem_cons_zero,List.getElem_cons_succ]
              refine wpAnyH_ready (rs:=[13]) (by kernel_rfl) (by simp) ?_
              refine AllReadyH.cons rfl (fun K hK=>?_) (AllReadyH.nil)
              go_simp
              refine (add_B (sD.num.keeps hC2) a_D bS (B1.up (by omega) (by omega)) (by omega) (TT.keeps hC2)).mono ?_
              rintro _ y3 ⟨v,rfl,d3⟩
              obtain ⟨n_g,n_o,n_n,n_c,n_e,rfl⟩:=dans_shape d3
              have hs3:=d3.below
              have hC3:=bel_trans hC2 hs3
              refine hK.out _ _ (KK2 _ hC3) (fun hHeld4=>?_)
              clear hK K hHeld3
              try simp only [Act.put,List.setIfInBounds_toArray,List.set_cons_zero,List.set_cons_succ,List.getElem_toArray,List.getElem_cons_zero,List.getElem_cons_succ]
              refine wpAnyH_take (i:=14) (v:=?_) rfl (by kernel_rfl) (by kernel_rfl) (by kernel_rfl) (fun _ _ _ h=>h) (Or.inl ⟨by kernel_rfl,?_⟩) (by assumption) ?_
              rotate_left
              . intro w hSw; (try dsimp only at hSw); go_simp; first | done | with_reducible rfl
              try simp only [Act.put,List.setIfInBounds_toArray,List.set_cons_zero,List.set_cons_succ,List.getElem_toArray,List.getElem_cons_zero,List.getElem_cons_succ]
              refine wpAnyH_take (i:=15) (v:=?_) rfl (by kernel_rfl) (by kernel_rfl) (by kernel_rfl) (fun _ _ _ h=>h) (Or.inl ⟨by kernel_rfl,?_⟩) (by assumption) ?_
              rotate_left
              . intro w hSw; (try dsimp only at hSw); go_simp; first | done | with_reducible rfl
              try simp only [Act.put,List.setIfInBounds_toArray,List.set_cons_zero,List.set_cons_succ,List.getElem_toArray,List.getElem_cons_zero,List.getElem_cons_succ]
              refine wpAnyH_ready (rs:=[16]) (by kernel_rfl) (by simp) ?_
              refine AllReadyH.cons rfl (fun K hK=>?_) (AllReadyH.nil)
              go_simp
              refine (csure_any _ _ _ _ _ _ _).mono ?_
              rintro _ y4 ⟨rfl,hs4⟩
              have hC4:=bel_trans hC3 hs4
              have n_D:=(d3.dan.keeps hs4).lower (bel_trans hbw hC2).size
              have rk:=blk_on hC4 s_k
              have e0:=blkC rk 0 rfl
              have e1:=blkC rk 1 rfl
              have e2:=blkC rk 2 rfl
              have z0:=blkF rk 0
              have z1:=blkF rk 1
              have z2:=blkF rk 2
              refine hK.out _ _ (KK2 _ hC4) (fun hHeld5=>?_)
              clear hK K hHeld4
              try simp only [Act.put,List.setIfInBounds_toArray,List.set_cons_zero,List.set_cons_succ,List.getElem_toArray,List.getElem_cons_zero,List.getElem_cons_succ]
              refine wpAnyH_ready (rs:=[17]) (by kernel_rfl) (by simp) ?_
              refine AllReadyH.cons rfl (fun K hK=>?_) (AllReadyH.nil)
              go_simp
              refine hK.out _ _ ⟨cell_c3 (KK2 _ hC4).1 _ _ _ (show w.heap.size≠gs by omega),cell_c3 (KK2 _ hC4).2.1 _ _ _ (show w.heap.size≠gs by omega),cell_c3 (KK2 _ hC4).2.2.1 _ _ _ (show w.heap.size+1+1+1+1≠gs by omega),cell_c3 (KK2 _ hC4).2.2.2.1 _ _ _ (show w.heap.size+1+1+1+1≠gs by omega),cell_c3 (KK2 _ hC4).2.2.2.2.1 _ _ _ (show w.heap.size+1+1+1+1≠gs by omega),cell_c3 (KK2 _ hC4).2.2.2.2.2.1 _ _ _ hngs,cell_c3 (KK2 _ hC4).2.2.2.2.2.2.1 _ _ _ hngs,cell_c3 (KK2 _ hC4).2.2.2.2.2.2.2 _ _ _ hngs⟩ (fun hHeld6=>?_)
              clear hK K hHeld5
              try simp only [Act.put,List.setIfInBounds_toArray,List.set_cons_zero,List.set_cons_succ,List.getElem_toArray,List.getElem_cons_zero,List.getElem_cons_succ]
              refine wpAnyH_done (by kernel_rfl) ?_ _
              have eT:C1=T 1:=scale_inj (E1.trans ht.1.symm)
              rw [eT] at n_D
              have HX3:=hideIt ((HX2.out.keeps hC4).set rk (by decide) 0 1 2 (.bool n_g) (.slice n_o n_n n_c) (.int .i64 n_e))
              have HY3:=hideIt ((HY2.out.keeps hC4).set rk (by decide) 0 1 2 (.bool n_g) (.slice n_o n_n n_c) (.int .i64 n_e))
              have HL3:=hideIt ((HL2.out.keeps hC4).set rk (by decide) 0 1 2 (.bool n_g) (.slice n_o n_n n_c) (.int .i64 n_e))
              have k_k3:=cc_n3 (blk_on hC4 k_k) (show w.heap.size≠gs by omega) 0 1 2 (.bool n_g) (.slice n_o n_n n_c) (.int .i64 n_e)
              have r_k3:=cc_n3 (blk_on hC4 r_k) (show w.heap.size+1≠gs by omega) 0 1 2 (.bool n_g) (.slice n_o n_n n_c) (.int .i64 n_e)
              have x_k3:=cc_n3 (blk_on hC4 x_k) (show w.heap.size+1+1≠gs by omega) 0 1 2 (.bool n_g) (.slice n_o n_n n_c) (.int .i64 n_e)
              have y_k3:=cc_n3 (blk_on hC4 y_k) (show w.heap.size+1+1+1≠gs by omega) 0 1 2 (.bool n_g) (.slice n_o n_n n_c) (.int .i64 n_e)
              have l_k3:=cc_n3 (blk_on hC4 l_k) (show w.heap.size+1+1+1+1≠gs by omega) 0 1 2 (.bool n_g) (.slice n_o n_n n_c) (.int .i64 n_e)
              have s_k3:=heap_set (heap_set (heap_set rk 0 (.bool n_g)) 1 (.slice n_o n_n n_c)) 2 (.int .i64 n_e)
              have HS3:Hid (DAn w.heap.size _ (su T 2) (.agg #[.bool n_g,.slice n_o n_n n_c,.int .i64 n_e])):=dan_res3 n_D rk (.bool n_g) (.slice n_o n_n n_c) (.int .i64 n_e)
              have hb3:=cc_s3 (bel_trans hbw hC4) (show w.heap.size<=gs by omega) 0 1 2 (.bool n_g) (.slice n_o n_n n_c) (.int .i64 n_e)
              clear e0 e1 e2 z0 z1 z2
              go_wp2_with fail
              go_roundw
              case rel=>(repeat apply Exists.intro); exact ⟨⟨2,by omega,by go_num,_,_,_,_,_,s_k3,HS3,HX3,HY3,HL3,k_k3,r_k3,x_k3,y_k3,l_k3,hb3⟩,rfl⟩
              case measure=>simp [intOf]
            . go_simp
              refine (mul_B (qN.keeps hC0) (mD.num.keeps hC0) hl.2 hm.2 (by omega) (TT.keeps hC0)).mono ?_
              rintro _ y1 ⟨v,C1,rfl,d1,E1,B1⟩
              obtain ⟨a_g,a_o,a_n,a_c,a_e,rfl⟩:=dans_shape d1
              have hs1:=d1.below
              have hC1:=bel_trans hC0 hs1
              have sb0:=q_cell (blkC s_k 0 rfl) hC1
              have sb1:=q_cell (blkC s_k 1 rfl) hC1
              have sb2:=q_cell (blkC s_k 2 rfl) hC1
              refine hK.out _ _ (KK2 _ hC1) (fun hHeld1=>?_)
              clear hK K hHeld0
              try simp only [Act.put,List.setIfInBounds_toArray,List.set_cons_zero,List.set_cons_succ,List.getElem_toArray,List.getElem_cons_zero,List.getElem_cons_succ]
              refine wpAnyH_take (i:=10) (v:=?_) rfl (by kernel_rfl) (by kernel_rfl) (by kernel_rfl) (fun _ _ _ h=>h) (Or.inl ⟨by kernel_rfl,?_⟩) (by assumption) ?_
              rotate_left
              . intro w hSw; (try dsimp only at hSw); go_simp; first | done | with_reducible rfl
              try simp only [Act.put,List.setIfInBounds_toArray,List.set_cons_zero,List.set_cons_succ,List.getElem_toArray,List.getElem_cons_zero,List.getElem_cons_succ]
              refine wpAnyH_take (i:=11) (v:=?_) rfl (by kernel_rfl) (by kernel_rfl) (by kernel_rfl) (fun _ _ _ h=>h) (Or.inl ⟨by kernel_rfl,?_⟩) (by assumption) ?_
              rotate_left
              . intro w hSw; (try dsimp only at hSw); go_simp; first | done | with_reducible rfl
              try simp only [Act.put,List.setIfInBounds_toArray,List.set_cons_zero,List.set_cons_succ,List.getElem_toArray,List.getElem_cons_zero,List.getElem_cons_succ]
              refine wpAnyH_ready (rs:=[2,12]) (by kernel_rfl) (by simp) ?_
              refine AllReadyH.cons rfl (fun K hK=>?_) (AllReadyH.cons rfl (fun K hK=>?_) (AllReadyH.nil))
              . go_simp
                refine hK.out _ _ (KK2 _ hC1) (fun hHeld2=>?_)
                clear hK K hHeld1
                try simp only [Act.put,List.setIfInBounds_toArray,List.set_cons_zero,List.set_cons_succ,List.getElem_toArray,List.getElem_cons_zero,List.getElem_cons_succ]
                refine wpAnyH_ready (rs:=[12]) (by kernel_rfl) (by simp) ?_
                refine AllReadyH.cons rfl (fun K hK=>?_) (AllReadyH.nil)
                go_simp
                refine (csure_any _ _ _ _ _ _ _).mono ?_
                rintro _ y2 ⟨rfl,hs2⟩
                have hC2:=bel_trans hC1 hs2
                have a_D:=d1.num.keeps hs2
                have sc0:=q_cell (blkC s_k 0 rfl) hC2
                have sc1:=q_cell (blkC s_k 1 rfl) hC2
                have sc2:=q_cell (blkC s_k 2 rfl) hC2
                refine hK.out _ _ (KK2 _ hC2) (fun hHeld3=>?_)
                clear hK K hHeld2
                try simp only [Act.put,List.setIfInBounds_toArray,List.set_cons_zero,List.set_cons_succ,List.getElem_toArray,List.getElem_cons_zero,List.getElem_cons_succ]
                refine wpAnyH_ready (rs:=[13]) (by kernel_rfl) (by simp) ?_
                refine AllReadyH.cons rfl (fun K hK=>?_) (AllReadyH.nil)
                go_simp
                refine (add_B (sD.num.keeps hC2) a_D bS (B1.up (by omega) (by omega)) (by omega) (TT.keeps hC2)).mono ?_
                rintro _ y3 ⟨v,rfl,d3⟩
                obtain ⟨n_g,n_o,n_n,n_c,n_e,rfl⟩:=dans_shape d3
                have hs3:=d3.below
                have hC3:=bel_trans hC2 hs3
                refine hK.out _ _ (KK2 _ hC3) (fun hHeld4=>?_)
                clear hK K hHeld3
                try simp only [Act.put,List.setIfInBounds_toArray,List.set_cons_zero,List.set_cons_succ,List.getElem_toArray,List.getElem_cons_zero,List.getElem_cons_succ]
                refine wpAnyH_take (i:=14) (v:=?_) rfl (by kernel_rfl) (by kernel_rfl) (by kernel_rfl) (fun _ _ _ h=>h) (Or.inl ⟨by kernel_rfl,?_⟩) (by assumption) ?_
                rotate_left
                . intro w hSw; (try dsimp only at hSw); go_simp; first | done | with_reducible rfl
                try simp only [Act.put,List.setIfInBounds_toArray,List.set_cons_zero,List.set_cons_succ,List.getElem_toArray,List.getElem_cons_zero,List.getElem_cons_succ]
                refine wpAnyH_take (i:=15) (v:=?_) rfl (by kernel_rfl) (by kernel_rfl) (by kernel_rfl) (fun _ _ _ h=>h) (Or.inl ⟨by kernel_rfl,?_⟩) (by assumption) ?_
                rotate_left
                . intro w hSw; (try dsimp only at hSw); go_simp; first | done | with_reducible rfl
                try simp only [Act.put,List.setIfInBounds_toArray,List.set_cons_zero,List.set_cons_succ,List.getElem_toArray,List.getElem_cons_zero,List.getElem_cons_succ]
                refine wpAnyH_ready (rs:=[16]) (by kernel_rfl) (by simp) ?_
                refine AllReadyH.cons rfl (fun K hK=>?_) (AllReadyH.nil)
                go_simp
                refine (csure_any _ _ _ _ _ _ _).mono ?_
                rintro _ y4 ⟨rfl,hs4⟩
                have hC4:=bel_trans hC3 hs4
                have n_D:=(d3.dan.keeps hs4).lower (bel_trans hbw hC2).size
                have rk:=blk_on hC4 s_k
                have e0:=blkC rk 0 rfl
                have e1:=blkC rk 1 rfl
                have e2:=blkC rk 2 rfl
                have z0:=blkF rk 0
                have z1:=blkF rk 1
                have z2:=blkF rk 2
                refine hK.out _ _ (KK2 _ hC4) (fun hHeld5=>?_)
                clear hK K hHeld4
                try simp only [Act.put,List.setIfInBounds_toArray,List.set_cons_zero,List.set_cons_succ,List.getElem_toArray,List.getElem_cons_zero,List.getElem_cons_succ]
                refine wpAnyH_ready (rs:=[17]) (by kernel_rfl) (by simp) ?_
                refine AllReadyH.cons rfl (fun K hK=>?_) (AllReadyH.nil)
                go_simp
                refine hK.out _ _ ⟨cell_c3 (KK2 _ hC4).1 _ _ _ (show w.heap.size≠gs by omega),cell_c3 (KK2 _ hC4).2.1 _ _ _ (show w.heap.size≠gs by omega),cell_c3 (KK2 _ hC4).2.2.1 _ _ _ (show w.heap.size+1+1+1+1≠gs by omega),cell_c3 (KK2 _ hC4).2.2.2.1 _ _ _ (show w.heap.size+1+1+1+1≠gs by omega),cell_c3 (KK2 _ hC4).2.2.2.2.1 _ _ _ (show w.heap.size+1+1+1+1≠gs by omega),cell_c3 (KK2 _ hC4).2.2.2.2.2.1 _ _ _ hngs,cell_c3 (KK2 _ hC4).2.2.2.2.2.2.1 _ _ _ hngs,cell_c3 (KK2 _ hC4).2.2.2.2.2.2.2 _ _ _ hngs⟩ (fun hHeld6=>?_)
                clear hK K hHeld5
                try simp only [Act.put,List.setIfInBounds_toArray,List.set_cons_zero,List.set_cons_succ,List.getElem_toArray,List.getElem_cons_zero,List.getElem_cons_succ]
                refine wpAnyH_done (by kernel_rfl) ?_ _
                have eT:C1=T 1:=scale_inj (E1.trans ht.1.symm)
                rw [eT] at n_D
                have HX3:=hideIt ((HX2.out.keeps hC4).set rk (by decide) 0 1 2 (.bool n_g) (.slice n_o n_n n_c) (.int .i64 n_e))
                have HY3:=hideIt ((HY2.out.keeps hC4).set rk (by decide) 0 1 2 (.bool n_g) (.slice n_o n_n n_c) (.int .i64 n_e))
                have HL3:=hideIt ((HL2.out.keeps hC4).set rk (by decide) 0 1 2 (.bool n_g) (.slice n_o n_n n_c) (.int .i64 n_e))
                have k_k3:=cc_n3 (blk_on hC4 k_k) (show w.heap.size≠gs by omega) 0 1 2 (.bool n_g) (.slice n_o n_n n_c) (.int .i64 n_e)
                have r_k3:=cc_n3 (blk_on hC4 r_k) (show w.heap.size+1≠gs by omega) 0 1 2 (.bool n_g) (.slice n_o n_n n_c) (.int .i64 n_e)
                have x_k3:=cc_n3 (blk_on hC4 x_k) (show w.heap.size+1+1≠gs by omega) 0 1 2 (.bool n_g) (.slice n_o n_n n_c) (.int .i64 n_e)
                have y_k3:=cc_n3 (blk_on hC4 y_k) (show w.heap.size+1+1+1≠gs by omega) 0 1 2 (.bool n_g) (.slice n_o n_n n_c) (.int .i64 n_e)
                have l_k3:=cc_n3 (blk_on hC4 l_k) (show w.heap.size+1+1+1+1≠gs by omega) 0 1 2 (.bool n_g) (.slice n_o n_n n_c) (.int .i64 n_e)
                have s_k3:=heap_set (heap_set (heap_set rk 0 (.bool n_g)) 1 (.slice n_o n_n n_c)) 2 (.int .i64 n_e)
                have HS3:Hid (DAn w.heap.size _ (su T 2) (.agg #[.bool n_g,.slice n_o n_n n_c,.int .i64 n_e])):=dan_res3 n_D rk (.bool n_g) (.slice n_o n_n n_c) (.int .i64 n_e)
                have hb3:=cc_s3 (bel_trans hbw hC4) (show w.heap.size<=gs by omega) 0 1 2 (.bool n_g) (.slice n_o n_n n_c) (.int .i64 n_e)
                clear e0 e1 e2 z0 z1 z2
                go_wp2_with fail
                go_roundw
                case rel=>(repeat apply Exists.intro); exact ⟨⟨2,by omega,by go_num,_,_,_,_,_,s_k3,HS3,HX3,HY3,HL3,k_k3,r_k3,x_k3,y_k3,l_k3,hb3⟩,rfl⟩
                case measure=>simp [intOf]
              . go_simp
                refine (csure_any _ _ _ _ _ _ _).mono ?_
                rintro _ y2 ⟨rfl,hs2⟩
                have hC2:=bel_trans hC1 hs2
                have a_D:=d1.num.keeps hs2
                have sc0:=q_cell (blkC s_k 0 rfl) hC2
                have sc1:=q_cell (blkC s_k 1 rfl) hC2
                have sc2:=q_cell (blkC s_k 2 rfl) hC2
                refine hK.out _ _ (KK2 _ hC2) (fun hHeld2=>?_)
                clear hK K hHeld1
                try simp only [Act.put,List.setIfInBounds_toArray,List.set_cons_zero,List.set_cons_succ,List.getElem_toArray,List.getElem_cons_zero,List.getElem_cons_succ]
                refine wpAnyH_ready (rs:=[2]) (by kernel_rfl) (by simp) ?_
                refine AllReadyH.cons rfl (fun K hK=>?_) (AllReadyH.nil)
                go_simp
                refine hK.out _ _ (KK2 _ hC2) (fun hHeld3=>?_)
                clear hK K hHeld2
                try simp only [Act.put,List.setIfInBounds_toArray,List.set_cons_zero,List.set_cons_succ,List.getElem_toArray,List.getElem_cons_zero,List.getElem_cons_succ]
                refine wpAnyH_ready (rs:=[13]) (by kernel_rfl) (by simp) ?_
                refine AllReadyH.cons rfl (fun K hK=>?_) (AllReadyH.nil)
                go_simp
                refine (add_B (sD.num.keeps hC2) a_D bS (B1.up (by omega) (by omega)) (by omega) (TT.keeps hC2)).mono ?_
                rintro _ y3 ⟨v,rfl,d3⟩
                obtain ⟨n_g,n_o,n_n,n_c,n_e,rfl⟩:=dans_shape d3
                have hs3:=d3.below
                have hC3:=bel_trans hC2 hs3
                refine hK.out _ _ (KK2 _ hC3) (fun hHeld4=>?_)
                clear hK K hHeld3
                try simp only [Act.put,List.setIfInBounds_toArray,List.set_cons_zero,List.set_cons_succ,List.getElem_toArray,List.getElem_cons_zero,List.getElem_cons_succ]
                refine wpAnyH_take (i:=14) (v:=?_) rfl (by kernel_rfl) (by kernel_rfl) (by kernel_rfl) (fun _ _ _ h=>h) (Or.inl ⟨by kernel_rfl,?_⟩) (by assumption) ?_
                rotate_left
                . intro w hSw; (try dsimp only at hSw); go_simp; first | done | with_reducible rfl
                try simp only [Act.put,List.setIfInBounds_toArray,List.set_cons_zero,List.set_cons_succ,List.getElem_toArray,List.getElem_cons_zero,List.getElem_cons_succ]
                refine wpAnyH_take (i:=15) (v:=?_) rfl (by kernel_rfl) (by kernel_rfl) (by kernel_rfl) (fun _ _ _ h=>h) (Or.inl ⟨by kernel_rfl,?_⟩) (by assumption) ?_
                rotate_left
                . intro w hSw; (try dsimp only at hSw); go_simp; first | done | with_reducible rfl
                try simp only [Act.put,List.setIfInBounds_toArray,List.set_cons_zero,List.set_cons_succ,List.getElem_toArray,List.getElem_cons_zero,List.getElem_cons_succ]
                refine wpAnyH_ready (rs:=[16]) (by kernel_rfl) (by simp) ?_
                refine AllReadyH.cons rfl (fun K hK=>?_) (AllReadyH.nil)
                go_simp
                refine (csure_any _ _ _ _ _ _ _).mono ?_
                rintro _ y4 ⟨rfl,hs4⟩
                have hC4:=bel_trans hC3 hs4
                have n_D:=(d3.dan.keeps hs4).lower (bel_trans hbw hC2).size
                have rk:=blk_on hC4 s_k
                have e0:=blkC rk 0 rfl
                have e1:=blkC rk 1 rfl
                have e2:=blkC rk 2 rfl
                have z0:=blkF rk 0
                have z1:=blkF rk 1
                have z2:=blkF rk 2
                refine hK.out _ _ (KK2 _ hC4) (fun hHeld5=>?_)
                clear hK K hHeld4
                try simp only [Act.put,List.setIfInBounds_toArray,List.set_cons_zero,List.set_cons_succ,List.getElem_toArray,List.getElem_cons_zero,List.getElem_cons_succ]
                refine wpAnyH_ready (rs:=[17]) (by kernel_rfl) (by simp) ?_
                refine AllReadyH.cons rfl (fun K hK=>?_) (AllReadyH.nil)
                go_simp
                refine hK.out _ _ ⟨cell_c3 (KK2 _ hC4).1 _ _ _ (show w.heap.size≠gs by omega),cell_c3 (KK2 _ hC4).2.1 _ _ _ (show w.heap.size≠gs by omega),cell_c3 (KK2 _ hC4).2.2.1 _ _ _ (show w.heap.size+1+1+1+1≠gs by omega),cell_c3 (KK2 _ hC4).2.2.2.1 _ _ _ (show w.heap.size+1+1+1+1≠gs by omega),cell_c3 (KK2 _ hC4).2.2.2.2.1 _ _ _ (show w.heap.size+1+1+1+1≠gs by omega),cell_c3 (KK2 _ hC4).2.2.2.2.2.1 _ _ _ hngs,cell_c3 (KK2 _ hC4).2.2.2.2.2.2.1 _ _ _ hngs,cell_c3 (KK2 _ hC4).2.2.2.2.2.2.2 _ _ _ hngs⟩ (fun hHeld6=>?_)
                clear hK K hHeld5
                try simp only [Act.put,List.setIfInBounds_toArray,List.set_cons_zero,List.set_cons_succ,List.getElem_toArray,List.getElem_cons_zero,List.getElem_cons_succ]
                refine wpAnyH_done (by kernel_rfl) ?_ _
                have eT:C1=T 1:=scale_inj (E1.trans ht.1.symm)
                rw [eT] at n_D
                have HX3:=hideIt ((HX2.out.keeps hC4).set rk (by decide) 0 1 2 (.bool n_g) (.slice n_o n_n n_c) (.int .i64 n_e))
                have HY3:=hideIt ((HY2.out.keeps hC4).set rk (by decide) 0 1 2 (.bool n_g) (.slice n_o n_n n_c) (.int .i64 n_e))
                have HL3:=hideIt ((HL2.out.keeps hC4).set rk (by decide) 0 1 2 (.bool n_g) (.slice n_o n_n n_c) (.int .i64 n_e))
                have k_k3:=cc_n3 (blk_on hC4 k_k) (show w.heap.size≠gs by omega) 0 1 2 (.bool n_g) (.slice n_o n_n n_c) (.int .i64 n_e)
                have r_k3:=cc_n3 (blk_on hC4 r_k) (show w.heap.size+1≠gs by omega) 0 1 2 (.bool n_g) (.slice n_o n_n n_c) (.int .i64 n_e)
                have x_k3:=cc_n3 (blk_on hC4 x_k) (show w.heap.size+1+1≠gs by omega) 0 1 2 (.bool n_g) (.slice n_o n_n n_c) (.int .i64 n_e)
                have y_k3:=cc_n3 (blk_on hC4 y_k) (show w.heap.size+1+1+1≠gs by omega) 0 1 2 (.bool n_g) (.slice n_o n_n n_c) (.int .i64 n_e)
                have l_k3:=cc_n3 (blk_on hC4 l_k) (show w.heap.size+1+1+1+1≠gs by omega) 0 1 2 (.bool n_g) (.slice n_o n_n n_c) (.int .i64 n_e)
                have s_k3:=heap_set (heap_set (heap_set rk 0 (.bool n_g)) 1 (.slice n_o n_n n_c)) 2 (.int .i64 n_e)
                have HS3:Hid (DAn w.heap.size _ (su T 2) (.agg #[.bool n_g,.slice n_o n_n n_c,.int .i64 n_e])):=dan_res3 n_D rk (.bool n_g) (.slice n_o n_n n_c) (.int .i64 n_e)
                have hb3:=cc_s3 (bel_trans hbw hC4) (show w.heap.size<=gs by omega) 0 1 2 (.bool n_g) (.slice n_o n_n n_c) (.int .i64 n_e)
                clear e0 e1 e2 z0 z1 z2
                go_wp2_with fail
                go_roundw
                case rel=>(repeat apply Exists.intro); exact ⟨⟨2,by omega,by go_num,_,_,_,_,_,s_k3,HS3,HX3,HY3,HL3,k_k3,r_k3,x_k3,y_k3,l_k3,hb3⟩,rfl⟩
                case measure=>simp [intOf]
        . have hgl:=(Array.getElem?_eq_some_iff.1 s_k).1
          obtain ⟨xj_g,xj_o,xj_n,xj_c,xj_e,xj0,xj1,xj2,xjD⟩:=HX.out.e 0 (by decide)
          have xjN:=(xjD (by decide)).num
          obtain ⟨xl_g,xl_o,xl_n,xl_c,xl_e,xl0,xl1,xl2,xlD⟩:=HX.out.e 1 (by decide)
          have xlN:=(xlD (by decide)).num
          obtain ⟨yj_g,yj_o,yj_n,yj_c,yj_e,yj0,yj1,yj2,yjD⟩:=HY.out.e 0 (by decide)
          have yjN:=(yjD (by decide)).num
          obtain ⟨yl_g,yl_o,yl_n,yl_c,yl_e,yl0,yl1,yl2,ylD⟩:=HY.out.e 1 (by decide)
          have ylN:=(ylD (by decide)).num
          have TT:=hT.keeps hbw
          have bj:=bX 0 (by decide)
          have bl:=bX 1 (by decide)
          have cj:=bY 0 (by decide)
          have cl:=bY 1 (by decide)
          have hm:=hM 2 (by decide)
          go_upto_region 13 with (fail)
          have KK:∀ W,Below wr.heap.size wr W->W.cell? ⟨w.heap.size,1,none⟩=some (.func (.func 98) #[] #[])∧W.cell? ⟨w.heap.size,2,none⟩=some (.func (.func 99) #[] #[])∧W.cell? ⟨w.heap.size+1+1,0,none⟩=some (.bool xj_g)∧W.cell? ⟨w.heap.size+1+1,1,none⟩=some (.slice xj_o xj_n xj_c)∧W.cell? ⟨w.heap.size+1+1,2,none⟩=some (.int .i64 xj_e)∧W.cell? ⟨w.heap.size+1+1,3,none⟩=some (.bool xl_g)∧W.cell? ⟨w.heap.size+1+1,4,none⟩=some (.slice xl_o xl_n xl_c)∧W.cell? ⟨w.heap.size+1+1,5,none⟩=some (.int .i64 xl_e)∧W.cell? ⟨w.heap.size+1+1+1,0,none⟩=some (.bool yj_g)∧W.cell? ⟨w.heap.size+1+1+1,1,none⟩=some (.slice yj_o yj_n yj_c)∧W.cell? ⟨w.heap.size+1+1+1,2,none⟩=some (.int .i64 yj_e)∧W.cell? ⟨w.heap.size+1+1+1,3,none⟩=some (.bool yl_g)∧W.cell? ⟨w.heap.size+1+1+1,4,none⟩=some (.slice yl_o yl_n yl_c)∧W.cell? ⟨w.heap.size+1+1+1,5,none⟩=some (.int .i64 yl_e):=fun W hb=>⟨q_cell (blkC k_k 1 rfl) hb,q_cell (blkC k_k 2 rfl) hb,q_cell (blkC x_k 0 xj0) hb,q_cell (blkC x_k 1 xj1) hb,q_cell (blkC x_k 2 xj2) hb,q_cell (blkC x_k 3 xl0) hb,q_cell (blkC x_k 4 xl1) hb,q_cell (blkC x_k 5 xl2) hb,q_cell (blkC y_k 0 yj0) hb,q_cell (blkC y_k 1 yj1) hb,q_cell (blkC y_k 2 yj2) hb,q_cell (blkC y_k 3 yl0) hb,q_cell (blkC y_k 4 yl1) hb,q_cell (blkC y_k 5 yl2) hb⟩
          have hC13_0:=(bel_refl wr).drew
          have hT13_0:Below w.heap.size w wr.drew:=hbw.drew
          have xjN_13_0:=xjN.keeps (bel_refl wr).drew
          have xlN_13_0:=xlN.keeps (bel_refl wr).drew
          have yjN_13_0:=yjN.keeps (bel_refl wr).drew
          have ylN_13_0:=ylN.keeps (bel_refl wr).drew
          have TT_13_0:=TT.keeps (bel_refl wr).drew
          have hs13_0:=(bel_refl wr).drew
          go_cut [13,54] from 54 to 110 (fun sm s54 wx=>s54=.int .i64 2∧∃ g m_g m_o m_n m_c m_e,sm=.pointer (some ⟨g,0,none⟩)∧wr.heap.size<=g∧Below wr.heap.size wr wx∧wx.heap[g]?=some (.cells #[.bool m_g,.slice m_o m_n m_c,.int .i64 m_e] 40 (0,0))∧DAn w.heap.size wx (M 2) (.agg #[.bool m_g,.slice m_o m_n m_c,.int .i64 m_e]))
          case first=>
            clear HX HY HL HS CR hE hT bX bY hL hM hT3 s_k r_k l_k
            go_region_held3 (fun W=>W.cell? ⟨w.heap.size,1,none⟩=some (.func (.func 98) #[] #[])∧W.cell? ⟨w.heap.size,2,none⟩=some (.func (.func 99) #[] #[])∧W.cell? ⟨w.heap.size+1+1,0,none⟩=some (.bool xj_g)∧W.cell? ⟨w.heap.size+1+1,1,none⟩=some (.slice xj_o xj_n xj_c)∧W.cell? ⟨w.heap.size+1+1,2,none⟩=some (.int .i64 xj_e)∧W.cell? ⟨w.heap.size+1+1,3,none⟩=some (.bool xl_g)∧W.cell? ⟨w.heap.size+1+1,4,none⟩=some (.slice xl_o xl_n xl_c)∧W.cell? ⟨w.heap.size+1+1,5,none⟩=some (.int .i64 xl_e)∧W.cell? ⟨w.heap.size+1+1+1,0,none⟩=some (.bool yj_g)∧W.cell? ⟨w.heap.size+1+1+1,1,none⟩=some (.slice yj_o yj_n yj_c)∧W.cell? ⟨w.heap.size+1+1+1,2,none⟩=some (.int .i64 yj_e)∧W.cell? ⟨w.heap.size+1+1+1,3,none⟩=some (.bool yl_g)∧W.cell? ⟨w.heap.size+1+1+1,4,none⟩=some (.slice yl_o yl_n yl_c)∧W.cell? ⟨w.heap.size+1+1+1,5,none⟩=some (.int .i64 yl_e))
              (with_reducible first | assumption | (refine KK _ ?_; first | assumption | exact (bel_alloc _ _).drew | (refine bel_trans ?_ (bel_alloc _ _); assumption) | (refine bel_set3' ?_ (by first | exact Nat.le_refl _ | exact hC13_1.size | exact hC13_2.size | exact hC13_3.size | exact hC13_4.size | exact hC13_5.size) _ _ _; assumption)) | fail)
              (first
                | (go_at_call 149; have _t:=hs13_5; refine (csure_any _ _ _ _ _ _ _).mono ?_; rintro _ y13_6 ⟨rfl,hq13_6⟩; have hs13_6:Below y13_5.heap.size y13_5 y13_6:=(by with_reducible first | exact hq13_6 | exact bel_trans (bel_alloc _ _) hq13_6 | exact bel_trans (bel_dr _ _) hq13_6); have hT13_6:=bel_trans hT13_5 hs13_6; have hC13_6:=bel_trans hC13_5 hs13_6; have xjN_13_6:=xjN_13_5.keeps hs13_6; have xlN_13_6:=xlN_13_5.keeps hs13_6; have yjN_13_6:=yjN_13_5.keeps hs13_6; have ylN_13_6:=ylN_13_5.keeps hs13_6; have TT_13_6:=TT_13_5.keeps hs13_6; have m_A:=ne13.keeps hs13_6; with_reducible first | (have qz13:y13_6.heap[wr.heap.size]?=some (.cells #[.bool false,.slice none 0 0,.int .i64 0] 40 (0,0)):=blk_on hq13_6 (blk_on hq13_5 (blk_on hq13_4 (blk_on hq13_3 (blk_on hq13_2 (blk_on hq13_1 (heap_a1d wr (.cells #[.bool false,.slice none 0 0,.int .i64 0] 40))))))); have cz13_0:=blkC qz13 0 rfl; have zz13_0:=blkF qz13 0; have cz13_1:=blkC qz13 1 rfl; have zz13_1:=blkF qz13 1; have cz13_2:=blkC qz13 2 rfl; have zz13_2:=blkF qz13 2) | (have qz13:y13_6.heap[y13_1.heap.size]?=some (.cells #[.bool false,.slice none 0 0,.int .i64 0] 40 (0,0)):=blk_on hq13_6 (blk_on hq13_5 (blk_on hq13_4 (blk_on hq13_3 (blk_on hq13_2 (heap_a1 _ _))))); have cz13_0:=blkC qz13 0 rfl; have zz13_0:=blkF qz13 0; have cz13_1:=blkC qz13 1 rfl; have zz13_1:=blkF qz13 1; have cz13_2:=blkC qz13 2 rfl; have zz13_2:=blkF qz13 2) | (have qz13:y13_6.heap[y13_2.heap.size]?=some (.cells #[.bool false,.slice none 0 0,.int .i64 0] 40 (0,0)):=blk_on hq13_6 (blk_on hq13_5 (blk_on hq13_4 (blk_on hq13_3 (heap_a1 _ _)))); have cz13_0:=blkC qz13 0 rfl; have zz13_0:=blkF qz13 0; have cz13_1:=blkC qz13 1 rfl; have zz13_1:=blkF qz13 1; have cz13_2:=blkC qz13 2 rfl; have zz13_2:=blkF qz13 2) | (have qz13:y13_6.heap[y13_3.heap.size]?=some (.cells #[.bool false,.slice none 0 0,.int .i64 0] 40 (0,0)):=blk_on hq13_6 (blk_on hq13_5 (blk_on hq13_4 (heap_a1 _ _))); have cz13_0:=blkC qz13 0 rfl; have zz13_0:=blkF qz13 0; have cz13_1:=blkC qz13 1 rfl; have zz13_1:=blkF qz13 1; have cz13_2:=blkC qz13 2 rfl; have zz13_2:=blkF qz13 2) | (have qz13:y13_6.heap[y13_4.heap.size]?=some (.cells #[.bool false,.slice none 0 0,.int .i64 0] 40 (0,0)):=blk_on hq13_6 (blk_on hq13_5 (heap_a1 _ _)); have cz13_0:=blkC qz13 0 rfl; have zz13_0:=blkF qz13 0; have cz13_1:=blkC qz13 1 rfl; have zz13_1:=blkF qz13 1; have cz13_2:=blkC qz13 2 rfl; have zz13_2:=blkF qz13 2) | (have qz13:y13_6.heap[y13_5.heap.size]?=some (.cells #[.bool false,.slice none 0 0,.int .i64 0] 40 (0,0)):=blk_on hq13_6 (heap_a1 _ _); have cz13_0:=blkC qz13 0 rfl; have zz13_0:=blkF qz13 0; have cz13_1:=blkC qz13 1 rfl; have zz13_1:=blkF qz13 1; have cz13_2:=blkC qz13 2 rfl; have zz13_2:=blkF qz13 2) | skip)
                | (go_at_call 98; have _t:=hs13_4; refine (sub_B (np13.keeps (by with_reducible first | exact bel_refl _ | exact bel_alloc _ _ | exact bel_dr _ _)) (nq13.keeps (by with_reducible first | exact bel_refl _ | exact bel_alloc _ _ | exact bel_dr _ _)) B1 B2 (by omega) (TT_13_4.keeps (by with_reducible first | exact bel_refl _ | exact bel_alloc _ _ | exact bel_dr _ _))).mono ?_; rintro _ y13_5 ⟨v,rfl,nc13⟩; obtain ⟨m_g,m_o,m_n,m_c,m_e,rfl⟩:=dans_shape nc13; have hq13_5:=nc13.below; have ne13:=nc13.dan.lower (Nat.le_trans hT13_4.size (by with_reducible first | exact Nat.le_refl _ | exact (bel_alloc _ _).size | exact (bel_dr _ _).size)); have hs13_5:Below y13_4.heap.size y13_4 y13_5:=(by with_reducible first | exact hq13_5 | exact bel_trans (bel_alloc _ _) hq13_5 | exact bel_trans (bel_dr _ _) hq13_5); have hT13_5:=bel_trans hT13_4 hs13_5; have hC13_5:=bel_trans hC13_4 hs13_5; have xjN_13_5:=xjN_13_4.keeps hs13_5; have xlN_13_5:=xlN_13_4.keeps hs13_5; have yjN_13_5:=yjN_13_4.keeps hs13_5; have ylN_13_5:=ylN_13_4.keeps hs13_5; have TT_13_5:=TT_13_4.keeps hs13_5)
                | (go_at_call 149; have _t:=hs13_3; refine (csure_any _ _ _ _ _ _ _).mono ?_; rintro _ y13_4 ⟨rfl,hq13_4⟩; have hs13_4:Below y13_3.heap.size y13_3 y13_4:=(by with_reducible first | exact hq13_4 | exact bel_trans (bel_alloc _ _) hq13_4 | exact bel_trans (bel_dr _ _) hq13_4); have hT13_4:=bel_trans hT13_3 hs13_4; have hC13_4:=bel_trans hC13_3 hs13_4; have xjN_13_4:=xjN_13_3.keeps hs13_4; have xlN_13_4:=xlN_13_3.keeps hs13_4; have yjN_13_4:=yjN_13_3.keeps hs13_4; have ylN_13_4:=ylN_13_3.keeps hs13_4; have TT_13_4:=TT_13_3.keeps hs13_4; have nq13:=nb13.num.keeps hs13_4; have np13:=np13.keeps hs13_4)
                | (go_at_call 99; have _t:=hs13_2; refine (mul_B (xlN_13_2.keeps (by with_reducible first | exact bel_refl _ | exact bel_alloc _ _ | exact bel_dr _ _)) (yjN_13_2.keeps (by with_reducible first | exact bel_refl _ | exact bel_alloc _ _ | exact bel_dr _ _)) bl cj (by omega) (TT_13_2.keeps (by with_reducible first | exact bel_refl _ | exact bel_alloc _ _ | exact bel_dr _ _))).mono ?_; rintro _ y13_3 ⟨v,C2,rfl,nb13,E2,B2⟩; obtain ⟨b_g,b_o,b_n,b_c,b_e,rfl⟩:=dans_shape nb13; have hq13_3:=nb13.below; have hs13_3:Below y13_2.heap.size y13_2 y13_3:=(by with_reducible first | exact hq13_3 | exact bel_trans (bel_alloc _ _) hq13_3 | exact bel_trans (bel_dr _ _) hq13_3); have hT13_3:=bel_trans hT13_2 hs13_3; have hC13_3:=bel_trans hC13_2 hs13_3; have xjN_13_3:=xjN_13_2.keeps hs13_3; have xlN_13_3:=xlN_13_2.keeps hs13_3; have yjN_13_3:=yjN_13_2.keeps hs13_3; have ylN_13_3:=ylN_13_2.keeps hs13_3; have TT_13_3:=TT_13_2.keeps hs13_3; have np13:=np13.keeps hs13_3)
                | (go_at_call 149; have _t:=hs13_1; refine (csure_any _ _ _ _ _ _ _).mono ?_; rintro _ y13_2 ⟨rfl,hq13_2⟩; have hs13_2:Below y13_1.heap.size y13_1 y13_2:=(by with_reducible first | exact hq13_2 | exact bel_trans (bel_alloc _ _) hq13_2 | exact bel_trans (bel_dr _ _) hq13_2); have hT13_2:=bel_trans hT13_1 hs13_2; have hC13_2:=bel_trans hC13_1 hs13_2; have xjN_13_2:=xjN_13_1.keeps hs13_2; have xlN_13_2:=xlN_13_1.keeps hs13_2; have yjN_13_2:=yjN_13_1.keeps hs13_2; have ylN_13_2:=ylN_13_1.keeps hs13_2; have TT_13_2:=TT_13_1.keeps hs13_2; have np13:=na13.num.keeps hs13_2)
                | (go_at_call 99; refine (mul_B (xjN_13_0.keeps (by with_reducible first | exact bel_refl _ | exact bel_alloc _ _ | exact bel_dr _ _)) (ylN_13_0.keeps (by with_reducible first | exact bel_refl _ | exact bel_alloc _ _ | exact bel_dr _ _)) bj cl (by omega) (TT_13_0.keeps (by with_reducible first | exact bel_refl _ | exact bel_alloc _ _ | exact bel_dr _ _))).mono ?_; rintro _ y13_1 ⟨v,C1,rfl,na13,E1,B1⟩; obtain ⟨a_g,a_o,a_n,a_c,a_e,rfl⟩:=dans_shape na13; have hq13_1:=na13.below; have hs13_1:Below wr.drew.heap.size wr.drew y13_1:=(by with_reducible first | exact hq13_1 | exact bel_trans (bel_alloc _ _) hq13_1 | exact bel_trans (bel_dr _ _) hq13_1); have hT13_1:=bel_trans hT13_0 hs13_1; have hC13_1:=bel_trans hC13_0 hs13_1; have xjN_13_1:=xjN_13_0.keeps hs13_1; have xlN_13_1:=xlN_13_0.keeps hs13_1; have yjN_13_1:=yjN_13_0.keeps hs13_1; have ylN_13_1:=ylN_13_0.keeps hs13_1; have TT_13_1:=TT_13_0.keeps hs13_1))
            all_goals
              rw [show C1-C2=M 2 from scale_inj (by rw [Int.sub_mul,E1,E2]; exact hm.1.symm)] at m_A
              go_wp2_with fail
              go_meet
            . exact ⟨rfl,_,m_g,m_o,m_n,m_c,m_e,rfl,(bel_trans (bel_trans (bel_trans (bel_trans (bel_trans (bel_trans (hs13_0) hs13_1) hs13_2) hs13_3) hs13_4) hs13_5) hs13_6).size,bel_trans (bel_trans (bel_trans (bel_trans (bel_trans (bel_trans (bel_trans (hs13_0) hs13_1) hs13_2) hs13_3) hs13_4) hs13_5) hs13_6) (bel_alloc y13_6 (.cells #[.bool m_g,.slice m_o m_n m_c,.int .i64 m_e] 40)),heap_a1 y13_6 (.cells #[.bool m_g,.slice m_o m_n m_c,.int .i64 m_e] 40),m_A.keeps (bel_alloc y13_6 (.cells #[.bool m_g,.slice m_o m_n m_c,.int .i64 m_e] 40))⟩
            . exact ⟨rfl,_,m_g,m_o,m_n,m_c,m_e,rfl,(bel_trans (bel_trans (bel_trans (bel_trans (bel_trans (hs13_0) hs13_1) hs13_2) hs13_3) hs13_4) hs13_5).size,bel_set3' (bel_trans (bel_trans (bel_trans (bel_trans (bel_trans (bel_trans (hs13_0) hs13_1) hs13_2) hs13_3) hs13_4) hs13_5) hs13_6) ((bel_trans (bel_trans (bel_trans (bel_trans (bel_trans (hs13_0) hs13_1) hs13_2) hs13_3) hs13_4) hs13_5).size) (.bool m_g) (.slice m_o m_n m_c) (.int .i64 m_e),heap_set (heap_set (heap_set (blk_on hq13_6 (heap_a1 y13_5 (.cells #[.bool false,.slice none 0 0,.int .i64 0] 40))) 0 (.bool m_g)) 1 (.slice m_o m_n m_c)) 2 (.int .i64 m_e),dan_res3 m_A (blk_on hq13_6 (heap_a1 y13_5 (.cells #[.bool false,.slice none 0 0,.int .i64 0] 40))) (.bool m_g) (.slice m_o m_n m_c) (.int .i64 m_e)⟩
            . exact ⟨rfl,_,m_g,m_o,m_n,m_c,m_e,rfl,(bel_trans (bel_trans (bel_trans (bel_trans (hs13_0) hs13_1) hs13_2) hs13_3) hs13_4).size,bel_set3' (bel_trans (bel_trans (bel_trans (bel_trans (bel_trans (bel_trans (hs13_0) hs13_1) hs13_2) hs13_3) hs13_4) hs13_5) hs13_6) ((bel_trans (bel_trans (bel_trans (bel_trans (hs13_0) hs13_1) hs13_2) hs13_3) hs13_4).size) (.bool m_g) (.slice m_o m_n m_c) (.int .i64 m_e),heap_set (heap_set (heap_set (blk_on hq13_6 (blk_on hq13_5 (heap_a1 y13_4 (.cells #[.bool false,.slice none 0 0,.int .i64 0] 40)))) 0 (.bool m_g)) 1 (.slice m_o m_n m_c)) 2 (.int .i64 m_e),dan_res3 m_A (blk_on hq13_6 (blk_on hq13_5 (heap_a1 y13_4 (.cells #[.bool false,.slice none 0 0,.int .i64 0] 40)))) (.bool m_g) (.slice m_o m_n m_c) (.int .i64 m_e)⟩
            . exact ⟨rfl,_,m_g,m_o,m_n,m_c,m_e,rfl,(bel_trans (bel_trans (bel_trans (hs13_0) hs13_1) hs13_2) hs13_3).size,bel_set3' (bel_trans (bel_trans (bel_trans (bel_trans (bel_trans (bel_trans (hs13_0) hs13_1) hs13_2) hs13_3) hs13_4) hs13_5) hs13_6) ((bel_trans (bel_trans (bel_trans (hs13_0) hs13_1) hs13_2) hs13_3).size) (.bool m_g) (.slice m_o m_n m_c) (.int .i64 m_e),heap_set (heap_set (heap_set (blk_on hq13_6 (blk_on hq13_5 (blk_on hq13_4 (heap_a1 y13_3 (.cells #[.bool false,.slice none 0 0,.int .i64 0] 40))))) 0 (.bool m_g)) 1 (.slice m_o m_n m_c)) 2 (.int .i64 m_e),dan_res3 m_A (blk_on hq13_6 (blk_on hq13_5 (blk_on hq13_4 (heap_a1 y13_3 (.cells #[.bool false,.slice none 0 0,.int .i64 0] 40))))) (.bool m_g) (.slice m_o m_n m_c) (.int .i64 m_e)⟩
            . exact ⟨rfl,_,m_g,m_o,m_n,m_c,m_e,rfl,(bel_trans (bel_trans (hs13_0) hs13_1) hs13_2).size,bel_set3' (bel_trans (bel_trans (bel_trans (bel_trans (bel_trans (bel_trans (hs13_0) hs13_1) hs13_2) hs13_3) hs13_4) hs13_5) hs13_6) ((bel_trans (bel_trans (hs13_0) hs13_1) hs13_2).size) (.bool m_g) (.slice m_o m_n m_c) (.int .i64 m_e),heap_set (heap_set (heap_set (blk_on hq13_6 (blk_on hq13_5 (blk_on hq13_4 (blk_on hq13_3 (heap_a1 y13_2 (.cells #[.bool false,.slice none 0 0,.int .i64 0] 40)))))) 0 (.bool m_g)) 1 (.slice m_o m_n m_c)) 2 (.int .i64 m_e),dan_res3 m_A (blk_on hq13_6 (blk_on hq13_5 (blk_on hq13_4 (blk_on hq13_3 (heap_a1 y13_2 (.cells #[.bool false,.slice none 0 0,.int .i64 0] 40)))))) (.bool m_g) (.slice m_o m_n m_c) (.int .i64 m_e)⟩
            . exact ⟨rfl,_,m_g,m_o,m_n,m_c,m_e,rfl,(bel_trans (hs13_0) hs13_1).size,bel_set3' (bel_trans (bel_trans (bel_trans (bel_trans (bel_trans (bel_trans (hs13_0) hs13_1) hs13_2) hs13_3) hs13_4) hs13_5) hs13_6) ((bel_trans (hs13_0) hs13_1).size) (.bool m_g) (.slice m_o m_n m_c) (.int .i64 m_e),heap_set (heap_set (heap_set (blk_on hq13_6 (blk_on hq13_5 (blk_on hq13_4 (blk_on hq13_3 (blk_on hq13_2 (heap_a1 y13_1 (.cells #[.bool false,.slice none 0 0,.int .i64 0] 40))))))) 0 (.bool m_g)) 1 (.slice m_o m_n m_c)) 2 (.int .i64 m_e),dan_res3 m_A (blk_on hq13_6 (blk_on hq13_5 (blk_on hq13_4 (blk_on hq13_3 (blk_on hq13_2 (heap_a1 y13_1 (.cells #[.bool false,.slice none 0 0,.int .i64 0] 40))))))) (.bool m_g) (.slice m_o m_n m_c) (.int .i64 m_e)⟩
            . exact ⟨rfl,_,m_g,m_o,m_n,m_c,m_e,rfl,Nat.le_refl _,bel_set3' (bel_trans (bel_trans (bel_trans (bel_trans (bel_trans (bel_trans (hs13_0) hs13_1) hs13_2) hs13_3) hs13_4) hs13_5) hs13_6) (Nat.le_refl _) (.bool m_g) (.slice m_o m_n m_c) (.int .i64 m_e),heap_set (heap_set (heap_set (blk_on hq13_6 (blk_on hq13_5 (blk_on hq13_4 (blk_on hq13_3 (blk_on hq13_2 (blk_on hq13_1 (heap_a1d wr (.cells #[.bool false,.slice none 0 0,.int .i64 0] 40)))))))) 0 (.bool m_g)) 1 (.slice m_o m_n m_c)) 2 (.int .i64 m_e),dan_res3 m_A (blk_on hq13_6 (blk_on hq13_5 (blk_on hq13_4 (blk_on hq13_3 (blk_on hq13_2 (blk_on hq13_1 (heap_a1d wr (.cells #[.bool false,.slice none 0 0,.int .i64 0] 40)))))))) (.bool m_g) (.slice m_o m_n m_c) (.int .i64 m_e)⟩
          case rest=>
            obtain ⟨rfl,g,m_g,m_o,m_n,m_c,m_e,rfl,hge,hwc,m_k,mD⟩:=hcut
            replace k_k:=blk_on hwc k_k
            replace r_k:=blk_on hwc r_k
            replace x_k:=blk_on hwc x_k
            replace y_k:=blk_on hwc y_k
            replace l_k:=blk_on hwc l_k
            replace s_k:=blk_on hwc s_k
            have HX2:=hideIt (HX.out.keeps hwc)
            have HY2:=hideIt (HY.out.keeps hwc)
            have HL2:=hideIt (HL.out.keeps hwc)
            have sD:=HS.out.keeps hwc
            skip
            replace hbw:=bel_trans hbw hwc
            clear HX HY HL HS hwc TT xjN xlN yjN ylN bj bl cj cl xj0 xj1 xj2 xjD xl0 xl1 xl2 xlD yj0 yj1 yj2 yjD yl0 yl1 yl2 ylD
            obtain ⟨q_g,q_o,q_n,q_c,q_e,q0,q1,q2,qD⟩:=HL2.out.e 2 (by decide)
            have qN:=(qD (by decide)).num
            clear qD
            have TT:=hT.keeps hbw
            have hl:=hL 2 (by decide)
            have ht:=hT3 2 (by decide)
            have bS:=su_bd (fun i hi=>(hT3 i hi).2) (show 4*K+10<=4194304 by omega) 2 (by decide)
            go_upto_region 14 with (fail)
            have hngs:g≠gs:=by omega
            have hC0:=(bel_refl wc).drew
            have KK2:∀ W,Below wc.heap.size wc W->W.cell? ⟨w.heap.size,0,none⟩=some (.func (.func 97) #[] #[])∧W.cell? ⟨w.heap.size,2,none⟩=some (.func (.func 99) #[] #[])∧W.cell? ⟨w.heap.size+1+1+1+1,6,none⟩=some (.bool q_g)∧W.cell? ⟨w.heap.size+1+1+1+1,7,none⟩=some (.slice q_o q_n q_c)∧W.cell? ⟨w.heap.size+1+1+1+1,8,none⟩=some (.int .i64 q_e)∧W.cell? ⟨g,0,none⟩=some (.bool m_g)∧W.cell? ⟨g,1,none⟩=some (.slice m_o m_n m_c)∧W.cell? ⟨g,2,none⟩=some (.int .i64 m_e):=fun W hb=>⟨q_cell (blkC k_k 0 rfl) hb,q_cell (blkC k_k 2 rfl) hb,q_cell (blkC l_k 6 q0) hb,q_cell (blkC l_k 7 q1) hb,q_cell (blkC l_k 8 q2) hb,q_cell (blkC m_k 0 rfl) hb,q_cell (blkC m_k 1 rfl) hb,q_cell (blkC m_k 2 rfl) hb⟩
            skip
            have sa0:=q_cell (blkC s_k 0 rfl) hC0
            have sa1:=q_cell (blkC s_k 1 rfl) hC0
            have sa2:=q_cell (blkC s_k 2 rfl) hC0
            refine wp_region_held_drew (S:=fun W=>W.cell? ⟨w.heap.size,0,none⟩=some (.func (.func 97) #[] #[])∧W.cell? ⟨w.heap.size,2,none⟩=some (.func (.func 99) #[] #[])∧W.cell? ⟨w.heap.size+1+1+1+1,6,none⟩=some (.bool q_g)∧W.cell? ⟨w.heap.size+1+1+1+1,7,none⟩=some (.slice q_o q_n q_c)∧W.cell? ⟨w.heap.size+1+1+1+1,8,none⟩=some (.int .i64 q_e)∧W.cell? ⟨g,0,none⟩=some (.bool m_g)∧W.cell? ⟨g,1,none⟩=some (.slice m_o m_n m_c)∧W.cell? ⟨g,2,none⟩=some (.int .i64 m_e)) (by kernel_rfl) (KK2 _ hC0) (fun hHeld0=>?_)
            refine wpAnyH_take (i:=0) (v:=?_) rfl (by kernel_rfl) (by kernel_rfl) (by kernel_rfl) (fun _ _ _ h=>h) (Or.inl ⟨by kernel_rfl,?_⟩) (by assumption) ?_
            rotate_left
            . intro w hSw; (try dsimp only at hSw); go_simp; first | done | with_reducible rfl
            try simp only [Act.put,List.setIfInBounds_toArray,List.set_cons_zero,List.set_cons_succ,List.getElem_toArray,List.getElem_cons_zero,List.getElem_cons_succ]
            refine wpAnyH_take (i:=1) (v:=?_) rfl (by kernel_rfl) (by kernel_rfl) (by kernel_rfl) (fun _ _ _ h=>h) (Or.inl ⟨by kernel_rfl,?_⟩) (by assumption) ?_
            rotate_left
            . intro w hSw; (try dsimp only at hSw); go_simp; first | done | with_reducible rfl
            try simp only [Act.put,List.setIfInBounds_toArray,List.set_cons_zero,List.set_cons_succ,List.getElem_toArray,List.getElem_cons_zero,List.getElem_cons_succ]
            refine wpAnyH_take (i:=3) (v:=?_) rfl (by kernel_rfl) (by kernel_rfl) (by kernel_rfl) (fun _ _ _ h=>h) (Or.inl ⟨by kernel_rfl,?_⟩) (by assumption) ?_
            rotate_left
            . intro w hSw; (try dsimp only at hSw); go_simp; first | done | with_reducible rfl
            try simp only [Act.put,List.setIfInBounds_toArray,List.set_cons_zero,List.set_cons_succ,List.getElem_toArray,List.getElem_cons_zero,List.getElem_cons_succ]
            refine wpAnyH_take (i:=4) (v:=?_) rfl (by kernel_rfl) (by kernel_rfl) (by kernel_rfl) (fun _ _ _ h=>h) (Or.inl ⟨by kernel_rfl,?_⟩) (by assumption) ?_
            rotate_left
            . intro w hSw; (try dsimp only at hSw); go_simp; first | done | with_reducible rfl
            try simp only [Act.put,List.setIfInBounds_toArray,List.set_cons_zero,List.set_cons_succ,List.getElem_toArray,List.getElem_cons_zero,List.getElem_cons_succ]
            refine wpAnyH_take (i:=5) (v:=?_) rfl (by kernel_rfl) (by kernel_rfl) (by kernel_rfl) (fun _ _ _ h=>h) (Or.inl ⟨by kernel_rfl,?_⟩) (by assumption) ?_
            rotate_left
            . intro w hSw; (try dsimp only at hSw); go_simp; first | done | with_reducible rfl
            try simp only [Act.put,List.setIfInBounds_toArray,List.set_cons_zero,List.set_cons_succ,List.getElem_toArray,List.getElem_cons_zero,List.getElem_cons_succ]
            refine wpAnyH_take (i:=6) (v:=?_) rfl (by kernel_rfl) (by kernel_rfl) (by kernel_rfl) (fun _ _ _ h=>h) (Or.inl ⟨by kernel_rfl,?_⟩) (by assumption) ?_
            rotate_left
            . intro w hSw; (try dsimp only at hSw); go_simp; first | done | with_reducible rfl
            try simp only [Act.put,List.setIfInBounds_toArray,List.set_cons_zero,List.set_cons_succ,List.getElem_toArray,List.getElem_cons_zero,List.getElem_cons_succ]
            refine wpAnyH_take (i:=7) (v:=?_) rfl (by kernel_rfl) (by kernel_rfl) (by kernel_rfl) (fun _ _ _ h=>h) (Or.inl ⟨by kernel_rfl,?_⟩) (by assumption) ?_
            rotate_left
            . intro w hSw; (try dsimp only at hSw); go_simp; first | done | with_reducible rfl
            try simp only [Act.put,List.setIfInBounds_toArray,List.set_cons_zero,List.set_cons_succ,List.getElem_toArray,List.getElem_cons_zero,List.getElem_cons_succ]
            refine wpAnyH_take (i:=8) (v:=?_) rfl (by kernel_rfl) (by kernel_rfl) (by kernel_rfl) (fun _ _ _ h=>h) (Or.inl ⟨by kernel_rfl,?_⟩) (by assumption) ?_
            rotate_left
            . intro w hSw; (try dsimp only at hSw); go_simp; first | done | with_reducible rfl
            try simp only [Act.put,List.setIfInBounds_toArray,List.set_cons_zero,List.set_cons_succ,List.getElem_toArray,List.getElem_cons_zero,List.getElem_cons_succ]
            refine wpAnyH_ready (rs:=[2,9]) (by kernel_rfl) (by simp) ?_
            refine AllReadyH.cons rfl (fun K hK=>?_) (AllReadyH.cons rfl (fun K hK=>?_) (AllReadyH.nil))
            . go_simp
              refine hK.out _ _ (KK2 _ hC0) (fun hHeld1=>?_)
              clear hK K hHeld0
              try simp only [Act.put,List.setIfInBounds_toArray,List.set_cons_zero,List.set_cons_succ,List.getElem_toArray,List.getElem_cons_zero,List.getElem_cons_succ]
              refine wpAnyH_ready (rs:=[9]) (by kernel_rfl) (by simp) ?_
              refine AllReadyH.cons rfl (fun K hK=>?_) (AllReadyH.nil)
              go_simp
              refine (mul_B (qN.keeps hC0) (mD.num.keeps hC0) hl.2 hm.2 (by omega) (TT.keeps hC0)).mono ?_
              rintro _ y1 ⟨v,C1,rfl,d1,E1,B1⟩
              obtain ⟨a_g,a_o,a_n,a_c,a_e,rfl⟩:=dans_shape d1
              have hs1:=d1.below
              have hC1:=bel_trans hC0 hs1
              have sb0:=q_cell (blkC s_k 0 rfl) hC1
              have sb1:=q_cell (blkC s_k 1 rfl) hC1
              have sb2:=q_cell (blkC s_k 2 rfl) hC1
              refine hK.out _ _ (KK2 _ hC1) (fun hHeld2=>?_)
              clear hK K hHeld1
              try simp only [Act.put,List.setIfInBounds_toArray,List.set_cons_zero,List.set_cons_succ,List.getElem_toArray,List.getElem_cons_zero,List.getElem_cons_succ]
              refine wpAnyH_take (i:=10) (v:=?_) rfl (by kernel_rfl) (by kernel_rfl) (by kernel_rfl) (fun _ _ _ h=>h) (Or.inl ⟨by kernel_rfl,?_⟩) (by assumption) ?_
              rotate_left
              . intro w hSw; (try dsimp only at hSw); go_simp; first | done | with_reducible rfl
              try simp only [Act.put,List.setIfInBounds_toArray,List.set_cons_zero,List.set_cons_succ,List.getElem_toArray,List.getElem_cons_zero,List.getElem_cons_succ]
              refine wpAnyH_take (i:=11) (v:=?_) rfl (by kernel_rfl) (by kernel_rfl) (by kernel_rfl) (fun _ _ _ h=>h) (Or.inl ⟨by kernel_rfl,?_⟩) (by assumption) ?_
              rotate_left
              . intro w hSw; (try dsimp only at hSw); go_simp; first | done | with_reducible rfl
              try simp only [Act.put,List.setIfInBounds_toArray,List.set_cons_zero,List.set_cons_succ,List.getElem_toArray,List.getElem_cons_zero,List.getElem_cons_succ]
              refine wpAnyH_ready (rs:=[12]) (by kernel_rfl) (by simp) ?_
              refine AllReadyH.cons rfl (fun K hK=>?_) (AllReadyH.nil)
              go_simp
              refine (csure_any _ _ _ _ _ _ _).mono ?_
              rintro _ y2 ⟨rfl,hs2⟩
              have hC2:=bel_trans hC1 hs2
              have a_D:=d1.num.keeps hs2
              have sc0:=q_cell (blkC s_k 0 rfl) hC2
              have sc1:=q_cell (blkC s_k 1 rfl) hC2
              have sc2:=q_cell (blkC s_k 2 rfl) hC2
              refine hK.out _ _ (KK2 _ hC2) (fun hHeld3=>?_)
              clear hK K hHeld2
              try simp only [Act.put,List.setIfInBounds_toArray,List.set_cons_zero,List.set_cons_succ,List.getElem_toArray,List.getElem_cons_zero,List.getElem_cons_succ]
              refine wpAnyH_ready (rs:=[13]) (by kernel_rfl) (by simp) ?_
              refine AllReadyH.cons rfl (fun K hK=>?_) (AllReadyH.nil)
              go_simp
              refine (add_B (sD.num.keeps hC2) a_D bS (B1.up (by omega) (by omega)) (by omega) (TT.keeps hC2)).mono ?_
              rintro _ y3 ⟨v,rfl,d3⟩
              obtain ⟨n_g,n_o,n_n,n_c,n_e,rfl⟩:=dans_shape d3
              have hs3:=d3.below
              have hC3:=bel_trans hC2 hs3
              refine hK.out _ _ (KK2 _ hC3) (fun hHeld4=>?_)
              clear hK K hHeld3
              try simp only [Act.put,List.setIfInBounds_toArray,List.set_cons_zero,List.set_cons_succ,List.getElem_toArray,List.getElem_cons_zero,List.getElem_cons_succ]
              refine wpAnyH_take (i:=14) (v:=?_) rfl (by kernel_rfl) (by kernel_rfl) (by kernel_rfl) (fun _ _ _ h=>h) (Or.inl ⟨by kernel_rfl,?_⟩) (by assumption) ?_
              rotate_left
              . intro w hSw; (try dsimp only at hSw); go_simp; first | done | with_reducible rfl
              try simp only [Act.put,List.setIfInBounds_toArray,List.set_cons_zero,List.set_cons_succ,List.getElem_toArray,List.getElem_cons_zero,List.getElem_cons_succ]
              refine wpAnyH_take (i:=15) (v:=?_) rfl (by kernel_rfl) (by kernel_rfl) (by kernel_rfl) (fun _ _ _ h=>h) (Or.inl ⟨by kernel_rfl,?_⟩) (by assumption) ?_
              rotate_left
              . intro w hSw; (try dsimp only at hSw); go_simp; first | done | with_reducible rfl
              try simp only [Act.put,List.setIfInBounds_toArray,List.set_cons_zero,List.set_cons_succ,List.getElem_toArray,List.getElem_cons_zero,List.getElem_cons_succ]
              refine wpAnyH_ready (rs:=[16]) (by kernel_rfl) (by simp) ?_
              refine AllReadyH.cons rfl (fun K hK=>?_) (AllReadyH.nil)
              go_simp
              refine (csure_any _ _ _ _ _ _ _).mono ?_
              rintro _ y4 ⟨rfl,hs4⟩
              have hC4:=bel_trans hC3 hs4
              have n_D:=(d3.dan.keeps hs4).lower (bel_trans hbw hC2).size
              have rk:=blk_on hC4 s_k
              have e0:=blkC rk 0 rfl
              have e1:=blkC rk 1 rfl
              have e2:=blkC rk 2 rfl
              have z0:=blkF rk 0
              have z1:=blkF rk 1
              have z2:=blkF rk 2
              refine hK.out _ _ (KK2 _ hC4) (fun hHeld5=>?_)
              clear hK K hHeld4
              try simp only [Act.put,List.setIfInBounds_toArray,List.set_cons_zero,List.set_cons_succ,List.getElem_toArray,List.getElem_cons_zero,List.getElem_cons_succ]
              refine wpAnyH_ready (rs:=[17]) (by kernel_rfl) (by simp) ?_
              refine AllReadyH.cons rfl (fun K hK=>?_) (AllReadyH.nil)
              go_simp
              refine hK.out _ _ ⟨cell_c3 (KK2 _ hC4).1 _ _ _ (show w.heap.size≠gs by omega),cell_c3 (KK2 _ hC4).2.1 _ _ _ (show w.heap.size≠gs by omega),cell_c3 (KK2 _ hC4).2.2.1 _ _ _ (show w.heap.size+1+1+1+1≠gs by omega),cell_c3 (KK2 _ hC4).2.2.2.1 _ _ _ (show w.heap.size+1+1+1+1≠gs by omega),cell_c3 (KK2 _ hC4).2.2.2.2.1 _ _ _ (show w.heap.size+1+1+1+1≠gs by omega),cell_c3 (KK2 _ hC4).2.2.2.2.2.1 _ _ _ hngs,cell_c3 (KK2 _ hC4).2.2.2.2.2.2.1 _ _ _ hngs,cell_c3 (KK2 _ hC4).2.2.2.2.2.2.2 _ _ _ hngs⟩ (fun hHeld6=>?_)
              clear hK K hHeld5
              try simp only [Act.put,List.setIfInBounds_toArray,List.set_cons_zero,List.set_cons_succ,List.getElem_toArray,List.getElem_cons_zero,List.getElem_cons_succ]
              refine wpAnyH_done (by kernel_rfl) ?_ _
              have eT:C1=T 2:=scale_inj (E1.trans ht.1.symm)
              rw [eT] at n_D
              have HX3:=hideIt ((HX2.out.keeps hC4).set rk (by decide) 0 1 2 (.bool n_g) (.slice n_o n_n n_c) (.int .i64 n_e))
              have HY3:=hideIt ((HY2.out.keeps hC4).set rk (by decide) 0 1 2 (.bool n_g) (.slice n_o n_n n_c) (.int .i64 n_e))
              have HL3:=hideIt ((HL2.out.keeps hC4).set rk (by decide) 0 1 2 (.bool n_g) (.slice n_o n_n n_c) (.int .i64 n_e))
              have k_k3:=cc_n3 (blk_on hC4 k_k) (show w.heap.size≠gs by omega) 0 1 2 (.bool n_g) (.slice n_o n_n n_c) (.int .i64 n_e)
              have r_k3:=cc_n3 (blk_on hC4 r_k) (show w.heap.size+1≠gs by omega) 0 1 2 (.bool n_g) (.slice n_o n_n n_c) (.int .i64 n_e)
              have x_k3:=cc_n3 (blk_on hC4 x_k) (show w.heap.size+1+1≠gs by omega) 0 1 2 (.bool n_g) (.slice n_o n_n n_c) (.int .i64 n_e)
              have y_k3:=cc_n3 (blk_on hC4 y_k) (show w.heap.size+1+1+1≠gs by omega) 0 1 2 (.bool n_g) (.slice n_o n_n n_c) (.int .i64 n_e)
              have l_k3:=cc_n3 (blk_on hC4 l_k) (show w.heap.size+1+1+1+1≠gs by omega) 0 1 2 (.bool n_g) (.slice n_o n_n n_c) (.int .i64 n_e)
              have s_k3:=heap_set (heap_set (heap_set rk 0 (.bool n_g)) 1 (.slice n_o n_n n_c)) 2 (.int .i64 n_e)
              have HS3:Hid (DAn w.heap.size _ (su T 3) (.agg #[.bool n_g,.slice n_o n_n n_c,.int .i64 n_e])):=dan_res3 n_D rk (.bool n_g) (.slice n_o n_n n_c) (.int .i64 n_e)
              have hb3:=cc_s3 (bel_trans hbw hC4) (show w.heap.size<=gs by omega) 0 1 2 (.bool n_g) (.slice n_o n_n n_c) (.int .i64 n_e)
              clear e0 e1 e2 z0 z1 z2
              go_wp2_with fail
              go_roundw
              case rel=>(repeat apply Exists.intro); exact ⟨⟨3,by omega,by go_num,_,_,_,_,_,s_k3,HS3,HX3,HY3,HL3,k_k3,r_k3,x_k3,y_k3,l_k3,hb3⟩,rfl⟩
              case measure=>simp [intOf]
            . go_simp
              refine (mul_B (qN.keeps hC0) (mD.num.keeps hC0) hl.2 hm.2 (by omega) (TT.keeps hC0)).mono ?_
              rintro _ y1 ⟨v,C1,rfl,d1,E1,B1⟩
              obtain ⟨a_g,a_o,a_n,a_c,a_e,rfl⟩:=dans_shape d1
              have hs1:=d1.below
              have hC1:=bel_trans hC0 hs1
              have sb0:=q_cell (blkC s_k 0 rfl) hC1
              have sb1:=q_cell (blkC s_k 1 rfl) hC1
              have sb2:=q_cell (blkC s_k 2 rfl) hC1
              refine hK.out _ _ (KK2 _ hC1) (fun hHeld1=>?_)
              clear hK K hHeld0
              try simp only [Act.put,List.setIfInBounds_toArray,List.set_cons_zero,List.set_cons_succ,List.getElem_toArray,List.getElem_cons_zero,List.getElem_cons_succ]
              refine wpAnyH_take (i:=10) (v:=?_) rfl (by kernel_rfl) (by kernel_rfl) (by kernel_rfl) (fun _ _ _ h=>h) (Or.inl ⟨by kernel_rfl,?_⟩) (by assumption) ?_
              rotate_left
              . intro w hSw; (try dsimp only at hSw); go_simp; first | done | with_reducible rfl
              try simp only [Act.put,List.setIfInBounds_toArray,List.set_cons_zero,List.set_cons_succ,List.getElem_toArray,List.getElem_cons_zero,List.getElem_cons_succ]
              refine wpAnyH_take (i:=11) (v:=?_) rfl (by kernel_rfl) (by kernel_rfl) (by kernel_rfl) (fun _ _ _ h=>h) (Or.inl ⟨by kernel_rfl,?_⟩) (by assumption) ?_
              rotate_left
              . intro w hSw; (try dsimp only at hSw); go_simp; first | done | with_reducible rfl
              try simp only [Act.put,List.setIfInBounds_toArray,List.set_cons_zero,List.set_cons_succ,List.getElem_toArray,List.getElem_cons_zero,List.getElem_cons_succ]
              refine wpAnyH_ready (rs:=[2,12]) (by kernel_rfl) (by simp) ?_
              refine AllReadyH.cons rfl (fun K hK=>?_) (AllReadyH.cons rfl (fun K hK=>?_) (AllReadyH.nil))
              . go_simp
                refine hK.out _ _ (KK2 _ hC1) (fun hHeld2=>?_)
                clear hK K hHeld1
                try simp only [Act.put,List.setIfInBounds_toArray,List.set_cons_zero,List.set_cons_succ,List.getElem_toArray,List.getElem_cons_zero,List.getElem_cons_succ]
                refine wpAnyH_ready (rs:=[12]) (by kernel_rfl) (by simp) ?_
                refine AllReadyH.cons rfl (fun K hK=>?_) (AllReadyH.nil)
                go_simp
                refine (csure_any _ _ _ _ _ _ _).mono ?_
                rintro _ y2 ⟨rfl,hs2⟩
                have hC2:=bel_trans hC1 hs2
                have a_D:=d1.num.keeps hs2
                have sc0:=q_cell (blkC s_k 0 rfl) hC2
                have sc1:=q_cell (blkC s_k 1 rfl) hC2
                have sc2:=q_cell (blkC s_k 2 rfl) hC2
                refine hK.out _ _ (KK2 _ hC2) (fun hHeld3=>?_)
                clear hK K hHeld2
                try simp only [Act.put,List.setIfInBounds_toArray,List.set_cons_zero,List.set_cons_succ,List.getElem_toArray,List.getElem_cons_zero,List.getElem_cons_succ]
                refine wpAnyH_ready (rs:=[13]) (by kernel_rfl) (by simp) ?_
                refine AllReadyH.cons rfl (fun K hK=>?_) (AllReadyH.nil)
                go_simp
                refine (add_B (sD.num.keeps hC2) a_D bS (B1.up (by omega) (by omega)) (by omega) (TT.keeps hC2)).mono ?_
                rintro _ y3 ⟨v,rfl,d3⟩
                obtain ⟨n_g,n_o,n_n,n_c,n_e,rfl⟩:=dans_shape d3
                have hs3:=d3.below
                have hC3:=bel_trans hC2 hs3
                refine hK.out _ _ (KK2 _ hC3) (fun hHeld4=>?_)
                clear hK K hHeld3
                try simp only [Act.put,List.setIfInBounds_toArray,List.set_cons_zero,List.set_cons_succ,List.getElem_toArray,List.getElem_cons_zero,List.getElem_cons_succ]
                refine wpAnyH_take (i:=14) (v:=?_) rfl (by kernel_rfl) (by kernel_rfl) (by kernel_rfl) (fun _ _ _ h=>h) (Or.inl ⟨by kernel_rfl,?_⟩) (by assumption) ?_
                rotate_left
                . intro w hSw; (try dsimp only at hSw); go_simp; first | done | with_reducible rfl
                try simp only [Act.put,List.setIfInBounds_toArray,List.set_cons_zero,List.set_cons_succ,List.getElem_toArray,List.getElem_cons_zero,List.getElem_cons_succ]
                refine wpAnyH_take (i:=15) (v:=?_) rfl (by kernel_rfl) (by kernel_rfl) (by kernel_rfl) (fun _ _ _ h=>h) (Or.inl ⟨by kernel_rfl,?_⟩) (by assumption) ?_
                rotate_left
                . intro w hSw; (try dsimp only at hSw); go_simp; first | done | with_reducible rfl
                try simp only [Act.put,List.setIfInBounds_toArray,List.set_cons_zero,List.set_cons_succ,List.getElem_toArray,List.getElem_cons_zero,List.getElem_cons_succ]
                refine wpAnyH_ready (rs:=[16]) (by kernel_rfl) (by simp) ?_
                refine AllReadyH.cons rfl (fun K hK=>?_) (AllReadyH.nil)
                go_simp
                refine (csure_any _ _ _ _ _ _ _).mono ?_
                rintro _ y4 ⟨rfl,hs4⟩
                have hC4:=bel_trans hC3 hs4
                have n_D:=(d3.dan.keeps hs4).lower (bel_trans hbw hC2).size
                have rk:=blk_on hC4 s_k
                have e0:=blkC rk 0 rfl
                have e1:=blkC rk 1 rfl
                have e2:=blkC rk 2 rfl
                have z0:=blkF rk 0
                have z1:=blkF rk 1
                have z2:=blkF rk 2
                refine hK.out _ _ (KK2 _ hC4) (fun hHeld5=>?_)
                clear hK K hHeld4
                try simp only [Act.put,List.setIfInBounds_toArray,List.set_cons_zero,List.set_cons_succ,List.getElem_toArray,List.getElem_cons_zero,List.getElem_cons_succ]
                refine wpAnyH_ready (rs:=[17]) (by kernel_rfl) (by simp) ?_
                refine AllReadyH.cons rfl (fun K hK=>?_) (AllReadyH.nil)
                go_simp
                refine hK.out _ _ ⟨cell_c3 (KK2 _ hC4).1 _ _ _ (show w.heap.size≠gs by omega),cell_c3 (KK2 _ hC4).2.1 _ _ _ (show w.heap.size≠gs by omega),cell_c3 (KK2 _ hC4).2.2.1 _ _ _ (show w.heap.size+1+1+1+1≠gs by omega),cell_c3 (KK2 _ hC4).2.2.2.1 _ _ _ (show w.heap.size+1+1+1+1≠gs by omega),cell_c3 (KK2 _ hC4).2.2.2.2.1 _ _ _ (show w.heap.size+1+1+1+1≠gs by omega),cell_c3 (KK2 _ hC4).2.2.2.2.2.1 _ _ _ hngs,cell_c3 (KK2 _ hC4).2.2.2.2.2.2.1 _ _ _ hngs,cell_c3 (KK2 _ hC4).2.2.2.2.2.2.2 _ _ _ hngs⟩ (fun hHeld6=>?_)
                clear hK K hHeld5
                try simp only [Act.put,List.setIfInBounds_toArray,List.set_cons_zero,List.set_cons_succ,List.getElem_toArray,List.getElem_cons_zero,List.getElem_cons_succ]
                refine wpAnyH_done (by kernel_rfl) ?_ _
                have eT:C1=T 2:=scale_inj (E1.trans ht.1.symm)
                rw [eT] at n_D
                have HX3:=hideIt ((HX2.out.keeps hC4).set rk (by decide) 0 1 2 (.bool n_g) (.slice n_o n_n n_c) (.int .i64 n_e))
                have HY3:=hideIt ((HY2.out.keeps hC4).set rk (by decide) 0 1 2 (.bool n_g) (.slice n_o n_n n_c) (.int .i64 n_e))
                have HL3:=hideIt ((HL2.out.keeps hC4).set rk (by decide) 0 1 2 (.bool n_g) (.slice n_o n_n n_c) (.int .i64 n_e))
                have k_k3:=cc_n3 (blk_on hC4 k_k) (show w.heap.size≠gs by omega) 0 1 2 (.bool n_g) (.slice n_o n_n n_c) (.int .i64 n_e)
                have r_k3:=cc_n3 (blk_on hC4 r_k) (show w.heap.size+1≠gs by omega) 0 1 2 (.bool n_g) (.slice n_o n_n n_c) (.int .i64 n_e)
                have x_k3:=cc_n3 (blk_on hC4 x_k) (show w.heap.size+1+1≠gs by omega) 0 1 2 (.bool n_g) (.slice n_o n_n n_c) (.int .i64 n_e)
                have y_k3:=cc_n3 (blk_on hC4 y_k) (show w.heap.size+1+1+1≠gs by omega) 0 1 2 (.bool n_g) (.slice n_o n_n n_c) (.int .i64 n_e)
                have l_k3:=cc_n3 (blk_on hC4 l_k) (show w.heap.size+1+1+1+1≠gs by omega) 0 1 2 (.bool n_g) (.slice n_o n_n n_c) (.int .i64 n_e)
                have s_k3:=heap_set (heap_set (heap_set rk 0 (.bool n_g)) 1 (.slice n_o n_n n_c)) 2 (.int .i64 n_e)
                have HS3:Hid (DAn w.heap.size _ (su T 3) (.agg #[.bool n_g,.slice n_o n_n n_c,.int .i64 n_e])):=dan_res3 n_D rk (.bool n_g) (.slice n_o n_n n_c) (.int .i64 n_e)
                have hb3:=cc_s3 (bel_trans hbw hC4) (show w.heap.size<=gs by omega) 0 1 2 (.bool n_g) (.slice n_o n_n n_c) (.int .i64 n_e)
                clear e0 e1 e2 z0 z1 z2
                go_wp2_with fail
                go_roundw
                case rel=>(repeat apply Exists.intro); exact ⟨⟨3,by omega,by go_num,_,_,_,_,_,s_k3,HS3,HX3,HY3,HL3,k_k3,r_k3,x_k3,y_k3,l_k3,hb3⟩,rfl⟩
                case measure=>simp [intOf]
              . go_simp
                refine (csure_any _ _ _ _ _ _ _).mono ?_
                rintro _ y2 ⟨rfl,hs2⟩
                have hC2:=bel_trans hC1 hs2
                have a_D:=d1.num.keeps hs2
                have sc0:=q_cell (blkC s_k 0 rfl) hC2
                have sc1:=q_cell (blkC s_k 1 rfl) hC2
                have sc2:=q_cell (blkC s_k 2 rfl) hC2
                refine hK.out _ _ (KK2 _ hC2) (fun hHeld2=>?_)
                clear hK K hHeld1
                try simp only [Act.put,List.setIfInBounds_toArray,List.set_cons_zero,List.set_cons_succ,List.getElem_toArray,List.getElem_cons_zero,List.getElem_cons_succ]
                refine wpAnyH_ready (rs:=[2]) (by kernel_rfl) (by simp) ?_
                refine AllReadyH.cons rfl (fun K hK=>?_) (AllReadyH.nil)
                go_simp
                refine hK.out _ _ (KK2 _ hC2) (fun hHeld3=>?_)
                clear hK K hHeld2
                try simp only [Act.put,List.setIfInBounds_toArray,List.set_cons_zero,List.set_cons_succ,List.getElem_toArray,List.getElem_cons_zero,List.getElem_cons_succ]
                refine wpAnyH_ready (rs:=[13]) (by kernel_rfl) (by simp) ?_
                refine AllReadyH.cons rfl (fun K hK=>?_) (AllReadyH.nil)
                go_simp
                refine (add_B (sD.num.keeps hC2) a_D bS (B1.up (by omega) (by omega)) (by omega) (TT.keeps hC2)).mono ?_
                rintro _ y3 ⟨v,rfl,d3⟩
                obtain ⟨n_g,n_o,n_n,n_c,n_e,rfl⟩:=dans_shape d3
                have hs3:=d3.below
                have hC3:=bel_trans hC2 hs3
                refine hK.out _ _ (KK2 _ hC3) (fun hHeld4=>?_)
                clear hK K hHeld3
                try simp only [Act.put,List.setIfInBounds_toArray,List.set_cons_zero,List.set_cons_succ,List.getElem_toArray,List.getElem_cons_zero,List.getElem_cons_succ]
                refine wpAnyH_take (i:=14) (v:=?_) rfl (by kernel_rfl) (by kernel_rfl) (by kernel_rfl) (fun _ _ _ h=>h) (Or.inl ⟨by kernel_rfl,?_⟩) (by assumption) ?_
                rotate_left
                . intro w hSw; (try dsimp only at hSw); go_simp; first | done | with_reducible rfl
                try simp only [Act.put,List.setIfInBounds_toArray,List.set_cons_zero,List.set_cons_succ,List.getElem_toArray,List.getElem_cons_zero,List.getElem_cons_succ]
                refine wpAnyH_take (i:=15) (v:=?_) rfl (by kernel_rfl) (by kernel_rfl) (by kernel_rfl) (fun _ _ _ h=>h) (Or.inl ⟨by kernel_rfl,?_⟩) (by assumption) ?_
                rotate_left
                . intro w hSw; (try dsimp only at hSw); go_simp; first | done | with_reducible rfl
                try simp only [Act.put,List.setIfInBounds_toArray,List.set_cons_zero,List.set_cons_succ,List.getElem_toArray,List.getElem_cons_zero,List.getElem_cons_succ]
                refine wpAnyH_ready (rs:=[16]) (by kernel_rfl) (by simp) ?_
                refine AllReadyH.cons rfl (fun K hK=>?_) (AllReadyH.nil)
                go_simp
                refine (csure_any _ _ _ _ _ _ _).mono ?_
                rintro _ y4 ⟨rfl,hs4⟩
                have hC4:=bel_trans hC3 hs4
                have n_D:=(d3.dan.keeps hs4).lower (bel_trans hbw hC2).size
                have rk:=blk_on hC4 s_k
                have e0:=blkC rk 0 rfl
                have e1:=blkC rk 1 rfl
                have e2:=blkC rk 2 rfl
                have z0:=blkF rk 0
                have z1:=blkF rk 1
                have z2:=blkF rk 2
                refine hK.out _ _ (KK2 _ hC4) (fun hHeld5=>?_)
                clear hK K hHeld4
                try simp only [Act.put,List.setIfInBounds_toArray,List.set_cons_zero,List.set_cons_succ,List.getElem_toArray,List.getElem_cons_zero,List.getElem_cons_succ]
                refine wpAnyH_ready (rs:=[17]) (by kernel_rfl) (by simp) ?_
                refine AllReadyH.cons rfl (fun K hK=>?_) (AllReadyH.nil)
                go_simp
                refine hK.out _ _ ⟨cell_c3 (KK2 _ hC4).1 _ _ _ (show w.heap.size≠gs by omega),cell_c3 (KK2 _ hC4).2.1 _ _ _ (show w.heap.size≠gs by omega),cell_c3 (KK2 _ hC4).2.2.1 _ _ _ (show w.heap.size+1+1+1+1≠gs by omega),cell_c3 (KK2 _ hC4).2.2.2.1 _ _ _ (show w.heap.size+1+1+1+1≠gs by omega),cell_c3 (KK2 _ hC4).2.2.2.2.1 _ _ _ (show w.heap.size+1+1+1+1≠gs by omega),cell_c3 (KK2 _ hC4).2.2.2.2.2.1 _ _ _ hngs,cell_c3 (KK2 _ hC4).2.2.2.2.2.2.1 _ _ _ hngs,cell_c3 (KK2 _ hC4).2.2.2.2.2.2.2 _ _ _ hngs⟩ (fun hHeld6=>?_)
                clear hK K hHeld5
                try simp only [Act.put,List.setIfInBounds_toArray,List.set_cons_zero,List.set_cons_succ,List.getElem_toArray,List.getElem_cons_zero,List.getElem_cons_succ]
                refine wpAnyH_done (by kernel_rfl) ?_ _
                have eT:C1=T 2:=scale_inj (E1.trans ht.1.symm)
                rw [eT] at n_D
                have HX3:=hideIt ((HX2.out.keeps hC4).set rk (by decide) 0 1 2 (.bool n_g) (.slice n_o n_n n_c) (.int .i64 n_e))
                have HY3:=hideIt ((HY2.out.keeps hC4).set rk (by decide) 0 1 2 (.bool n_g) (.slice n_o n_n n_c) (.int .i64 n_e))
                have HL3:=hideIt ((HL2.out.keeps hC4).set rk (by decide) 0 1 2 (.bool n_g) (.slice n_o n_n n_c) (.int .i64 n_e))
                have k_k3:=cc_n3 (blk_on hC4 k_k) (show w.heap.size≠gs by omega) 0 1 2 (.bool n_g) (.slice n_o n_n n_c) (.int .i64 n_e)
                have r_k3:=cc_n3 (blk_on hC4 r_k) (show w.heap.size+1≠gs by omega) 0 1 2 (.bool n_g) (.slice n_o n_n n_c) (.int .i64 n_e)
                have x_k3:=cc_n3 (blk_on hC4 x_k) (show w.heap.size+1+1≠gs by omega) 0 1 2 (.bool n_g) (.slice n_o n_n n_c) (.int .i64 n_e)
                have y_k3:=cc_n3 (blk_on hC4 y_k) (show w.heap.size+1+1+1≠gs by omega) 0 1 2 (.bool n_g) (.slice n_o n_n n_c) (.int .i64 n_e)
                have l_k3:=cc_n3 (blk_on hC4 l_k) (show w.heap.size+1+1+1+1≠gs by omega) 0 1 2 (.bool n_g) (.slice n_o n_n n_c) (.int .i64 n_e)
                have s_k3:=heap_set (heap_set (heap_set rk 0 (.bool n_g)) 1 (.slice n_o n_n n_c)) 2 (.int .i64 n_e)
                have HS3:Hid (DAn w.heap.size _ (su T 3) (.agg #[.bool n_g,.slice n_o n_n n_c,.int .i64 n_e])):=dan_res3 n_D rk (.bool n_g) (.slice n_o n_n n_c) (.int .i64 n_e)
                have hb3:=cc_s3 (bel_trans hbw hC4) (show w.heap.size<=gs by omega) 0 1 2 (.bool n_g) (.slice n_o n_n n_c) (.int .i64 n_e)
                clear e0 e1 e2 z0 z1 z2
                go_wp2_with fail
                go_roundw
                case rel=>(repeat apply Exists.intro); exact ⟨⟨3,by omega,by go_num,_,_,_,_,_,s_k3,HS3,HX3,HY3,HL3,k_k3,r_k3,x_k3,y_k3,l_k3,hb3⟩,rfl⟩
                case measure=>simp [intOf]
        . have sD:=HS.out
          have f_s0:=blkC s_k 0 rfl
          have f_s1:=blkC s_k 1 rfl
          have f_s2:=blkC s_k 2 rfl
          have k0:=blkC r_k 0 rfl
          have k1:=blkC r_k 1 rfl
          have k2:=blkC r_k 2 rfl
          have z0:=blkF r_k 0
          have z1:=blkF r_k 1
          have z2:=blkF r_k 2
          have t0:=hT3 0 (by decide)
          have t1:=hT3 1 (by decide)
          have t2:=hT3 2 (by decide)
          have bS:=su_bd (fun i hi=>(hT3 i hi).2) (show 4*K+10<=4194304 by omega) 3 (by decide)
          go_wp2
          exact bodyPost_ret (v:=.agg #[.bool s_g,.slice s_o s_n s_c,.int .i64 s_e]) (by simp [results,Tryz.results76,go_sem,k0,k1,k2]) rfl ⟨_,su T 3,rfl,dan_res3 sD r_k _ _ _,bel_set3 hbw (by omega) _ _ _,c_tot (c_term t0.1 (hL 0 (by decide)).1 (hM 0 (by decide)).1) (c_term t1.1 (hL 1 (by decide)).1 (hM 1 (by decide)).1) (c_term t2.1 (hL 2 (by decide)).1 (hM 2 (by decide)).1),bS⟩
end Go.Proofs.YtjjihmnbdeeedaaGreatDoor
