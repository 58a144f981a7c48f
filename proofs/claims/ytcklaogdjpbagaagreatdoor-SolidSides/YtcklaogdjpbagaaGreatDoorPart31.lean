/- Parts of the proof. -/
import Derived.Test.YtcklaogdjpbagaaGreatDoorPart30
import Derived.Test.YtcklaogdjpbagaaGreatDoorPart17
import Derived.Test.YtcklaogdjpbagaaGreatDoorPart20
import Derived.Test.YtcklaogdjpbagaaGreatDoorPart19
set_option maxRecDepth 100000
set_option maxHeartbeats 8000000
set_option linter.unusedVariables false
set_option linter.unusedSimpArgs false
namespace Go.Proofs.YtcklaogdjpbagaaGreatDoor
open Go Go.Proofs.Tryz Go.RowKit Go.Proofs.YtcklaogdjpbagaaGreatDoor.M
theorem sK {d s a:Int} (rd:ar d) (rs:ar s) (ra:ar a) (w:World) :
  Calls prog 28 #[.int .i64 d,.int .i64 s,.int .i64 a] w fun e w'=>e=.returned (.tuple #[.agg #[.int .i64 (fw d),.int .i64 1],.bool (decide (aT (aw a s)<rg d))])∧Below w.heap.size w w':=by
 have P:Hid (∀ W,Calls prog 54 #[.int .i64 a,.int .i64 s] W fun e w'=>e=.returned (.int .i64 (aw a s))∧Below W.heap.size W w'):=fun W=>dZ _ _ ra rs W
 have A:Hid (∀ W,Calls prog 55 #[.int .i64 d] W fun e w'=>e=.returned (.int .i64 (rg d))∧Below W.heap.size W w'):=fun W=>ji rd W
 have CL:Hid (∀ W,Calls prog 57 #[.int .i64 (aw a s),.int .i64 (rg d)] W fun e w'=>e=.returned (.bool (decide (aT (aw a s)<rg d)))∧Below W.heap.size W w'):=fun W=>by
  obtain⟨q1,q2⟩:=cN rd
  have:=yt (bf ra rs) q1 W
  rw[kS q2] at this
  exact this
 have V:Hid (∀ W,Calls prog 58 #[.int .i64 d] W fun e w'=>e=.returned (.int .i64 (fw d))∧Below W.heap.size W w'):=fun W=>zM rd W
 clear rd rs ra
 generalize decide (aT (aw a s)<rg d)=b at *
 generalize fw d=v at *
 generalize rg d=g at *
 generalize aw a s=m at *
 have hb0:=ah w (.cells #[.int .i64 0,.int .i64 0] 27)
 have r_k:=aK w (.cells #[.int .i64 0,.int .i64 0] 27)
 go_enter func28,ntmps28
 go_wp2_with fail
 generalize (w.alloc (.cells #[.int .i64 0,.int .i64 0] 27))=x0 at hb0 r_k ⊢
 refine(P.out _).mono ?_
 rintro _ y1 ⟨rfl,hw1⟩
 replace r_k:=ak hw1 r_k
 replace hb0:=af hb0 hw1
 go_wp2_with fail
 refine(A.out _).mono ?_
 rintro _ y2 ⟨rfl,hw2⟩
 replace r_k:=ak hw2 r_k
 replace hb0:=af hb0 hw2
 go_wp2_with fail
 refine(CL.out _).mono ?_
 rintro _ y3 ⟨rfl,hw3⟩
 replace r_k:=ak hw3 r_k
 replace hb0:=af hb0 hw3
 go_wp2_with fail
 refine(V.out _).mono ?_
 rintro _ y4 ⟨rfl,hw4⟩
 replace r_k:=ak hw4 r_k
 replace hb0:=af hb0 hw4
 have k0:=ac r_k 0 rfl
 have k1:=ac r_k 1 rfl
 have z0:=aq r_k 0
 have z1:=aq r_k 1
 go_wp2
 exact bodyPost_ret (v:=.tuple #[.agg #[.int .i64 v,.int .i64 1],.bool b]) (by simp[results,results28,go_sem,k0,k1]) rfl ⟨rfl,(hb0.setCell (p:=⟨w.heap.size,0,none⟩) (Nat.le_refl _) _).setCell (p:=⟨w.heap.size,1,none⟩) (Nat.le_refl _) _⟩
theorem pN (ao:Option Addr) (n cap:Nat) (s:Nat->Nat->Int) (w:World) (h:gb w ao n cap s) (hs:∀ i k,ar (s i k)) :
    Calls prog 25 #[.slice ao n cap] w fun x w'=>x=.returned (.bool (bQ (dM s) n))∧w'=w:=by
  have hl:=h.le
  have hm:=h.max
  have CC:Hid (∀ i k W,Calls prog 51 #[.int .i64 (s i k)] W fun e w'=>e=.returned (.bool (a9 (s i k)))∧w'=W):=fun i k W=>ue (hs i k) W
  clear hs
  go_enter func25,ntmps25
  go_wp2_with fail
  go_loopw [3] (fun i wr=>∃ k:Nat,k<=n∧i=.int .i64 k∧Hid (∀ j,j<k->dM s j=true)∧w=wr) (fun i _=>n-(intOf i).toNat)
  case atStart=>exact⟨0,Nat.zero_le _,rfl,fun j hj=>by omega,rfl⟩
  case round=>
    obtain⟨k,hk,rfl,HO,rfl⟩:=hrel
    by_cases hlt:k<n
    · obtain⟨b,off,rfl,hb,hc⟩:=h.spot (by omega)
      have c0:=(hc k hlt).1
      have c1:=(hc k hlt).2.1
      have c2:=(hc k hlt).2.2
      have CX:Hid (∀ W,Calls prog 51 #[.int .i64 (s k 0)] W fun e w'=>e=.returned (.bool (a9 (s k 0)))∧w'=W):=CC.out k 0
      have CY:Hid (∀ W,Calls prog 51 #[.int .i64 (s k 1)] W fun e w'=>e=.returned (.bool (a9 (s k 1)))∧w'=W):=CC.out k 1
      have CZ:Hid (∀ W,Calls prog 51 #[.int .i64 (s k 2)] W fun e w'=>e=.returned (.bool (a9 (s k 2)))∧w'=W):=CC.out k 2
      have HK:Hid (dM s k=false->false=bQ (dM s) n):=fun q=>(decide_eq_false fun hx=>by have:=hx k hlt;rw[this] at q;cases q).symm
      have HY:Hid (dM s k=true->∀ j,j<k+1->dM s j=true):=fun q j hj=>by
        by_cases e:j=k
        · subst e;exact q
        · exact HO.out j (by omega)
      have HS:Hid (dM s k=(a9 (s k 0)&&a9 (s k 1)&&a9 (s k 2))):=rfl
      clear hc CC
      generalize dM s k=b0 at *
      generalize a9 (s k 0)=b1 at *
      generalize a9 (s k 1)=b2 at *
      generalize a9 (s k 2)=b3 at *
      cases b1<;>cases b2<;>cases b3
      all_goals
        obtain rfl:b0=_:=HS.out
        go_wp2_with fail
        refine(CX.out _).mono ?_
        rintro _ _ ⟨rfl,rfl⟩
        go_wp2_with fail
        refine(CY.out _).mono ?_
        rintro _ _ ⟨rfl,rfl⟩
        go_wp2_with fail
        refine(CZ.out _).mono ?_
        rintro _ _ ⟨rfl,rfl⟩
        go_wp2
        first
          | (go_ret;exact⟨a8 (HK.out rfl),rfl⟩)
          | (go_roundw
             case rel=>exact⟨k+1,by omega,by go_num,HY.out rfl,by first|rfl|trivial⟩
             case measure=>simp [intOf]; omega)
    · obtain rfl:k=n:=by omega
      have HD:Hid (true=bQ (dM s) k):=(decide_eq_true HO.out).symm
      go_wp2
      go_ret
      exact⟨a8 HD.out,rfl⟩
theorem li (b:Int) (w:World) (hb:ar b) (hp:ay b=true) :
  Calls prog 80 #[.int .i64 b] w fun r w'=>∃ v,r=.returned v∧aR w w' (au b) v:=by
 have r_k:=aK w (.cells #[.bool false,.slice none 0 0,.int .i64 0] 33)
 have hb0:=ah w (.cells #[.bool false,.slice none 0 0,.int .i64 0] 33)
 have CO:Hid (∀ W,Calls prog 108 #[.int .i64 b] W fun r w'=>∃ v,r=.returned v∧aR W w' (au b) v):=fun W=>q7 b W hb hp
 go_enter func80,ntmps80
 go_wp2_with fail
 generalize w.alloc (.cells #[.bool false,.slice none 0 0,.int .i64 0] 33)=x0 at r_k hb0 ⊢
 have hs0:=(aGe r_k).1
 refine(CO.out _).mono ?_
 rintro _ y1 ⟨v,rfl,h1⟩
 obtain⟨n_g,n_o,n_n,n_c,n_e,rfl⟩:=a6 h1
 have hw:=h1.below
 have r_k:=(hw.block _ (aGe r_k).1).trans r_k
 have k0:=ac r_k 0 rfl
 have k1:=ac r_k 1 rfl
 have k2:=ac r_k 2 rfl
 have z0:=aq r_k 0
 have z1:=aq r_k 1
 have z2:=aq r_k 2
 go_wp2
 refine bodyPost_ret (v:=.agg #[.bool n_g,.slice n_o n_n n_c,.int .i64 n_e]) (by simp[results,results80,go_sem,k0,k1,k2]) rfl ⟨_,rfl,?_⟩
 exact bD (g:=w.heap.size) h1 hb0 (Nat.le_refl _) hs0 _ _ _
theorem yu {B:Nat} {w:World} {y:aA} (h:bJ B w y.V y.v) (ok:cQ y=true):bJ B w (-y.V) y.opp.v:=by
 obtain⟨m,h1,h2⟩:=bJ.parts h
 obtain⟨e1,e2⟩:=wR ok
 rw[e1] at e2
 obtain⟨_,rfl,_⟩:=h1.unique (im ok).1
 exact⟨_,_,_,_,rfl,e2,h2⟩
theorem bJ.shape {B:Nat} {w:World} {V:Int} {v:Value} (h:bJ B w V v):∃ ng so sn sc e,v=.agg #[.bool ng,.slice so sn sc,.int .i64 e]:=h.three
theorem lj {B:Nat} {w:World} {x y:Value} {A C:Int} {K:Nat} (hx:bJ B w A x) (hy:bJ B w C y) (hB:B<=w.heap.size) (bA:Bd K A) (bC:Bd K C) (hK:K<=28000) :
  Calls prog 31 #[x,y] w fun r w'=>∃ v,r=.returned v∧bJ B w' (A-C) v∧Below w.heap.size w w':=by
 have CS:∀ W,Below w.heap.size w W->Calls prog 61 #[x,y] W fun r w'=>∃ v,r=.returned v∧bJ B w' (A-C) v∧Below W.heap.size W w':=fun W hW=>by
  have hx':=hx.keeps hW
  have hy':=hy.keeps hW
  obtain⟨x,rfl,hR,ok,rfl⟩:=hx'.num.open (bA.ok (by omega))
  obtain⟨y,rfl,hR',ok',rfl⟩:=hy'.num.open (bC.ok (by omega))
  refine(uv x y W hR hR' ok ok' (K:=K) (by omega) bA bC).mono ?_
  rintro r w' ⟨v,rfl,h⟩
  refine⟨v,rfl,?_,h.1⟩
  rw[Int.sub_eq_add_neg]
  rcases h.2 with h1|⟨h1,rfl⟩|⟨h1,rfl⟩
  ·exact h1.dan.lower (Nat.le_trans hB hW.size)
  ·rw[h1,Int.zero_add];exact(yu hy' ok').keeps h.1
  ·rw[h1,Int.add_zero];exact hx'.keeps h.1
 obtain⟨p_g,p_o,p_n,p_c,p_e,rfl⟩:=hx.shape
 obtain⟨q_g,q_o,q_n,q_c,q_e,rfl⟩:=hy.shape
 clear hx hy bA bC
 have hb0:=cB w (.cells #[.bool p_g,.slice p_o p_n p_c,.int .i64 p_e] 33) (.cells #[.bool q_g,.slice q_o q_n q_c,.int .i64 q_e] 33) (.cells #[.bool false,.slice none 0 0,.int .i64 0] 33)
 have r_k:=il w (.cells #[.bool p_g,.slice p_o p_n p_c,.int .i64 p_e] 33) (.cells #[.bool q_g,.slice q_o q_n q_c,.int .i64 q_e] 33) (.cells #[.bool false,.slice none 0 0,.int .i64 0] 33)
 go_enter func31,ntmps31
 go_wp2_with fail
 generalize ((w.alloc (.cells #[.bool p_g,.slice p_o p_n p_c,.int .i64 p_e] 33)).alloc (.cells #[.bool q_g,.slice q_o q_n q_c,.int .i64 q_e] 33)).alloc (.cells #[.bool false,.slice none 0 0,.int .i64 0] 33)=x0 at r_k hb0 ⊢
 refine(CS _ hb0).mono ?_
 rintro _ y1 ⟨v,rfl,h1,hw⟩
 obtain⟨n_g,n_o,n_n,n_c,n_e,rfl⟩:=h1.shape
 have r_k:=(hw.block _ (aGe r_k).1).trans r_k
 have k0:=ac r_k 0 rfl
 have k1:=ac r_k 1 rfl
 have k2:=ac r_k 2 rfl
 have z0:=aq r_k 0
 have z1:=aq r_k 1
 have z2:=aq r_k 2
 go_wp2
 refine bodyPost_ret (v:=.agg #[.bool n_g,.slice n_o n_n n_c,.int .i64 n_e]) (by simp[results,results31,go_sem,k0,k1,k2]) rfl ⟨_,rfl,dl h1 r_k _ _ _,di (af hb0 hw) (by omega) _ _ _⟩
theorem fC {w:World} {x y:Value} {A C:Int} {K:Nat} (hx:aM w x A) (hy:aM w y C) (bA:Bd K A) (bC:Bd K C) (hK:K<=14000) :
  Calls prog 32 #[x,y] w fun r w'=>∃ v V,r=.returned v∧aR w w' V v∧V*2^4194304=A*C∧Bd (2*K) V:=by
 have CS:∀ W,Below w.heap.size w W->Calls prog 62 #[x,y] W fun r w'=>∃ v V,r=.returned v∧aR W w' V v∧V*2^4194304=A*C∧Bd (2*K) V:=fun W hW=>by
  have hx':=hx.keeps hW
  have hy':=hy.keeps hW
  obtain⟨x,rfl,hR,ok,rfl⟩:=hx'.open (bA.ok (by omega))
  obtain⟨y,rfl,hR',ok',rfl⟩:=hy'.open (bC.ok (by omega))
  refine(nQ x y W hR hR' (cd ok) (cd ok')).mono ?_
  rintro r w' ⟨v,rfl,h⟩
  have hC:=kN (x:=x) (y:=y) (by have:=(cd ok).2.2.1;omega) (by have:=(cd ok').2.2.1;omega)
  exact⟨v,_,rfl,h,hC,bA.mul bC hC (by omega)⟩
 obtain⟨p,rfl,_,_,_⟩:=hx.open (bA.ok (by omega))
 obtain⟨q,rfl,_,_,_⟩:=hy.open (bC.ok (by omega))
 obtain⟨p_g,p_o,p_n,p_c,p_d,p_e⟩:=p
 obtain⟨q_g,q_o,q_n,q_c,q_d,q_e⟩:=q
 unfold aA.v at *
 simp only at *
 clear hx hy bA bC
 have hb0:=cB w (.cells #[.bool p_g,.slice p_o p_n p_c,.int .i64 p_e] 33) (.cells #[.bool q_g,.slice q_o q_n q_c,.int .i64 q_e] 33) (.cells #[.bool false,.slice none 0 0,.int .i64 0] 33)
 have r_k:=il w (.cells #[.bool p_g,.slice p_o p_n p_c,.int .i64 p_e] 33) (.cells #[.bool q_g,.slice q_o q_n q_c,.int .i64 q_e] 33) (.cells #[.bool false,.slice none 0 0,.int .i64 0] 33)
 go_enter func32,ntmps32
 go_wp2_with fail
 generalize ((w.alloc (.cells #[.bool p_g,.slice p_o p_n p_c,.int .i64 p_e] 33)).alloc (.cells #[.bool q_g,.slice q_o q_n q_c,.int .i64 q_e] 33)).alloc (.cells #[.bool false,.slice none 0 0,.int .i64 0] 33)=x0 at r_k hb0 ⊢
 have hs0:=(aGe r_k).1
 refine(CS _ hb0).mono ?_
 rintro _ y1 ⟨v,V,rfl,h1,hE,hBd⟩
 obtain⟨n_g,n_o,n_n,n_c,n_e,rfl⟩:=a6 h1
 have hw:=h1.below
 have r_k:=(hw.block _ (aGe r_k).1).trans r_k
 have k0:=ac r_k 0 rfl
 have k1:=ac r_k 1 rfl
 have k2:=ac r_k 2 rfl
 have z0:=aq r_k 0
 have z1:=aq r_k 1
 have z2:=aq r_k 2
 go_wp2
 refine bodyPost_ret (v:=.agg #[.bool n_g,.slice n_o n_n n_c,.int .i64 n_e]) (by simp[results,results32,go_sem,k0,k1,k2]) rfl ⟨_,V,rfl,?_,hE,hBd⟩
 exact bD (g:=w.heap.size+2) h1 hb0 (by omega) hs0 _ _ _
theorem mu {B:Nat} {w:World} {x y:Value} {A C:Int} {K:Nat} (hx:bJ B w A x) (hy:bJ B w C y) (hB:B<=w.heap.size) (bA:Bd K A) (bC:Bd K C) (hK:K<=28000) :
  Calls prog 34 #[x,y] w fun r w'=>∃ v,r=.returned v∧bJ B w' (A+C) v∧Below w.heap.size w w':=by
 have CS:∀ W,Below w.heap.size w W->Calls prog 63 #[x,y] W fun r w'=>∃ v,r=.returned v∧bJ B w' (A+C) v∧Below W.heap.size W w':=fun W hW=>by
  have hx':=hx.keeps hW
  have hy':=hy.keeps hW
  refine(uo hx'.num hy'.num (K:=K) (by omega) bA bC).mono ?_
  rintro r w' ⟨v,rfl,h⟩
  refine⟨v,rfl,?_,h.1⟩
  rcases h.2 with h1|⟨h1,rfl⟩|⟨h1,rfl⟩
  ·exact h1.dan.lower (Nat.le_trans hB hW.size)
  ·rw[h1,Int.zero_add];exact hy'.keeps h.1
  ·rw[h1,Int.add_zero];exact hx'.keeps h.1
 obtain⟨p_g,p_o,p_n,p_c,p_e,rfl⟩:=hx.shape
 obtain⟨q_g,q_o,q_n,q_c,q_e,rfl⟩:=hy.shape
 clear hx hy bA bC
 have hb0:=cB w (.cells #[.bool p_g,.slice p_o p_n p_c,.int .i64 p_e] 33) (.cells #[.bool q_g,.slice q_o q_n q_c,.int .i64 q_e] 33) (.cells #[.bool false,.slice none 0 0,.int .i64 0] 33)
 have r_k:=il w (.cells #[.bool p_g,.slice p_o p_n p_c,.int .i64 p_e] 33) (.cells #[.bool q_g,.slice q_o q_n q_c,.int .i64 q_e] 33) (.cells #[.bool false,.slice none 0 0,.int .i64 0] 33)
 go_enter func34,ntmps34
 go_wp2_with fail
 generalize ((w.alloc (.cells #[.bool p_g,.slice p_o p_n p_c,.int .i64 p_e] 33)).alloc (.cells #[.bool q_g,.slice q_o q_n q_c,.int .i64 q_e] 33)).alloc (.cells #[.bool false,.slice none 0 0,.int .i64 0] 33)=x0 at r_k hb0 ⊢
 refine(CS _ hb0).mono ?_
 rintro _ y1 ⟨v,rfl,h1,hw⟩
 obtain⟨n_g,n_o,n_n,n_c,n_e,rfl⟩:=h1.shape
 have r_k:=(hw.block _ (aGe r_k).1).trans r_k
 have k0:=ac r_k 0 rfl
 have z0:=aq r_k 0
 have k1:=ac r_k 1 rfl
 have z1:=aq r_k 1
 have k2:=ac r_k 2 rfl
 have z2:=aq r_k 2
 go_wp2
 refine bodyPost_ret (v:=.agg #[.bool n_g,.slice n_o n_n n_c,.int .i64 n_e]) (by simp[results,results34,go_sem,k0,k1,k2]) rfl ⟨_,rfl,dl h1 r_k _ _ _,di (af hb0 hw) (by omega) _ _ _⟩
theorem iA {p q:Int} (rp:ar p) (rq:ar q) (pp:ay p=true) (pq:ay q=true) (w:World) :
  Calls prog 49 #[.int .i64 p,.int .i64 q] w fun r w'=>∃ v,r=.returned v∧bJ w.heap.size w' (au p-au q) v∧Below w.heap.size w w':=by
 have E1:Hid (∀ W,Calls prog 80 #[.int .i64 p] W fun r w'=>∃ v,r=.returned v∧aR W w' (au p) v):=fun W=>li p W rp pp
 have E2:Hid (∀ W,Calls prog 80 #[.int .i64 q] W fun r w'=>∃ v,r=.returned v∧aR W w' (au q) v):=fun W=>li q W rq pq
 have B1:=i8 pp
 have B2:=i8 pq
 clear rp rq pp pq
 have r_k:=aK w (.cells #[.bool false,.slice none 0 0,.int .i64 0] 33)
 have hb0:=ah w (.cells #[.bool false,.slice none 0 0,.int .i64 0] 33)
 go_enter func49,ntmps49
 go_wp2_with fail
 generalize w.alloc (.cells #[.bool false,.slice none 0 0,.int .i64 0] 33)=x0 at r_k hb0 ⊢
 refine(E1.out _).mono ?_
 rintro _ y1 ⟨v,rfl,h1⟩
 obtain⟨p_g,p_o,p_n,p_c,p_e,rfl⟩:=a6 h1
 have hw1:=h1.below
 have p_D:=h1.dan.lower hb0.size
 replace r_k:=bM hw1 r_k
 replace hb0:=af hb0 hw1
 go_wp2_with fail
 refine(E2.out _).mono ?_
 rintro _ y2 ⟨v,rfl,h2⟩
 obtain⟨q_g,q_o,q_n,q_c,q_e,rfl⟩:=a6 h2
 have hw2:=h2.below
 have q_D:=h2.dan.lower hb0.size
 replace p_D:=p_D.keeps hw2
 replace r_k:=bM hw2 r_k
 replace hb0:=af hb0 hw2
 go_wp2_with fail
 refine(lj p_D q_D hb0.size B1 B2 (by omega)).mono ?_
 rintro _ y3 ⟨v,rfl,h3,hw3⟩
 obtain⟨n_g,n_o,n_n,n_c,n_e,rfl⟩:=h3.shape
 replace r_k:=bM hw3 r_k
 replace hb0:=af hb0 hw3
 have k0:=ac r_k 0 rfl
 have z0:=aq r_k 0
 have k1:=ac r_k 1 rfl
 have z1:=aq r_k 1
 have k2:=ac r_k 2 rfl
 have z2:=aq r_k 2
 go_wp2
 exact bodyPost_ret (v:=.agg #[.bool n_g,.slice n_o n_n n_c,.int .i64 n_e]) (by simp[results,results49,go_sem,k0,k1,k2]) rfl ⟨_,rfl,dl h3 r_k _ _ _,di hb0 (by omega) _ _ _⟩
theorem br {B:Nat} {w W:World} {p:Addr} {v:Value} (h:w.cell? p=some v) (hb:Below B w W) (hp:p.block<B):W.cell? p=some v:=(hb.cell hp).trans h
theorem lG {B:Nat} {w W:World} (h:Below B w W) {g:Nat} (hg:B<=g) (x y z:Value):Below B w (((W.setCell ⟨g,0,none⟩ x).setCell ⟨g,1,none⟩ y).setCell ⟨g,2,none⟩ z) :=
 ((h.setCell (p:=⟨g,0,none⟩) hg x).setCell (p:=⟨g,1,none⟩) hg y).setCell (p:=⟨g,2,none⟩) hg z
theorem pO {s:Nat->Nat->Int} (i j:Nat) (hr:∀ i k,ar (s i k)) (hi:∀ k,k<3->ay (s i k)=true) (hj:∀ k,k<3->ay (s j k)=true) (w:World) :
  Calls prog 23 #[.agg #[.int .i64 (s i 0),.int .i64 (s i 1),.int .i64 (s i 2)],.agg #[.int .i64 (s j 0),.int .i64 (s j 1),.int .i64 (s j 2)]] w fun r w'=>∃ n0_g n0_o n0_n n0_c n0_e n1_g n1_o n1_n n1_c n1_e n2_g n2_o n2_n n2_c n2_e,r=.returned (.agg #[.bool n0_g,.slice n0_o n0_n n0_c,.int .i64 n0_e,.bool n1_g,.slice n1_o n1_n n1_c,.int .i64 n1_e,.bool n2_g,.slice n2_o n2_n n2_c,.int .i64 n2_e])∧aM w' (.agg #[.bool n0_g,.slice n0_o n0_n n0_c,.int .i64 n0_e]) (au (s i 0)-au (s j 0))∧aM w' (.agg #[.bool n1_g,.slice n1_o n1_n n1_c,.int .i64 n1_e]) (au (s i 1)-au (s j 1))∧aM w' (.agg #[.bool n2_g,.slice n2_o n2_n n2_c,.int .i64 n2_e]) (au (s i 2)-au (s j 2))∧Below w.heap.size w w':=by
 have A0:Hid (∀ W,Calls prog 49 #[.int .i64 (s i 0),.int .i64 (s j 0)] W fun r w'=>∃ v,r=.returned v∧bJ W.heap.size w' (au (s i 0)-au (s j 0)) v∧Below W.heap.size W w'):=fun W=>iA (hr _ _) (hr _ _) (hi _ (by decide)) (hj _ (by decide)) W
 have A1:Hid (∀ W,Calls prog 49 #[.int .i64 (s i 1),.int .i64 (s j 1)] W fun r w'=>∃ v,r=.returned v∧bJ W.heap.size w' (au (s i 1)-au (s j 1)) v∧Below W.heap.size W w'):=fun W=>iA (hr _ _) (hr _ _) (hi _ (by decide)) (hj _ (by decide)) W
 have A2:Hid (∀ W,Calls prog 49 #[.int .i64 (s i 2),.int .i64 (s j 2)] W fun r w'=>∃ v,r=.returned v∧bJ W.heap.size w' (au (s i 2)-au (s j 2)) v∧Below W.heap.size W w'):=fun W=>iA (hr _ _) (hr _ _) (hi _ (by decide)) (hj _ (by decide)) W
 clear hr hi hj
 generalize au (s i 0)-au (s j 0)=V0 at *
 generalize au (s i 1)-au (s j 1)=V1 at *
 generalize au (s i 2)-au (s j 2)=V2 at *
 generalize s i 0=p0 at *
 generalize s j 0=q0 at *
 generalize s i 1=p1 at *
 generalize s j 1=q1 at *
 generalize s i 2=p2 at *
 generalize s j 2=q2 at *
 obtain⟨hb0,a_k,b_k,o_k,hsz0⟩:=od w (.cells #[.int .i64 p0,.int .i64 p1,.int .i64 p2] 23) (.cells #[.int .i64 q0,.int .i64 q1,.int .i64 q2] 23) (.cells #[.bool false,.slice none 0 0,.int .i64 0,.bool false,.slice none 0 0,.int .i64 0,.bool false,.slice none 0 0,.int .i64 0] 64)
 clear hsz0
 go_enter func23,ntmps23
 go_wp2_with fail
 generalize (((w.alloc (.cells #[.int .i64 p0,.int .i64 p1,.int .i64 p2] 23)).alloc (.cells #[.int .i64 q0,.int .i64 q1,.int .i64 q2] 23)).alloc (.cells #[.bool false,.slice none 0 0,.int .i64 0,.bool false,.slice none 0 0,.int .i64 0,.bool false,.slice none 0 0,.int .i64 0] 64))=x0 at hb0 a_k b_k o_k ⊢
 have hs0:=(aGe o_k).1
 have KK:∀ W,Below (w.heap.size+2) x0 W->W.cell? ⟨w.heap.size,0,none⟩=some (.int .i64 p0)∧W.cell? ⟨w.heap.size,1,none⟩=some (.int .i64 p1)∧W.cell? ⟨w.heap.size,2,none⟩=some (.int .i64 p2)∧W.cell? ⟨w.heap.size+1,0,none⟩=some (.int .i64 q0)∧W.cell? ⟨w.heap.size+1,1,none⟩=some (.int .i64 q1)∧W.cell? ⟨w.heap.size+1,2,none⟩=some (.int .i64 q2):=fun W hb=>⟨br (ac a_k 0 rfl) hb (show w.heap.size<w.heap.size+2 by omega),br (ac a_k 1 rfl) hb (show w.heap.size<w.heap.size+2 by omega),br (ac a_k 2 rfl) hb (show w.heap.size<w.heap.size+2 by omega),br (ac b_k 0 rfl) hb (show w.heap.size+1<w.heap.size+2 by omega),br (ac b_k 1 rfl) hb (show w.heap.size+1<w.heap.size+2 by omega),br (ac b_k 2 rfl) hb (show w.heap.size+1<w.heap.size+2 by omega)⟩
 have hlt:w.heap.size+2<=x0.heap.size:=by omega
 have hC0:=(ap x0).drew
 go_region_held3 (fun W=>W.cell? ⟨w.heap.size,0,none⟩=some (.int .i64 p0)∧W.cell? ⟨w.heap.size,1,none⟩=some (.int .i64 p1)∧W.cell? ⟨w.heap.size,2,none⟩=some (.int .i64 p2)∧W.cell? ⟨w.heap.size+1,0,none⟩=some (.int .i64 q0)∧W.cell? ⟨w.heap.size+1,1,none⟩=some (.int .i64 q1)∧W.cell? ⟨w.heap.size+1,2,none⟩=some (.int .i64 q2))
  (with_reducible first|assumption|exact KK _ (hC0.mono hlt)|exact KK _ (hC1.mono hlt)|exact KK _ (hC2.mono hlt)|exact KK _ (hC3.mono hlt)|exact KK _ ((((((((((hC3.mono hlt).setCell (p:=⟨w.heap.size+2,0,none⟩) (Nat.le_refl _) _).setCell (p:=⟨w.heap.size+2,1,none⟩) (Nat.le_refl _) _).setCell (p:=⟨w.heap.size+2,2,none⟩) (Nat.le_refl _) _).setCell (p:=⟨w.heap.size+2,3,none⟩) (Nat.le_refl _) _).setCell (p:=⟨w.heap.size+2,4,none⟩) (Nat.le_refl _) _).setCell (p:=⟨w.heap.size+2,5,none⟩) (Nat.le_refl _) _).setCell (p:=⟨w.heap.size+2,6,none⟩) (Nat.le_refl _) _).setCell (p:=⟨w.heap.size+2,7,none⟩) (Nat.le_refl _) _).setCell (p:=⟨w.heap.size+2,8,none⟩) (Nat.le_refl _) _)|fail)
  (first|(go_at_call 49;have _t:=hs2;refine(A2.out _).mono ?_;rintro _ y3 ⟨v,rfl,d2,hs3⟩;obtain⟨n2_g,n2_o,n2_n,n2_c,n2_e,rfl⟩:=d2.shape;have hC3:=af hC2 hs3;have d0:=d0.keeps hs3;have d1:=d1.keeps hs3;have rk:=ak hC3 o_k;have e0:=ac rk 0 rfl;have z0:=aq rk 0;have e1:=ac rk 1 rfl;have z1:=aq rk 1;have e2:=ac rk 2 rfl;have z2:=aq rk 2;have e3:=ac rk 3 rfl;have z3:=aq rk 3;have e4:=ac rk 4 rfl;have z4:=aq rk 4;have e5:=ac rk 5 rfl;have z5:=aq rk 5;have e6:=ac rk 6 rfl;have z6:=aq rk 6;have e7:=ac rk 7 rfl;have z7:=aq rk 7;have e8:=ac rk 8 rfl;have z8:=aq rk 8)|(go_at_call 49;have _t:=hs1;refine(A1.out _).mono ?_;rintro _ y2 ⟨v,rfl,d1,hs2⟩;obtain⟨n1_g,n1_o,n1_n,n1_c,n1_e,rfl⟩:=d1.shape;have hC2:=af hC1 hs2;have d0:=d0.keeps hs2)|(go_at_call 49;refine(A0.out _).mono ?_;rintro _ y1 ⟨v,rfl,d0,hs1⟩;obtain⟨n0_g,n0_o,n0_n,n0_c,n0_e,rfl⟩:=d0.shape;have hC1:=af hC0 hs1))
 go_wp2
 have hb3:=af hb0 hC3
 exact bodyPost_ret (v:=.agg #[.bool n0_g,.slice n0_o n0_n n0_c,.int .i64 n0_e,.bool n1_g,.slice n1_o n1_n n1_c,.int .i64 n1_e,.bool n2_g,.slice n2_o n2_n n2_c,.int .i64 n2_e]) (by simp[results,results23,go_sem,e0,e1,e2,e3,e4,e5,e6,e7,e8]) rfl ⟨_,_,_,_,_,_,_,_,_,_,_,_,_,_,_,rfl,(bW (bW (bW (bW (bW (bW (bW (bW (bW (d0) (rk) (by decide) 0 _) (am (rk) 0 _) (by decide) 1 _) (am (am (rk) 0 _) 1 _) (by decide) 2 _) (am (am (am (rk) 0 _) 1 _) 2 _) (by decide) 3 _) (am (am (am (am (rk) 0 _) 1 _) 2 _) 3 _) (by decide) 4 _) (am (am (am (am (am (rk) 0 _) 1 _) 2 _) 3 _) 4 _) (by decide) 5 _) (am (am (am (am (am (am (rk) 0 _) 1 _) 2 _) 3 _) 4 _) 5 _) (by decide) 6 _) (am (am (am (am (am (am (am (rk) 0 _) 1 _) 2 _) 3 _) 4 _) 5 _) 6 _) (by decide) 7 _) (am (am (am (am (am (am (am (am (rk) 0 _) 1 _) 2 _) 3 _) 4 _) 5 _) 6 _) 7 _) (by decide) 8 _).num,(bW (bW (bW (bW (bW (bW (bW (bW (bW (d1) (rk) (by decide) 0 _) (am (rk) 0 _) (by decide) 1 _) (am (am (rk) 0 _) 1 _) (by decide) 2 _) (am (am (am (rk) 0 _) 1 _) 2 _) (by decide) 3 _) (am (am (am (am (rk) 0 _) 1 _) 2 _) 3 _) (by decide) 4 _) (am (am (am (am (am (rk) 0 _) 1 _) 2 _) 3 _) 4 _) (by decide) 5 _) (am (am (am (am (am (am (rk) 0 _) 1 _) 2 _) 3 _) 4 _) 5 _) (by decide) 6 _) (am (am (am (am (am (am (am (rk) 0 _) 1 _) 2 _) 3 _) 4 _) 5 _) 6 _) (by decide) 7 _) (am (am (am (am (am (am (am (am (rk) 0 _) 1 _) 2 _) 3 _) 4 _) 5 _) 6 _) 7 _) (by decide) 8 _).num,(bW (bW (bW (bW (bW (bW (bW (bW (bW (d2) (rk) (by decide) 0 _) (am (rk) 0 _) (by decide) 1 _) (am (am (rk) 0 _) 1 _) (by decide) 2 _) (am (am (am (rk) 0 _) 1 _) 2 _) (by decide) 3 _) (am (am (am (am (rk) 0 _) 1 _) 2 _) 3 _) (by decide) 4 _) (am (am (am (am (am (rk) 0 _) 1 _) 2 _) 3 _) 4 _) (by decide) 5 _) (am (am (am (am (am (am (rk) 0 _) 1 _) 2 _) 3 _) 4 _) 5 _) (by decide) 6 _) (am (am (am (am (am (am (am (rk) 0 _) 1 _) 2 _) 3 _) 4 _) 5 _) 6 _) (by decide) 7 _) (am (am (am (am (am (am (am (am (rk) 0 _) 1 _) 2 _) 3 _) 4 _) 5 _) 6 _) 7 _) (by decide) 8 _).num,(((((((((hb3).setCell (p:=⟨w.heap.size+2,0,none⟩) (show w.heap.size<=w.heap.size+2 by omega) _).setCell (p:=⟨w.heap.size+2,1,none⟩) (show w.heap.size<=w.heap.size+2 by omega) _).setCell (p:=⟨w.heap.size+2,2,none⟩) (show w.heap.size<=w.heap.size+2 by omega) _).setCell (p:=⟨w.heap.size+2,3,none⟩) (show w.heap.size<=w.heap.size+2 by omega) _).setCell (p:=⟨w.heap.size+2,4,none⟩) (show w.heap.size<=w.heap.size+2 by omega) _).setCell (p:=⟨w.heap.size+2,5,none⟩) (show w.heap.size<=w.heap.size+2 by omega) _).setCell (p:=⟨w.heap.size+2,6,none⟩) (show w.heap.size<=w.heap.size+2 by omega) _).setCell (p:=⟨w.heap.size+2,7,none⟩) (show w.heap.size<=w.heap.size+2 by omega) _).setCell (p:=⟨w.heap.size+2,8,none⟩) (show w.heap.size<=w.heap.size+2 by omega) _⟩
theorem lH {w:World} {a0_g:Bool} {a0_o:Option Addr} {a0_n a0_c:Nat} {a0_e:Int} {a1_g:Bool} {a1_o:Option Addr} {a1_n a1_c:Nat} {a1_e:Int} {a2_g:Bool} {a2_o:Option Addr} {a2_n a2_c:Nat} {a2_e:Int} {b0_g:Bool} {b0_o:Option Addr} {b0_n b0_c:Nat} {b0_e:Int} {b1_g:Bool} {b1_o:Option Addr} {b1_n b1_c:Nat} {b1_e:Int} {b2_g:Bool} {b2_o:Option Addr} {b2_n b2_c:Nat} {b2_e:Int} {A0 A1 B0 B1:Int} {K:Nat} (h0:aM w (.agg #[.bool a0_g,.slice a0_o a0_n a0_c,.int .i64 a0_e]) A0) (h1:aM w (.agg #[.bool a1_g,.slice a1_o a1_n a1_c,.int .i64 a1_e]) A1) (k0:aM w (.agg #[.bool b0_g,.slice b0_o b0_n b0_c,.int .i64 b0_e]) B0) (k1:aM w (.agg #[.bool b1_g,.slice b1_o b1_n b1_c,.int .i64 b1_e]) B1) (b0:Bd K A0) (b1:Bd K A1) (c0:Bd K B0) (c1:Bd K B1) (hK:K<=9000) :
  Calls prog 48 #[.agg #[.bool a0_g,.slice a0_o a0_n a0_c,.int .i64 a0_e,.bool a1_g,.slice a1_o a1_n a1_c,.int .i64 a1_e,.bool a2_g,.slice a2_o a2_n a2_c,.int .i64 a2_e],.agg #[.bool b0_g,.slice b0_o b0_n b0_c,.int .i64 b0_e,.bool b1_g,.slice b1_o b1_n b1_c,.int .i64 b1_e,.bool b2_g,.slice b2_o b2_n b2_c,.int .i64 b2_e]] w fun r w'=>∃ v V,r=.returned v∧bJ w.heap.size w' V v∧Below w.heap.size w w'∧V*2^4194304=A0*B1-B0*A1∧Bd (2*K+1) V:=by
 have M1:Hid (∀ W,Below w.heap.size w W->Calls prog 32 #[.agg #[.bool a0_g,.slice a0_o a0_n a0_c,.int .i64 a0_e],.agg #[.bool b1_g,.slice b1_o b1_n b1_c,.int .i64 b1_e]] W fun r w'=>∃ v V,r=.returned v∧aR W w' V v∧V*2^4194304=A0*B1∧Bd (2*K) V):=fun W hW=>fC (h0.keeps hW) (k1.keeps hW) b0 c1 (by omega)
 have M2:Hid (∀ W,Below w.heap.size w W->Calls prog 32 #[.agg #[.bool b0_g,.slice b0_o b0_n b0_c,.int .i64 b0_e],.agg #[.bool a1_g,.slice a1_o a1_n a1_c,.int .i64 a1_e]] W fun r w'=>∃ v V,r=.returned v∧aR W w' V v∧V*2^4194304=B0*A1∧Bd (2*K) V):=fun W hW=>fC (k0.keeps hW) (h1.keeps hW) c0 b1 (by omega)
 have hK2:Hid (2*K<=28000):=(by omega:2*K<=28000)
 have hK3:Hid (2*K<4194304):=(by omega:2*K<4194304)
 clear h0 h1 k0 k1 b0 b1 c0 c1 hK
 obtain⟨hb0,a_k,b_k,o_k,hsz0⟩:=od w (.cells #[.bool a0_g,.slice a0_o a0_n a0_c,.int .i64 a0_e,.bool a1_g,.slice a1_o a1_n a1_c,.int .i64 a1_e,.bool a2_g,.slice a2_o a2_n a2_c,.int .i64 a2_e] 64) (.cells #[.bool b0_g,.slice b0_o b0_n b0_c,.int .i64 b0_e,.bool b1_g,.slice b1_o b1_n b1_c,.int .i64 b1_e,.bool b2_g,.slice b2_o b2_n b2_c,.int .i64 b2_e] 64) (.cells #[.bool false,.slice none 0 0,.int .i64 0] 33)
 clear hsz0
 go_enter func48,ntmps48
 go_wp2_with fail
 generalize (((w.alloc (.cells #[.bool a0_g,.slice a0_o a0_n a0_c,.int .i64 a0_e,.bool a1_g,.slice a1_o a1_n a1_c,.int .i64 a1_e,.bool a2_g,.slice a2_o a2_n a2_c,.int .i64 a2_e] 64)).alloc (.cells #[.bool b0_g,.slice b0_o b0_n b0_c,.int .i64 b0_e,.bool b1_g,.slice b1_o b1_n b1_c,.int .i64 b1_e,.bool b2_g,.slice b2_o b2_n b2_c,.int .i64 b2_e] 64)).alloc (.cells #[.bool false,.slice none 0 0,.int .i64 0] 33))=x0 at hb0 a_k b_k o_k ⊢
 have hs0:=(aGe o_k).1
 have hlt:w.heap.size+2<=x0.heap.size:=by omega
 have KK:∀ W,Below (w.heap.size+2) x0 W->W.cell? ⟨w.heap.size,0,none⟩=some (.bool a0_g)∧W.cell? ⟨w.heap.size,1,none⟩=some (.slice a0_o a0_n a0_c)∧W.cell? ⟨w.heap.size,2,none⟩=some (.int .i64 a0_e)∧W.cell? ⟨w.heap.size,3,none⟩=some (.bool a1_g)∧W.cell? ⟨w.heap.size,4,none⟩=some (.slice a1_o a1_n a1_c)∧W.cell? ⟨w.heap.size,5,none⟩=some (.int .i64 a1_e)∧W.cell? ⟨w.heap.size+1,0,none⟩=some (.bool b0_g)∧W.cell? ⟨w.heap.size+1,1,none⟩=some (.slice b0_o b0_n b0_c)∧W.cell? ⟨w.heap.size+1,2,none⟩=some (.int .i64 b0_e)∧W.cell? ⟨w.heap.size+1,3,none⟩=some (.bool b1_g)∧W.cell? ⟨w.heap.size+1,4,none⟩=some (.slice b1_o b1_n b1_c)∧W.cell? ⟨w.heap.size+1,5,none⟩=some (.int .i64 b1_e):=fun W hb=>⟨br (ac a_k 0 rfl) hb (show w.heap.size<w.heap.size+2 by omega),br (ac a_k 1 rfl) hb (show w.heap.size<w.heap.size+2 by omega),br (ac a_k 2 rfl) hb (show w.heap.size<w.heap.size+2 by omega),br (ac a_k 3 rfl) hb (show w.heap.size<w.heap.size+2 by omega),br (ac a_k 4 rfl) hb (show w.heap.size<w.heap.size+2 by omega),br (ac a_k 5 rfl) hb (show w.heap.size<w.heap.size+2 by omega),br (ac b_k 0 rfl) hb (show w.heap.size+1<w.heap.size+2 by omega),br (ac b_k 1 rfl) hb (show w.heap.size+1<w.heap.size+2 by omega),br (ac b_k 2 rfl) hb (show w.heap.size+1<w.heap.size+2 by omega),br (ac b_k 3 rfl) hb (show w.heap.size+1<w.heap.size+2 by omega),br (ac b_k 4 rfl) hb (show w.heap.size+1<w.heap.size+2 by omega),br (ac b_k 5 rfl) hb (show w.heap.size+1<w.heap.size+2 by omega)⟩
 have hC0:=(ap x0).drew
 go_region_held3 (fun W=>W.cell? ⟨w.heap.size,0,none⟩=some (.bool a0_g)∧W.cell? ⟨w.heap.size,1,none⟩=some (.slice a0_o a0_n a0_c)∧W.cell? ⟨w.heap.size,2,none⟩=some (.int .i64 a0_e)∧W.cell? ⟨w.heap.size,3,none⟩=some (.bool a1_g)∧W.cell? ⟨w.heap.size,4,none⟩=some (.slice a1_o a1_n a1_c)∧W.cell? ⟨w.heap.size,5,none⟩=some (.int .i64 a1_e)∧W.cell? ⟨w.heap.size+1,0,none⟩=some (.bool b0_g)∧W.cell? ⟨w.heap.size+1,1,none⟩=some (.slice b0_o b0_n b0_c)∧W.cell? ⟨w.heap.size+1,2,none⟩=some (.int .i64 b0_e)∧W.cell? ⟨w.heap.size+1,3,none⟩=some (.bool b1_g)∧W.cell? ⟨w.heap.size+1,4,none⟩=some (.slice b1_o b1_n b1_c)∧W.cell? ⟨w.heap.size+1,5,none⟩=some (.int .i64 b1_e))
  (with_reducible first|assumption|exact KK _ (hC0.mono hlt)|exact KK _ (hC1.mono hlt)|exact KK _ (hC2.mono hlt)|exact KK _ (hC3.mono hlt)|exact KK _ (lG (hC3.mono hlt) (Nat.le_refl _) _ _ _)|fail)
  (first|(go_at_call 31;refine(lj l_A m_A (Nat.le_trans hb0.size hC2.size) l_B m_B hK2.out).mono ?_;rintro _ y3 ⟨v,rfl,d3,hs3⟩;obtain⟨n_g,n_o,n_n,n_c,n_e,rfl⟩:=d3.shape;have hC3:=af hC2 hs3;have rk:=ak hC3 o_k;have e0:=ac rk 0 rfl;have z0:=aq rk 0;have e1:=ac rk 1 rfl;have z1:=aq rk 1;have e2:=ac rk 2 rfl;have z2:=aq rk 2)|(go_at_call 32;have _t:=hs1;refine(M2.out _ (af hb0 hC1)).mono ?_;rintro _ y2 ⟨v,m_V,rfl,d2,m_E,m_B⟩;obtain⟨m_g,m_o,m_n,m_c,m_e,rfl⟩:=a6 d2;have hs2:=d2.below;have hC2:=af hC1 hs2;have m_A:=d2.dan.lower (Nat.le_trans hb0.size hC1.size);have l_A:=l_A.keeps hs2)|(go_at_call 32;refine(M1.out _ (af hb0 hC0)).mono ?_;rintro _ y1 ⟨v,l_V,rfl,d1,l_E,l_B⟩;obtain⟨l_g,l_o,l_n,l_c,l_e,rfl⟩:=a6 d1;have hs1:=d1.below;have hC1:=af hC0 hs1;have l_A:=d1.dan.lower (Nat.le_trans hb0.size hC0.size)))
 go_wp2
 exact bodyPost_ret (v:=.agg #[.bool n_g,.slice n_o n_n n_c,.int .i64 n_e]) (by simp[results,results48,go_sem,e0,e1,e2]) rfl ⟨_,l_V-m_V,rfl,dl d3 rk _ _ _,di (af hb0 hC3) (by omega) _ _ _,by rw[Int.sub_mul,l_E,m_E],l_B.sub m_B hK3.out⟩
end Go.Proofs.YtcklaogdjpbagaaGreatDoor
