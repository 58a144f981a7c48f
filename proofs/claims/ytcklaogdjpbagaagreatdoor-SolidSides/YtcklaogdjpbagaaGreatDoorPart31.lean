/- Parts of the proof. -/
import Derived.Test.YtcklaogdjpbagaaGreatDoorPart30
import Derived.Test.YtcklaogdjpbagaaGreatDoorPart17
import Derived.Test.YtcklaogdjpbagaaGreatDoorPart20
import Derived.Test.YtcklaogdjpbagaaGreatDoorPart19
set_option linter.unusedVariables false
set_option linter.unusedSimpArgs false
namespace Go.Proofs.YtcklaogdjpbagaaGreatDoor
open Go Go.RowKit Go.Proofs.YtcklaogdjpbagaaGreatDoor.M
set_option maxRecDepth 100000 in
set_option maxHeartbeats 4000000 in
theorem r12decided {d s a:Int} (rd:rng d) (rs:rng s) (ra:rng a) (w:World) :
    Calls Tryz.prog 28 #[.int .i64 d,.int .i64 s,.int .i64 a] w fun e w'=>e=.returned (.tuple #[.agg #[.int .i64 (sgP d),.int .i64 1],.bool (decide (key (fprod a s)<rg d))])∧Below w.heap.size w w':=by
  have P:Hid (∀ W,Calls Tryz.prog 54 #[.int .i64 a,.int .i64 s] W fun e w'=>e=.returned (.int .i64 (fprod a s))∧Below W.heap.size W w'):=fun W=>rProd_any _ _ ra rs W
  have A:Hid (∀ W,Calls Tryz.prog 55 #[.int .i64 d] W fun e w'=>e=.returned (.int .i64 (rg d))∧Below W.heap.size W w'):=fun W=>s10abs rd W
  have CL:Hid (∀ W,Calls Tryz.prog 57 #[.int .i64 (fprod a s),.int .i64 (rg d)] W fun e w'=>e=.returned (.bool (decide (key (fprod a s)<rg d)))∧Below W.heap.size W w'):=fun W=>by
    obtain ⟨q1,q2⟩:=q_rg rd
    have:=s10less (fprod_rng ra rs) q1 W
    rw [q_key q2] at this
    exact this
  have V:Hid (∀ W,Calls Tryz.prog 58 #[.int .i64 d] W fun e w'=>e=.returned (.int .i64 (sgP d))∧Below W.heap.size W w'):=fun W=>s10val rd W
  clear rd rs ra
  generalize decide (key (fprod a s)<rg d)=b at *
  generalize sgP d=v at *
  generalize rg d=g at *
  generalize fprod a s=m at *
  have hb0:=bel_alloc w (.cells #[.int .i64 0,.int .i64 0] 27)
  have r_k:=heap_a1 w (.cells #[.int .i64 0,.int .i64 0] 27)
  go_enter Tryz.func28,Tryz.ntmps28
  go_wp2_with fail
  generalize (w.alloc (.cells #[.int .i64 0,.int .i64 0] 27))=x0 at hb0 r_k ⊢
  refine (P.out _).mono ?_
  rintro _ y1 ⟨rfl,hw1⟩
  replace r_k:=blk_us hw1 r_k
  replace hb0:=bel_trans hb0 hw1
  go_wp2_with fail
  refine (A.out _).mono ?_
  rintro _ y2 ⟨rfl,hw2⟩
  replace r_k:=blk_us hw2 r_k
  replace hb0:=bel_trans hb0 hw2
  go_wp2_with fail
  refine (CL.out _).mono ?_
  rintro _ y3 ⟨rfl,hw3⟩
  replace r_k:=blk_us hw3 r_k
  replace hb0:=bel_trans hb0 hw3
  go_wp2_with fail
  refine (V.out _).mono ?_
  rintro _ y4 ⟨rfl,hw4⟩
  replace r_k:=blk_us hw4 r_k
  replace hb0:=bel_trans hb0 hw4
  have k0:=blkC r_k 0 rfl
  have k1:=blkC r_k 1 rfl
  have z0:=blkF r_k 0
  have z1:=blkF r_k 1
  go_wp2
  exact bodyPost_ret (v:=.tuple #[.agg #[.int .i64 v,.int .i64 1],.bool b]) (by simp [results,Tryz.results28,go_sem,k0,k1]) rfl ⟨rfl,(hb0.setCell (p:=⟨w.heap.size,0,none⟩) (Nat.le_refl _) _).setCell (p:=⟨w.heap.size,1,none⟩) (Nat.le_refl _) _⟩
set_option maxRecDepth 100000 in
set_option maxHeartbeats 2000000 in
theorem r12tames (ao:Option Addr) (n cap:Nat) (s:Nat->Nat->Int) (w:World) (h:Sps w ao n cap s) (hs:∀ i k,rng (s i k)) :
    Calls Tryz.prog 25 #[.slice ao n cap] w fun x w'=>x=.returned (.bool (allB (stm s) n))∧w'=w:=by
  have hl:=h.le
  have hm:=h.max
  have CC:Hid (∀ i k W,Calls Tryz.prog 51 #[.int .i64 (s i k)] W fun e w'=>e=.returned (.bool (tame (s i k)))∧w'=W):=fun i k W=>q_refTame (hs i k) W
  clear hs
  go_enter Tryz.func25,Tryz.ntmps25
  go_wp2_with fail
  go_loopw [3] (fun i wr=>∃ k:Nat,k<=n∧i=.int .i64 k∧Hid (∀ j,j<k->stm s j=true)∧w=wr) (fun i _=>n-(intOf i).toNat)
  case atStart=>exact ⟨0,Nat.zero_le _,rfl,fun j hj=>by omega,rfl⟩
  case round=>
    obtain ⟨k,hk,rfl,HO,rfl⟩:=hrel
    by_cases hlt:k<n
    . obtain ⟨b,off,rfl,hb,hc⟩:=h.spot (by omega)
      have c0:=(hc k hlt).1
      have c1:=(hc k hlt).2.1
      have c2:=(hc k hlt).2.2
      have CX:Hid (∀ W,Calls Tryz.prog 51 #[.int .i64 (s k 0)] W fun e w'=>e=.returned (.bool (tame (s k 0)))∧w'=W):=CC.out k 0
      have CY:Hid (∀ W,Calls Tryz.prog 51 #[.int .i64 (s k 1)] W fun e w'=>e=.returned (.bool (tame (s k 1)))∧w'=W):=CC.out k 1
      have CZ:Hid (∀ W,Calls Tryz.prog 51 #[.int .i64 (s k 2)] W fun e w'=>e=.returned (.bool (tame (s k 2)))∧w'=W):=CC.out k 2
      have HK:Hid (stm s k=false->false=allB (stm s) n):=fun q=>(decide_eq_false fun hx=>by have:=hx k hlt; rw [this] at q; cases q).symm
      have HY:Hid (stm s k=true->∀ j,j<k+1->stm s j=true):=fun q j hj=>by
        by_cases e:j=k
        . subst e; exact q
        . exact HO.out j (by omega)
      have HS:Hid (stm s k=(tame (s k 0) && tame (s k 1) && tame (s k 2))):=rfl
      clear hc CC
      generalize stm s k=b0 at *
      generalize tame (s k 0)=b1 at *
      generalize tame (s k 1)=b2 at *
      generalize tame (s k 2)=b3 at *
      cases b1 <;> cases b2 <;> cases b3
      all_goals
        obtain rfl:b0=_:=HS.out
        go_wp2_with fail
        refine (CX.out _).mono ?_
        rintro _ _ ⟨rfl,rfl⟩
        go_wp2_with fail
        refine (CY.out _).mono ?_
        rintro _ _ ⟨rfl,rfl⟩
        go_wp2_with fail
        refine (CZ.out _).mono ?_
        rintro _ _ ⟨rfl,rfl⟩
        go_wp2
        first
          | (go_ret; exact ⟨ret_bool (HK.out rfl),rfl⟩)
          | (go_roundw
             case rel=>exact ⟨k+1,by omega,by go_num,HY.out rfl,by first | rfl | trivial⟩
             case measure=>simp [intOf]; omega)
    . obtain rfl:k=n:=by omega
      have HD:Hid (true=allB (stm s) k):=(decide_eq_true HO.out).symm
      go_wp2
      go_ret
      exact ⟨ret_bool HD.out,rfl⟩
set_option maxRecDepth 100000 in
theorem r3exact_any (b:Int) (w:World) (hb:rng b) (hp:pok b=true) :
    Calls Tryz.prog 80 #[.int .i64 b] w fun r w'=>∃ v,r=.returned v∧DAns w w' (patV b) v:=by
  have r_k:=heap_a1 w (.cells #[.bool false,.slice none 0 0,.int .i64 0] 33)
  have hb0:=bel_alloc w (.cells #[.bool false,.slice none 0 0,.int .i64 0] 33)
  have CO:Hid (∀ W,Calls Tryz.prog 108 #[.int .i64 b] W fun r w'=>∃ v,r=.returned v∧DAns W w' (patV b) v):=fun W=>rof_any b W hb hp
  go_enter Tryz.func80,Tryz.ntmps80
  go_wp2_with fail
  generalize w.alloc (.cells #[.bool false,.slice none 0 0,.int .i64 0] 33)=x0 at r_k hb0 ⊢
  have hs0:=(Array.getElem?_eq_some_iff.1 r_k).1
  refine (CO.out _).mono ?_
  rintro _ y1 ⟨v,rfl,h1⟩
  obtain ⟨n_g,n_o,n_n,n_c,n_e,rfl⟩:=dans_shape h1
  have hw:=h1.below
  have r_k:=(hw.block _ (Array.getElem?_eq_some_iff.1 r_k).1).trans r_k
  have k0:=blkC r_k 0 rfl
  have k1:=blkC r_k 1 rfl
  have k2:=blkC r_k 2 rfl
  have z0:=blkF r_k 0
  have z1:=blkF r_k 1
  have z2:=blkF r_k 2
  go_wp2
  refine bodyPost_ret (v:=.agg #[.bool n_g,.slice n_o n_n n_c,.int .i64 n_e]) (by simp [results,Tryz.results80,go_sem,k0,k1,k2]) rfl ⟨_,rfl,?_⟩
  exact dans_res3 (g:=w.heap.size) h1 hb0 (Nat.le_refl _) hs0 _ _ _
theorem dan_opp {B:Nat} {w:World} {y:NumR} (h:DAn B w y.V y.v) (ok:okR y=true):DAn B w (-y.V) y.opp.v:=by
  obtain ⟨m,h1,h2⟩:=DAn.parts h
  obtain ⟨e1,e2⟩:=opp_V ok
  rw [e1] at e2
  obtain ⟨_,rfl,_⟩:=h1.unique (okR_dy ok).1
  exact ⟨_,_,_,_,rfl,e2,h2⟩
theorem DAn.shape {B:Nat} {w:World} {V:Int} {v:Value} (h:DAn B w V v):∃ ng so sn sc e,v=.agg #[.bool ng,.slice so sn sc,.int .i64 e]:=h.three
set_option maxRecDepth 100000 in
theorem r3minus_any {B:Nat} {w:World} {x y:Value} {A C:Int} {K:Nat} (hx:DAn B w A x) (hy:DAn B w C y) (hB:B<=w.heap.size) (bA:Bd K A) (bC:Bd K C) (hK:K<=28000) :
    Calls Tryz.prog 31 #[x,y] w fun r w'=>∃ v,r=.returned v∧DAn B w' (A-C) v∧Below w.heap.size w w':=by
  have CS:∀ W,Below w.heap.size w W->Calls Tryz.prog 61 #[x,y] W fun r w'=>∃ v,r=.returned v∧DAn B w' (A-C) v∧Below W.heap.size W w':=fun W hW=>by
    have hx':=hx.keeps hW
    have hy':=hy.keeps hW
    obtain ⟨x,rfl,hR,ok,rfl⟩:=hx'.num.open (bA.ok (by omega))
    obtain ⟨y,rfl,hR',ok',rfl⟩:=hy'.num.open (bC.ok (by omega))
    refine (rsub3_any x y W hR hR' ok ok' (K:=K) (by omega) bA bC).mono ?_
    rintro r w' ⟨v,rfl,h⟩
    refine ⟨v,rfl,?_,h.1⟩
    rw [Int.sub_eq_add_neg]
    rcases h.2 with h1 | ⟨h1,rfl⟩ | ⟨h1,rfl⟩
    . exact h1.dan.lower (Nat.le_trans hB hW.size)
    . rw [h1,Int.zero_add]; exact (dan_opp hy' ok').keeps h.1
    . rw [h1,Int.add_zero]; exact hx'.keeps h.1
  obtain ⟨p_g,p_o,p_n,p_c,p_e,rfl⟩:=hx.shape
  obtain ⟨q_g,q_o,q_n,q_c,q_e,rfl⟩:=hy.shape
  clear hx hy bA bC
  have hb0:=bel_a3 w (.cells #[.bool p_g,.slice p_o p_n p_c,.int .i64 p_e] 33) (.cells #[.bool q_g,.slice q_o q_n q_c,.int .i64 q_e] 33) (.cells #[.bool false,.slice none 0 0,.int .i64 0] 33)
  have r_k:=h3_2 w (.cells #[.bool p_g,.slice p_o p_n p_c,.int .i64 p_e] 33) (.cells #[.bool q_g,.slice q_o q_n q_c,.int .i64 q_e] 33) (.cells #[.bool false,.slice none 0 0,.int .i64 0] 33)
  go_enter Tryz.func31,Tryz.ntmps31
  go_wp2_with fail
  generalize ((w.alloc (.cells #[.bool p_g,.slice p_o p_n p_c,.int .i64 p_e] 33)).alloc (.cells #[.bool q_g,.slice q_o q_n q_c,.int .i64 q_e] 33)).alloc (.cells #[.bool false,.slice none 0 0,.int .i64 0] 33)=x0 at r_k hb0 ⊢
  refine (CS _ hb0).mono ?_
  rintro _ y1 ⟨v,rfl,h1,hw⟩
  obtain ⟨n_g,n_o,n_n,n_c,n_e,rfl⟩:=h1.shape
  have r_k:=(hw.block _ (Array.getElem?_eq_some_iff.1 r_k).1).trans r_k
  have k0:=blkC r_k 0 rfl
  have k1:=blkC r_k 1 rfl
  have k2:=blkC r_k 2 rfl
  have z0:=blkF r_k 0
  have z1:=blkF r_k 1
  have z2:=blkF r_k 2
  go_wp2
  refine bodyPost_ret (v:=.agg #[.bool n_g,.slice n_o n_n n_c,.int .i64 n_e]) (by simp [results,Tryz.results31,go_sem,k0,k1,k2]) rfl ⟨_,rfl,dan_res3 h1 r_k _ _ _,bel_set3 (bel_trans hb0 hw) (by omega) _ _ _⟩
set_option maxRecDepth 100000 in
theorem r3times_any {w:World} {x y:Value} {A C:Int} {K:Nat} (hx:DNum w x A) (hy:DNum w y C) (bA:Bd K A) (bC:Bd K C) (hK:K<=14000) :
    Calls Tryz.prog 32 #[x,y] w fun r w'=>∃ v V,r=.returned v∧DAns w w' V v∧V*2^4194304=A*C∧Bd (2*K) V:=by
  have CS:∀ W,Below w.heap.size w W->Calls Tryz.prog 62 #[x,y] W fun r w'=>∃ v V,r=.returned v∧DAns W w' V v∧V*2^4194304=A*C∧Bd (2*K) V:=fun W hW=>by
    have hx':=hx.keeps hW
    have hy':=hy.keeps hW
    obtain ⟨x,rfl,hR,ok,rfl⟩:=hx'.open (bA.ok (by omega))
    obtain ⟨y,rfl,hR',ok',rfl⟩:=hy'.open (bC.ok (by omega))
    refine (rmul3_any x y W hR hR' (okR_sane ok) (okR_sane ok')).mono ?_
    rintro r w' ⟨v,rfl,h⟩
    have hC:=mulV_eq (x:=x) (y:=y) (by have:=(okR_sane ok).2.2.1; omega) (by have:=(okR_sane ok').2.2.1; omega)
    exact ⟨v,_,rfl,h,hC,bA.mul bC hC (by omega)⟩
  obtain ⟨p,rfl,_,_,_⟩:=hx.open (bA.ok (by omega))
  obtain ⟨q,rfl,_,_,_⟩:=hy.open (bC.ok (by omega))
  obtain ⟨p_g,p_o,p_n,p_c,p_d,p_e⟩:=p
  obtain ⟨q_g,q_o,q_n,q_c,q_d,q_e⟩:=q
  unfold NumR.v at *
  simp only at *
  clear hx hy bA bC
  have hb0:=bel_a3 w (.cells #[.bool p_g,.slice p_o p_n p_c,.int .i64 p_e] 33) (.cells #[.bool q_g,.slice q_o q_n q_c,.int .i64 q_e] 33) (.cells #[.bool false,.slice none 0 0,.int .i64 0] 33)
  have r_k:=h3_2 w (.cells #[.bool p_g,.slice p_o p_n p_c,.int .i64 p_e] 33) (.cells #[.bool q_g,.slice q_o q_n q_c,.int .i64 q_e] 33) (.cells #[.bool false,.slice none 0 0,.int .i64 0] 33)
  go_enter Tryz.func32,Tryz.ntmps32
  go_wp2_with fail
  generalize ((w.alloc (.cells #[.bool p_g,.slice p_o p_n p_c,.int .i64 p_e] 33)).alloc (.cells #[.bool q_g,.slice q_o q_n q_c,.int .i64 q_e] 33)).alloc (.cells #[.bool false,.slice none 0 0,.int .i64 0] 33)=x0 at r_k hb0 ⊢
  have hs0:=(Array.getElem?_eq_some_iff.1 r_k).1
  refine (CS _ hb0).mono ?_
  rintro _ y1 ⟨v,V,rfl,h1,hE,hBd⟩
  obtain ⟨n_g,n_o,n_n,n_c,n_e,rfl⟩:=dans_shape h1
  have hw:=h1.below
  have r_k:=(hw.block _ (Array.getElem?_eq_some_iff.1 r_k).1).trans r_k
  have k0:=blkC r_k 0 rfl
  have k1:=blkC r_k 1 rfl
  have k2:=blkC r_k 2 rfl
  have z0:=blkF r_k 0
  have z1:=blkF r_k 1
  have z2:=blkF r_k 2
  go_wp2
  refine bodyPost_ret (v:=.agg #[.bool n_g,.slice n_o n_n n_c,.int .i64 n_e]) (by simp [results,Tryz.results32,go_sem,k0,k1,k2]) rfl ⟨_,V,rfl,?_,hE,hBd⟩
  exact dans_res3 (g:=w.heap.size+2) h1 hb0 (by omega) hs0 _ _ _
set_option maxRecDepth 100000 in
theorem s3plus_any {B:Nat} {w:World} {x y:Value} {A C:Int} {K:Nat} (hx:DAn B w A x) (hy:DAn B w C y) (hB:B<=w.heap.size) (bA:Bd K A) (bC:Bd K C) (hK:K<=28000) :
    Calls Tryz.prog 34 #[x,y] w fun r w'=>∃ v,r=.returned v∧DAn B w' (A+C) v∧Below w.heap.size w w':=by
  have CS:∀ W,Below w.heap.size w W->Calls Tryz.prog 63 #[x,y] W fun r w'=>∃ v,r=.returned v∧DAn B w' (A+C) v∧Below W.heap.size W w':=fun W hW=>by
    have hx':=hx.keeps hW
    have hy':=hy.keeps hW
    refine (radd_D hx'.num hy'.num (K:=K) (by omega) bA bC).mono ?_
    rintro r w' ⟨v,rfl,h⟩
    refine ⟨v,rfl,?_,h.1⟩
    rcases h.2 with h1 | ⟨h1,rfl⟩ | ⟨h1,rfl⟩
    . exact h1.dan.lower (Nat.le_trans hB hW.size)
    . rw [h1,Int.zero_add]; exact hy'.keeps h.1
    . rw [h1,Int.add_zero]; exact hx'.keeps h.1
  obtain ⟨p_g,p_o,p_n,p_c,p_e,rfl⟩:=hx.shape
  obtain ⟨q_g,q_o,q_n,q_c,q_e,rfl⟩:=hy.shape
  clear hx hy bA bC
  have hb0:=bel_a3 w (.cells #[.bool p_g,.slice p_o p_n p_c,.int .i64 p_e] 33) (.cells #[.bool q_g,.slice q_o q_n q_c,.int .i64 q_e] 33) (.cells #[.bool false,.slice none 0 0,.int .i64 0] 33)
  have r_k:=h3_2 w (.cells #[.bool p_g,.slice p_o p_n p_c,.int .i64 p_e] 33) (.cells #[.bool q_g,.slice q_o q_n q_c,.int .i64 q_e] 33) (.cells #[.bool false,.slice none 0 0,.int .i64 0] 33)
  go_enter Tryz.func34,Tryz.ntmps34
  go_wp2_with fail
  generalize ((w.alloc (.cells #[.bool p_g,.slice p_o p_n p_c,.int .i64 p_e] 33)).alloc (.cells #[.bool q_g,.slice q_o q_n q_c,.int .i64 q_e] 33)).alloc (.cells #[.bool false,.slice none 0 0,.int .i64 0] 33)=x0 at r_k hb0 ⊢
  refine (CS _ hb0).mono ?_
  rintro _ y1 ⟨v,rfl,h1,hw⟩
  obtain ⟨n_g,n_o,n_n,n_c,n_e,rfl⟩:=h1.shape
  have r_k:=(hw.block _ (Array.getElem?_eq_some_iff.1 r_k).1).trans r_k
  have k0:=blkC r_k 0 rfl
  have z0:=blkF r_k 0
  have k1:=blkC r_k 1 rfl
  have z1:=blkF r_k 1
  have k2:=blkC r_k 2 rfl
  have z2:=blkF r_k 2
  go_wp2
  refine bodyPost_ret (v:=.agg #[.bool n_g,.slice n_o n_n n_c,.int .i64 n_e]) (by simp [results,Tryz.results34,go_sem,k0,k1,k2]) rfl ⟨_,rfl,dan_res3 h1 r_k _ _ _,bel_set3 (bel_trans hb0 hw) (by omega) _ _ _⟩
set_option maxRecDepth 100000 in
theorem r12minus_any {p q:Int} (rp:rng p) (rq:rng q) (pp:pok p=true) (pq:pok q=true) (w:World) :
    Calls Tryz.prog 49 #[.int .i64 p,.int .i64 q] w fun r w'=>∃ v,r=.returned v∧DAn w.heap.size w' (patV p-patV q) v∧Below w.heap.size w w':=by
  have E1:Hid (∀ W,Calls Tryz.prog 80 #[.int .i64 p] W fun r w'=>∃ v,r=.returned v∧DAns W w' (patV p) v):=fun W=>r3exact_any p W rp pp
  have E2:Hid (∀ W,Calls Tryz.prog 80 #[.int .i64 q] W fun r w'=>∃ v,r=.returned v∧DAns W w' (patV q) v):=fun W=>r3exact_any q W rq pq
  have B1:=patV_bd pp
  have B2:=patV_bd pq
  clear rp rq pp pq
  have r_k:=heap_a1 w (.cells #[.bool false,.slice none 0 0,.int .i64 0] 33)
  have hb0:=bel_alloc w (.cells #[.bool false,.slice none 0 0,.int .i64 0] 33)
  go_enter Tryz.func49,Tryz.ntmps49
  go_wp2_with fail
  generalize w.alloc (.cells #[.bool false,.slice none 0 0,.int .i64 0] 33)=x0 at r_k hb0 ⊢
  refine (E1.out _).mono ?_
  rintro _ y1 ⟨v,rfl,h1⟩
  obtain ⟨p_g,p_o,p_n,p_c,p_e,rfl⟩:=dans_shape h1
  have hw1:=h1.below
  have p_D:=h1.dan.lower hb0.size
  replace r_k:=blk_on hw1 r_k
  replace hb0:=bel_trans hb0 hw1
  go_wp2_with fail
  refine (E2.out _).mono ?_
  rintro _ y2 ⟨v,rfl,h2⟩
  obtain ⟨q_g,q_o,q_n,q_c,q_e,rfl⟩:=dans_shape h2
  have hw2:=h2.below
  have q_D:=h2.dan.lower hb0.size
  replace p_D:=p_D.keeps hw2
  replace r_k:=blk_on hw2 r_k
  replace hb0:=bel_trans hb0 hw2
  go_wp2_with fail
  refine (r3minus_any p_D q_D hb0.size B1 B2 (by omega)).mono ?_
  rintro _ y3 ⟨v,rfl,h3,hw3⟩
  obtain ⟨n_g,n_o,n_n,n_c,n_e,rfl⟩:=h3.shape
  replace r_k:=blk_on hw3 r_k
  replace hb0:=bel_trans hb0 hw3
  have k0:=blkC r_k 0 rfl
  have z0:=blkF r_k 0
  have k1:=blkC r_k 1 rfl
  have z1:=blkF r_k 1
  have k2:=blkC r_k 2 rfl
  have z2:=blkF r_k 2
  go_wp2
  exact bodyPost_ret (v:=.agg #[.bool n_g,.slice n_o n_n n_c,.int .i64 n_e]) (by simp [results,Tryz.results49,go_sem,k0,k1,k2]) rfl ⟨_,rfl,dan_res3 h3 r_k _ _ _,bel_set3 hb0 (by omega) _ _ _⟩
theorem cell_b {B:Nat} {w W:World} {p:Addr} {v:Value} (h:w.cell? p=some v) (hb:Below B w W) (hp:p.block<B):W.cell? p=some v:=(hb.cell hp).trans h
theorem below_s3 {B:Nat} {w W:World} (h:Below B w W) {g:Nat} (hg:B<=g) (x y z:Value):Below B w (((W.setCell ⟨g,0,none⟩ x).setCell ⟨g,1,none⟩ y).setCell ⟨g,2,none⟩ z) :=
  ((h.setCell (p:=⟨g,0,none⟩) hg x).setCell (p:=⟨g,1,none⟩) hg y).setCell (p:=⟨g,2,none⟩) hg z
set_option maxRecDepth 100000 in
set_option maxHeartbeats 8000000 in
theorem r12row {s:Nat->Nat->Int} (i j:Nat) (hr:∀ i k,rng (s i k)) (hi:∀ k,k<3->pok (s i k)=true) (hj:∀ k,k<3->pok (s j k)=true) (w:World) :
    Calls Tryz.prog 23 #[.agg #[.int .i64 (s i 0),.int .i64 (s i 1),.int .i64 (s i 2)],.agg #[.int .i64 (s j 0),.int .i64 (s j 1),.int .i64 (s j 2)]] w fun r w'=>∃ n0_g n0_o n0_n n0_c n0_e n1_g n1_o n1_n n1_c n1_e n2_g n2_o n2_n n2_c n2_e,r=.returned (.agg #[.bool n0_g,.slice n0_o n0_n n0_c,.int .i64 n0_e,.bool n1_g,.slice n1_o n1_n n1_c,.int .i64 n1_e,.bool n2_g,.slice n2_o n2_n n2_c,.int .i64 n2_e])∧DNum w' (.agg #[.bool n0_g,.slice n0_o n0_n n0_c,.int .i64 n0_e]) (patV (s i 0)-patV (s j 0))∧DNum w' (.agg #[.bool n1_g,.slice n1_o n1_n n1_c,.int .i64 n1_e]) (patV (s i 1)-patV (s j 1))∧DNum w' (.agg #[.bool n2_g,.slice n2_o n2_n n2_c,.int .i64 n2_e]) (patV (s i 2)-patV (s j 2))∧Below w.heap.size w w':=by
  have A0:Hid (∀ W,Calls Tryz.prog 49 #[.int .i64 (s i 0),.int .i64 (s j 0)] W fun r w'=>∃ v,r=.returned v∧DAn W.heap.size w' (patV (s i 0)-patV (s j 0)) v∧Below W.heap.size W w'):=fun W=>r12minus_any (hr _ _) (hr _ _) (hi _ (by decide)) (hj _ (by decide)) W
  have A1:Hid (∀ W,Calls Tryz.prog 49 #[.int .i64 (s i 1),.int .i64 (s j 1)] W fun r w'=>∃ v,r=.returned v∧DAn W.heap.size w' (patV (s i 1)-patV (s j 1)) v∧Below W.heap.size W w'):=fun W=>r12minus_any (hr _ _) (hr _ _) (hi _ (by decide)) (hj _ (by decide)) W
  have A2:Hid (∀ W,Calls Tryz.prog 49 #[.int .i64 (s i 2),.int .i64 (s j 2)] W fun r w'=>∃ v,r=.returned v∧DAn W.heap.size w' (patV (s i 2)-patV (s j 2)) v∧Below W.heap.size W w'):=fun W=>r12minus_any (hr _ _) (hr _ _) (hi _ (by decide)) (hj _ (by decide)) W
  clear hr hi hj
  generalize patV (s i 0)-patV (s j 0)=V0 at *
  generalize patV (s i 1)-patV (s j 1)=V1 at *
  generalize patV (s i 2)-patV (s j 2)=V2 at *
  generalize s i 0=p0 at *
  generalize s j 0=q0 at *
  generalize s i 1=p1 at *
  generalize s j 1=q1 at *
  generalize s i 2=p2 at *
  generalize s j 2=q2 at *
  obtain ⟨hb0,a_k,b_k,o_k,hsz0⟩:=blks3 w (.cells #[.int .i64 p0,.int .i64 p1,.int .i64 p2] 23) (.cells #[.int .i64 q0,.int .i64 q1,.int .i64 q2] 23) (.cells #[.bool false,.slice none 0 0,.int .i64 0,.bool false,.slice none 0 0,.int .i64 0,.bool false,.slice none 0 0,.int .i64 0] 64)
  clear hsz0
  go_enter Tryz.func23,Tryz.ntmps23
  go_wp2_with fail
  generalize (((w.alloc (.cells #[.int .i64 p0,.int .i64 p1,.int .i64 p2] 23)).alloc (.cells #[.int .i64 q0,.int .i64 q1,.int .i64 q2] 23)).alloc (.cells #[.bool false,.slice none 0 0,.int .i64 0,.bool false,.slice none 0 0,.int .i64 0,.bool false,.slice none 0 0,.int .i64 0] 64))=x0 at hb0 a_k b_k o_k ⊢
  have hs0:=(Array.getElem?_eq_some_iff.1 o_k).1
  have KK:∀ W,Below (w.heap.size+2) x0 W->W.cell? ⟨w.heap.size,0,none⟩=some (.int .i64 p0)∧W.cell? ⟨w.heap.size,1,none⟩=some (.int .i64 p1)∧W.cell? ⟨w.heap.size,2,none⟩=some (.int .i64 p2)∧W.cell? ⟨w.heap.size+1,0,none⟩=some (.int .i64 q0)∧W.cell? ⟨w.heap.size+1,1,none⟩=some (.int .i64 q1)∧W.cell? ⟨w.heap.size+1,2,none⟩=some (.int .i64 q2):=fun W hb=>⟨cell_b (blkC a_k 0 rfl) hb (show w.heap.size<w.heap.size+2 by omega),cell_b (blkC a_k 1 rfl) hb (show w.heap.size<w.heap.size+2 by omega),cell_b (blkC a_k 2 rfl) hb (show w.heap.size<w.heap.size+2 by omega),cell_b (blkC b_k 0 rfl) hb (show w.heap.size+1<w.heap.size+2 by omega),cell_b (blkC b_k 1 rfl) hb (show w.heap.size+1<w.heap.size+2 by omega),cell_b (blkC b_k 2 rfl) hb (show w.heap.size+1<w.heap.size+2 by omega)⟩
  have hlt:w.heap.size+2<=x0.heap.size:=by omega
  have hC0:=(bel_refl x0).drew
  go_region_held3 (fun W=>W.cell? ⟨w.heap.size,0,none⟩=some (.int .i64 p0)∧W.cell? ⟨w.heap.size,1,none⟩=some (.int .i64 p1)∧W.cell? ⟨w.heap.size,2,none⟩=some (.int .i64 p2)∧W.cell? ⟨w.heap.size+1,0,none⟩=some (.int .i64 q0)∧W.cell? ⟨w.heap.size+1,1,none⟩=some (.int .i64 q1)∧W.cell? ⟨w.heap.size+1,2,none⟩=some (.int .i64 q2))
    (with_reducible first | assumption | exact KK _ (hC0.mono hlt) | exact KK _ (hC1.mono hlt) | exact KK _ (hC2.mono hlt) | exact KK _ (hC3.mono hlt) | exact KK _ ((((((((((hC3.mono hlt).setCell (p:=⟨w.heap.size+2,0,none⟩) (Nat.le_refl _) _).setCell (p:=⟨w.heap.size+2,1,none⟩) (Nat.le_refl _) _).setCell (p:=⟨w.heap.size+2,2,none⟩) (Nat.le_refl _) _).setCell (p:=⟨w.heap.size+2,3,none⟩) (Nat.le_refl _) _).setCell (p:=⟨w.heap.size+2,4,none⟩) (Nat.le_refl _) _).setCell (p:=⟨w.heap.size+2,5,none⟩) (Nat.le_refl _) _).setCell (p:=⟨w.heap.size+2,6,none⟩) (Nat.le_refl _) _).setCell (p:=⟨w.heap.size+2,7,none⟩) (Nat.le_refl _) _).setCell (p:=⟨w.heap.size+2,8,none⟩) (Nat.le_refl _) _) | fail)
    (first | (go_at_call 49; have _t:=hs2; refine (A2.out _).mono ?_; rintro _ y3 ⟨v,rfl,d2,hs3⟩; obtain ⟨n2_g,n2_o,n2_n,n2_c,n2_e,rfl⟩:=d2.shape; have hC3:=bel_trans hC2 hs3; have d0:=d0.keeps hs3; have d1:=d1.keeps hs3; have rk:=blk_us hC3 o_k; have e0:=blkC rk 0 rfl; have z0:=blkF rk 0; have e1:=blkC rk 1 rfl; have z1:=blkF rk 1; have e2:=blkC rk 2 rfl; have z2:=blkF rk 2; have e3:=blkC rk 3 rfl; have z3:=blkF rk 3; have e4:=blkC rk 4 rfl; have z4:=blkF rk 4; have e5:=blkC rk 5 rfl; have z5:=blkF rk 5; have e6:=blkC rk 6 rfl; have z6:=blkF rk 6; have e7:=blkC rk 7 rfl; have z7:=blkF rk 7; have e8:=blkC rk 8 rfl; have z8:=blkF rk 8) | (go_at_call 49; have _t:=hs1; refine (A1.out _).mono ?_; rintro _ y2 ⟨v,rfl,d1,hs2⟩; obtain ⟨n1_g,n1_o,n1_n,n1_c,n1_e,rfl⟩:=d1.shape; have hC2:=bel_trans hC1 hs2; have d0:=d0.keeps hs2) | (go_at_call 49; refine (A0.out _).mono ?_; rintro _ y1 ⟨v,rfl,d0,hs1⟩; obtain ⟨n0_g,n0_o,n0_n,n0_c,n0_e,rfl⟩:=d0.shape; have hC1:=bel_trans hC0 hs1))
  go_wp2
  have hb3:=bel_trans hb0 hC3
  exact bodyPost_ret (v:=.agg #[.bool n0_g,.slice n0_o n0_n n0_c,.int .i64 n0_e,.bool n1_g,.slice n1_o n1_n n1_c,.int .i64 n1_e,.bool n2_g,.slice n2_o n2_n n2_c,.int .i64 n2_e]) (by simp [results,Tryz.results23,go_sem,e0,e1,e2,e3,e4,e5,e6,e7,e8]) rfl ⟨_,_,_,_,_,_,_,_,_,_,_,_,_,_,_,rfl,(dan_sT (dan_sT (dan_sT (dan_sT (dan_sT (dan_sT (dan_sT (dan_sT (dan_sT (d0) (rk) (by decide) 0 _) (heap_set (rk) 0 _) (by decide) 1 _) (heap_set (heap_set (rk) 0 _) 1 _) (by decide) 2 _) (heap_set (heap_set (heap_set (rk) 0 _) 1 _) 2 _) (by decide) 3 _) (heap_set (heap_set (heap_set (heap_set (rk) 0 _) 1 _) 2 _) 3 _) (by decide) 4 _) (heap_set (heap_set (heap_set (heap_set (heap_set (rk) 0 _) 1 _) 2 _) 3 _) 4 _) (by decide) 5 _) (heap_set (heap_set (heap_set (heap_set (heap_set (heap_set (rk) 0 _) 1 _) 2 _) 3 _) 4 _) 5 _) (by decide) 6 _) (heap_set (heap_set (heap_set (heap_set (heap_set (heap_set (heap_set (rk) 0 _) 1 _) 2 _) 3 _) 4 _) 5 _) 6 _) (by decide) 7 _) (heap_set (heap_set (heap_set (heap_set (heap_set (heap_set (heap_set (heap_set (rk) 0 _) 1 _) 2 _) 3 _) 4 _) 5 _) 6 _) 7 _) (by decide) 8 _).num,(dan_sT (dan_sT (dan_sT (dan_sT (dan_sT (dan_sT (dan_sT (dan_sT (dan_sT (d1) (rk) (by decide) 0 _) (heap_set (rk) 0 _) (by decide) 1 _) (heap_set (heap_set (rk) 0 _) 1 _) (by decide) 2 _) (heap_set (heap_set (heap_set (rk) 0 _) 1 _) 2 _) (by decide) 3 _) (heap_set (heap_set (heap_set (heap_set (rk) 0 _) 1 _) 2 _) 3 _) (by decide) 4 _) (heap_set (heap_set (heap_set (heap_set (heap_set (rk) 0 _) 1 _) 2 _) 3 _) 4 _) (by decide) 5 _) (heap_set (heap_set (heap_set (heap_set (heap_set (heap_set (rk) 0 _) 1 _) 2 _) 3 _) 4 _) 5 _) (by decide) 6 _) (heap_set (heap_set (heap_set (heap_set (heap_set (heap_set (heap_set (rk) 0 _) 1 _) 2 _) 3 _) 4 _) 5 _) 6 _) (by decide) 7 _) (heap_set (heap_set (heap_set (heap_set (heap_set (heap_set (heap_set (heap_set (rk) 0 _) 1 _) 2 _) 3 _) 4 _) 5 _) 6 _) 7 _) (by decide) 8 _).num,(dan_sT (dan_sT (dan_sT (dan_sT (dan_sT (dan_sT (dan_sT (dan_sT (dan_sT (d2) (rk) (by decide) 0 _) (heap_set (rk) 0 _) (by decide) 1 _) (heap_set (heap_set (rk) 0 _) 1 _) (by decide) 2 _) (heap_set (heap_set (heap_set (rk) 0 _) 1 _) 2 _) (by decide) 3 _) (heap_set (heap_set (heap_set (heap_set (rk) 0 _) 1 _) 2 _) 3 _) (by decide) 4 _) (heap_set (heap_set (heap_set (heap_set (heap_set (rk) 0 _) 1 _) 2 _) 3 _) 4 _) (by decide) 5 _) (heap_set (heap_set (heap_set (heap_set (heap_set (heap_set (rk) 0 _) 1 _) 2 _) 3 _) 4 _) 5 _) (by decide) 6 _) (heap_set (heap_set (heap_set (heap_set (heap_set (heap_set (heap_set (rk) 0 _) 1 _) 2 _) 3 _) 4 _) 5 _) 6 _) (by decide) 7 _) (heap_set (heap_set (heap_set (heap_set (heap_set (heap_set (heap_set (heap_set (rk) 0 _) 1 _) 2 _) 3 _) 4 _) 5 _) 6 _) 7 _) (by decide) 8 _).num,(((((((((hb3).setCell (p:=⟨w.heap.size+2,0,none⟩) (show w.heap.size<=w.heap.size+2 by omega) _).setCell (p:=⟨w.heap.size+2,1,none⟩) (show w.heap.size<=w.heap.size+2 by omega) _).setCell (p:=⟨w.heap.size+2,2,none⟩) (show w.heap.size<=w.heap.size+2 by omega) _).setCell (p:=⟨w.heap.size+2,3,none⟩) (show w.heap.size<=w.heap.size+2 by omega) _).setCell (p:=⟨w.heap.size+2,4,none⟩) (show w.heap.size<=w.heap.size+2 by omega) _).setCell (p:=⟨w.heap.size+2,5,none⟩) (show w.heap.size<=w.heap.size+2 by omega) _).setCell (p:=⟨w.heap.size+2,6,none⟩) (show w.heap.size<=w.heap.size+2 by omega) _).setCell (p:=⟨w.heap.size+2,7,none⟩) (show w.heap.size<=w.heap.size+2 by omega) _).setCell (p:=⟨w.heap.size+2,8,none⟩) (show w.heap.size<=w.heap.size+2 by omega) _⟩
set_option maxRecDepth 100000 in
set_option maxHeartbeats 8000000 in
theorem r12minor {w:World} {a0_g:Bool} {a0_o:Option Addr} {a0_n a0_c:Nat} {a0_e:Int} {a1_g:Bool} {a1_o:Option Addr} {a1_n a1_c:Nat} {a1_e:Int} {a2_g:Bool} {a2_o:Option Addr} {a2_n a2_c:Nat} {a2_e:Int} {b0_g:Bool} {b0_o:Option Addr} {b0_n b0_c:Nat} {b0_e:Int} {b1_g:Bool} {b1_o:Option Addr} {b1_n b1_c:Nat} {b1_e:Int} {b2_g:Bool} {b2_o:Option Addr} {b2_n b2_c:Nat} {b2_e:Int} {A0 A1 B0 B1:Int} {K:Nat} (h0:DNum w (.agg #[.bool a0_g,.slice a0_o a0_n a0_c,.int .i64 a0_e]) A0) (h1:DNum w (.agg #[.bool a1_g,.slice a1_o a1_n a1_c,.int .i64 a1_e]) A1) (k0:DNum w (.agg #[.bool b0_g,.slice b0_o b0_n b0_c,.int .i64 b0_e]) B0) (k1:DNum w (.agg #[.bool b1_g,.slice b1_o b1_n b1_c,.int .i64 b1_e]) B1) (b0:Bd K A0) (b1:Bd K A1) (c0:Bd K B0) (c1:Bd K B1) (hK:K<=9000) :
    Calls Tryz.prog 48 #[.agg #[.bool a0_g,.slice a0_o a0_n a0_c,.int .i64 a0_e,.bool a1_g,.slice a1_o a1_n a1_c,.int .i64 a1_e,.bool a2_g,.slice a2_o a2_n a2_c,.int .i64 a2_e],.agg #[.bool b0_g,.slice b0_o b0_n b0_c,.int .i64 b0_e,.bool b1_g,.slice b1_o b1_n b1_c,.int .i64 b1_e,.bool b2_g,.slice b2_o b2_n b2_c,.int .i64 b2_e]] w fun r w'=>∃ v V,r=.returned v∧DAn w.heap.size w' V v∧Below w.heap.size w w'∧V*2^4194304=A0*B1-B0*A1∧Bd (2*K+1) V:=by
  have M1:Hid (∀ W,Below w.heap.size w W->Calls Tryz.prog 32 #[.agg #[.bool a0_g,.slice a0_o a0_n a0_c,.int .i64 a0_e],.agg #[.bool b1_g,.slice b1_o b1_n b1_c,.int .i64 b1_e]] W fun r w'=>∃ v V,r=.returned v∧DAns W w' V v∧V*2^4194304=A0*B1∧Bd (2*K) V):=fun W hW=>r3times_any (h0.keeps hW) (k1.keeps hW) b0 c1 (by omega)
  have M2:Hid (∀ W,Below w.heap.size w W->Calls Tryz.prog 32 #[.agg #[.bool b0_g,.slice b0_o b0_n b0_c,.int .i64 b0_e],.agg #[.bool a1_g,.slice a1_o a1_n a1_c,.int .i64 a1_e]] W fun r w'=>∃ v V,r=.returned v∧DAns W w' V v∧V*2^4194304=B0*A1∧Bd (2*K) V):=fun W hW=>r3times_any (k0.keeps hW) (h1.keeps hW) c0 b1 (by omega)
  have hK2:Hid (2*K<=28000):=(by omega:2*K<=28000)
  have hK3:Hid (2*K<4194304):=(by omega:2*K<4194304)
  clear h0 h1 k0 k1 b0 b1 c0 c1 hK
  obtain ⟨hb0,a_k,b_k,o_k,hsz0⟩:=blks3 w (.cells #[.bool a0_g,.slice a0_o a0_n a0_c,.int .i64 a0_e,.bool a1_g,.slice a1_o a1_n a1_c,.int .i64 a1_e,.bool a2_g,.slice a2_o a2_n a2_c,.int .i64 a2_e] 64) (.cells #[.bool b0_g,.slice b0_o b0_n b0_c,.int .i64 b0_e,.bool b1_g,.slice b1_o b1_n b1_c,.int .i64 b1_e,.bool b2_g,.slice b2_o b2_n b2_c,.int .i64 b2_e] 64) (.cells #[.bool false,.slice none 0 0,.int .i64 0] 33)
  clear hsz0
  go_enter Tryz.func48,Tryz.ntmps48
  go_wp2_with fail
  generalize (((w.alloc (.cells #[.bool a0_g,.slice a0_o a0_n a0_c,.int .i64 a0_e,.bool a1_g,.slice a1_o a1_n a1_c,.int .i64 a1_e,.bool a2_g,.slice a2_o a2_n a2_c,.int .i64 a2_e] 64)).alloc (.cells #[.bool b0_g,.slice b0_o b0_n b0_c,.int .i64 b0_e,.bool b1_g,.slice b1_o b1_n b1_c,.int .i64 b1_e,.bool b2_g,.slice b2_o b2_n b2_c,.int .i64 b2_e] 64)).alloc (.cells #[.bool false,.slice none 0 0,.int .i64 0] 33))=x0 at hb0 a_k b_k o_k ⊢
  have hs0:=(Array.getElem?_eq_some_iff.1 o_k).1
  have hlt:w.heap.size+2<=x0.heap.size:=by omega
  have KK:∀ W,Below (w.heap.size+2) x0 W->W.cell? ⟨w.heap.size,0,none⟩=some (.bool a0_g)∧W.cell? ⟨w.heap.size,1,none⟩=some (.slice a0_o a0_n a0_c)∧W.cell? ⟨w.heap.size,2,none⟩=some (.int .i64 a0_e)∧W.cell? ⟨w.heap.size,3,none⟩=some (.bool a1_g)∧W.cell? ⟨w.heap.size,4,none⟩=some (.slice a1_o a1_n a1_c)∧W.cell? ⟨w.heap.size,5,none⟩=some (.int .i64 a1_e)∧W.cell? ⟨w.heap.size+1,0,none⟩=some (.bool b0_g)∧W.cell? ⟨w.heap.size+1,1,none⟩=some (.slice b0_o b0_n b0_c)∧W.cell? ⟨w.heap.size+1,2,none⟩=some (.int .i64 b0_e)∧W.cell? ⟨w.heap.size+1,3,none⟩=some (.bool b1_g)∧W.cell? ⟨w.heap.size+1,4,none⟩=some (.slice b1_o b1_n b1_c)∧W.cell? ⟨w.heap.size+1,5,none⟩=some (.int .i64 b1_e):=fun W hb=>⟨cell_b (blkC a_k 0 rfl) hb (show w.heap.size<w.heap.size+2 by omega),cell_b (blkC a_k 1 rfl) hb (show w.heap.size<w.heap.size+2 by omega),cell_b (blkC a_k 2 rfl) hb (show w.heap.size<w.heap.size+2 by omega),cell_b (blkC a_k 3 rfl) hb (show w.heap.size<w.heap.size+2 by omega),cell_b (blkC a_k 4 rfl) hb (show w.heap.size<w.heap.size+2 by omega),cell_b (blkC a_k 5 rfl) hb (show w.heap.size<w.heap.size+2 by omega),cell_b (blkC b_k 0 rfl) hb (show w.heap.size+1<w.heap.size+2 by omega),cell_b (blkC b_k 1 rfl) hb (show w.heap.size+1<w.heap.size+2 by omega),cell_b (blkC b_k 2 rfl) hb (show w.heap.size+1<w.heap.size+2 by omega),cell_b (blkC b_k 3 rfl) hb (show w.heap.size+1<w.heap.size+2 by omega),cell_b (blkC b_k 4 rfl) hb (show w.heap.size+1<w.heap.size+2 by omega),cell_b (blkC b_k 5 rfl) hb (show w.heap.size+1<w.heap.size+2 by omega)⟩
  have hC0:=(bel_refl x0).drew
  go_region_held3 (fun W=>W.cell? ⟨w.heap.size,0,none⟩=some (.bool a0_g)∧W.cell? ⟨w.heap.size,1,none⟩=some (.slice a0_o a0_n a0_c)∧W.cell? ⟨w.heap.size,2,none⟩=some (.int .i64 a0_e)∧W.cell? ⟨w.heap.size,3,none⟩=some (.bool a1_g)∧W.cell? ⟨w.heap.size,4,none⟩=some (.slice a1_o a1_n a1_c)∧W.cell? ⟨w.heap.size,5,none⟩=some (.int .i64 a1_e)∧W.cell? ⟨w.heap.size+1,0,none⟩=some (.bool b0_g)∧W.cell? ⟨w.heap.size+1,1,none⟩=some (.slice b0_o b0_n b0_c)∧W.cell? ⟨w.heap.size+1,2,none⟩=some (.int .i64 b0_e)∧W.cell? ⟨w.heap.size+1,3,none⟩=some (.bool b1_g)∧W.cell? ⟨w.heap.size+1,4,none⟩=some (.slice b1_o b1_n b1_c)∧W.cell? ⟨w.heap.size+1,5,none⟩=some (.int .i64 b1_e))
    (with_reducible first | assumption | exact KK _ (hC0.mono hlt) | exact KK _ (hC1.mono hlt) | exact KK _ (hC2.mono hlt) | exact KK _ (hC3.mono hlt) | exact KK _ (below_s3 (hC3.mono hlt) (Nat.le_refl _) _ _ _) | fail)
    (first | (go_at_call 31; refine (r3minus_any l_A m_A (Nat.le_trans hb0.size hC2.size) l_B m_B hK2.out).mono ?_; rintro _ y3 ⟨v,rfl,d3,hs3⟩; obtain ⟨n_g,n_o,n_n,n_c,n_e,rfl⟩:=d3.shape; have hC3:=bel_trans hC2 hs3; have rk:=blk_us hC3 o_k; have e0:=blkC rk 0 rfl; have z0:=blkF rk 0; have e1:=blkC rk 1 rfl; have z1:=blkF rk 1; have e2:=blkC rk 2 rfl; have z2:=blkF rk 2) | (go_at_call 32; have _t:=hs1; refine (M2.out _ (bel_trans hb0 hC1)).mono ?_; rintro _ y2 ⟨v,m_V,rfl,d2,m_E,m_B⟩; obtain ⟨m_g,m_o,m_n,m_c,m_e,rfl⟩:=dans_shape d2; have hs2:=d2.below; have hC2:=bel_trans hC1 hs2; have m_A:=d2.dan.lower (Nat.le_trans hb0.size hC1.size); have l_A:=l_A.keeps hs2) | (go_at_call 32; refine (M1.out _ (bel_trans hb0 hC0)).mono ?_; rintro _ y1 ⟨v,l_V,rfl,d1,l_E,l_B⟩; obtain ⟨l_g,l_o,l_n,l_c,l_e,rfl⟩:=dans_shape d1; have hs1:=d1.below; have hC1:=bel_trans hC0 hs1; have l_A:=d1.dan.lower (Nat.le_trans hb0.size hC0.size)))
  go_wp2
  exact bodyPost_ret (v:=.agg #[.bool n_g,.slice n_o n_n n_c,.int .i64 n_e]) (by simp [results,Tryz.results48,go_sem,e0,e1,e2]) rfl ⟨_,l_V-m_V,rfl,dan_res3 d3 rk _ _ _,bel_set3 (bel_trans hb0 hC3) (by omega) _ _ _,by rw [Int.sub_mul,l_E,m_E],l_B.sub m_B hK3.out⟩
end Go.Proofs.YtcklaogdjpbagaaGreatDoor
