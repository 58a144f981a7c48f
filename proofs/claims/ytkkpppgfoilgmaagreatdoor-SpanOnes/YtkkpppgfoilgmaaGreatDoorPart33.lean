/- Parts of the proof. -/
import Derived.Test.YtkkpppgfoilgmaaGreatDoorPart32
import Derived.Deep.RegionHeld3
import Derived.Test.YtkkpppgfoilgmaaGreatDoorPart14
import Derived.Test.YtkkpppgfoilgmaaGreatDoorPart6
import Derived.Test.YtkkpppgfoilgmaaGreatDoorPart8
set_option maxRecDepth 100000
set_option maxHeartbeats 8000000
set_option linter.unusedVariables false
set_option linter.unusedSimpArgs false
namespace Go.Proofs.YtkkpppgfoilgmaaGreatDoor
open Go Go.Proofs.Tryz Go.RowKit Go.Proofs.YtkkpppgfoilgmaaGreatDoor.M
theorem oY {K:Nat} {A C:En} (h:Bd K A.v) (k:Bd K C.v):Bd K (bG A C).v:=by rcases (eH A C).2.2 with q|q<;>rw[q]<;>assumption
theorem oZ {K:Nat} {A C:En} (h:Bd K A.v) (k:Bd K C.v):Bd K (bH A C).v:=by rcases (dV A C).2.2 with q|q<;>rw[q]<;>assumption
theorem Bs:Bd 8000 (⟨0,0⟩:En).v:=tL.up (by omega) (by omega)
theorem sH {W:World} {b:Nat} {A0 A1:En} {g0:Bool} {o0:Option Addr} {n0 c0:Nat} {e0:Int} {g1:Bool} {o1:Option Addr} {n1 c1:Nat} {e1:Int} (hk0:W.heap[b]?=some (.cells #[.int .i64 A0.i,.bool g0,.slice o0 n0 c0,.int .i64 e0,.int .i64 A1.i,.bool g1,.slice o1 n1 c1,.int .i64 e1] 68 (0,0))) (d0:cd 0 W A0.v (.agg #[.bool g0,.slice o0 n0 c0,.int .i64 e0])) (d1:cd 0 W A1.v (.agg #[.bool g1,.slice o1 n1 c1,.int .i64 e1])) {K:Nat} (hK:K<=28000) (b0:Bd K A0.v) (b1:Bd K A1.v) (k0:A0.ok) (k1:A1.ok) :
    Calls prog 54 #[.slice (some ⟨b,0,none⟩) 2 2] W fun x w'=>∃ v u,x=.returned (.tuple #[v,u])∧EA w' v (bG A0 A1)∧EA w' u (bH A0 A1)∧Below W.heap.size W w':=by
  have hE:mt W b 0 2 (fun k=>match k with | 0=>(⟨A0.i,g0,o0,n0,c0,e0⟩:iw) | _=>(⟨A1.i,g1,o1,n1,c1,e1⟩:iw)) (fun k=>match k with | 0=>A0 | _=>A1):=⟨(Array.getElem?_eq_some_iff.1 hk0).1,fun k hk=>match k,hk with
    | 0,_=>⟨ab hk0 0 rfl,ab hk0 1 rfl,ab hk0 2 rfl,ab hk0 3 rfl⟩
    | 1,_=>⟨ab hk0 4 rfl,ab hk0 5 rfl,ab hk0 6 rfl,ab hk0 7 rfl⟩,fun k hk=>match k,hk with
    | 0,_=>⟨_,_,_,_,_,rfl,d0⟩
    | 1,_=>⟨_,_,_,_,_,rfl,d1⟩⟩
  exact sF hE (by omega) (by omega) (by omega) hK (fun k hk=>match k,hk with
    | 0,_=>b0
    | 1,_=>b1) (fun k hk=>match k,hk with
    | 0,_=>k0
    | 1,_=>k1)
theorem zL {W:World} {b cap:Nat} {A0 A1:En} {g0:Bool} {o0:Option Addr} {n0 c0:Nat} {e0:Int} {g1:Bool} {o1:Option Addr} {n1 c1:Nat} {e1:Int} (lt:b<W.heap.size) (hcap:2+1<=cap∧cap<=9223372036854775807) (hc:∀ j x,j<(2+1)*4->((#[.int .i64 A0.i,.bool g0,.slice o0 n0 c0,.int .i64 e0,.int .i64 A1.i,.bool g1,.slice o1 n1 c1,.int .i64 e1]).toList ++ [.int .i64 0,.bool false,.slice none 0 0,.int .i64 0])[j]?=some x->W.cell? ⟨b,j,none⟩=some x) (d0:cd 0 W A0.v (.agg #[.bool g0,.slice o0 n0 c0,.int .i64 e0])) (d1:cd 0 W A1.v (.agg #[.bool g1,.slice o1 n1 c1,.int .i64 e1])) (b0:Bd 8000 A0.v) (b1:Bd 8000 A1.v) (k0:A0.ok) (k1:A1.ok) :
    Calls prog 54 #[.slice (some ⟨b,0,none⟩) (2+1) cap] W fun x w'=>∃ v u,x=.returned (.tuple #[v,u])∧EA w' v (bG (bG A0 A1) ⟨0,0⟩)∧EA w' u (bH (bH A0 A1) ⟨0,0⟩)∧Below W.heap.size W w':=by
  have hE:mt W b 0 (2+1) (fun k=>match k with | 0=>(⟨A0.i,g0,o0,n0,c0,e0⟩:iw) | 1=>(⟨A1.i,g1,o1,n1,c1,e1⟩:iw) | _=>(⟨0,false,none,0,0,0⟩:iw)) (fun k=>match k with | 0=>A0 | 1=>A1 | _=>⟨0,0⟩):=⟨lt,fun k hk=>match k,hk with
    | 0,_=>⟨hc 0 _ (by omega) rfl,hc 1 _ (by omega) rfl,hc 2 _ (by omega) rfl,hc 3 _ (by omega) rfl⟩
    | 1,_=>⟨hc 4 _ (by omega) rfl,hc 5 _ (by omega) rfl,hc 6 _ (by omega) rfl,hc 7 _ (by omega) rfl⟩
    | 2,_=>⟨hc 8 _ (by omega) rfl,hc 9 _ (by omega) rfl,hc 10 _ (by omega) rfl,hc 11 _ (by omega) rfl⟩,fun k hk=>match k,hk with
    | 0,_=>⟨_,_,_,_,_,rfl,d0⟩
    | 1,_=>⟨_,_,_,_,_,rfl,d1⟩
    | 2,_=>⟨_,_,_,_,_,rfl,gN W⟩⟩
  exact sF hE (by omega) hcap.1 hcap.2 (K:=8000) (by omega) (fun k hk=>match k,hk with
    | 0,_=>b0
    | 1,_=>b1
    | 2,_=>Bs) (fun k hk=>match k,hk with
    | 0,_=>k0
    | 1,_=>k1
    | 2,_=>.inl rfl)
theorem sI {B:Nat} {w w':World} {V:Int} {v:Value} (h:cd B w V v) {k:Nat} {xs:Array Value} {z:Nat × Nat} (hk:w.heap[k]?=some (.cells xs 68 z)) (g:w.grownBy w' (some k)):cd B w' V v :=
 h.of_blocks fun g' cur z' h'=>g.block g' (aGe h').1 fun q=>by
  have q:g'=k:=by simpa using q
  rw[q,hk] at h'
  simp at h'
theorem ri {w:World} {ops:Array Oper} {rest:List Oper} {o:Oper} {a:Act} {Q:Exit->Act->World->Prop} (hgd:o.guard=none) (s x:Operand)
    (ho:o.op=.call { callee:=.builtin .append,args:=#[s,x],argTypes:=#[82,82] }) (B:Nat) (v:Value) (n:Nat) (xs:List Value) (hs:a.eval s=v) (hO:w.ownsRow B 68 4 v n xs)
    (g:Nat) (hx:a.eval x=.slice (some ⟨g,0,none⟩) 1 1) (hg:w.heap[g]?=some (.cells #[.int .i64 0,.bool false,.slice none 0 0,.int .i64 0] 68 (0,0))) (hlen:n<=1000000) (hB:B<=w.heap.size)
    (h:∀ v' w',w'.ownsRow B 68 4 v' (n+1) (xs ++ [.int .i64 0,.bool false,.slice none 0 0,.int .i64 0])->w.grownBy w' v.ownBlock->wpList prog ops Q rest (a.put o.dst v') w'):wpList prog ops Q (o :: rest) a w:=by
  obtain⟨i0,hi,hz0,hz1,hz2⟩:=info_parts zK
  refine wpList_append_own_at w hgd s x 82 ho B 68 i0 (.agg #[.int .i64 0,.bool false,.slice none 0 0,.int .i64 0]) 4 48 underlying82 hi hz0 hz1 hz2 rfl (by decide) v n xs hs hO ⟨g,0,none⟩ 1 1 [.int .i64 0,.bool false,.slice none 0 0,.int .i64 0] hx rfl
    (fun j u hu=>by
      rw[l7,Nat.zero_add]
      match j,hu with
      | 0,hu=>rw[cell_of_row w g 0 _ _ _ hg];simpa using hu
      | 1,hu=>rw[cell_of_row w g 1 _ _ _ hg];simpa using hu
      | 2,hu=>rw[cell_of_row w g 2 _ _ _ hg];simpa using hu
      | 3,hu=>rw[cell_of_row w g 3 _ _ _ hg];simpa using hu
      | j+4,hu=>simp at hu) (by intro u hu; simp at hu; rcases hu with rfl | rfl | rfl | rfl <;> rfl) (by unfold maxLen; omega) (by omega) hB ?_
  intro v' w' h1 h2 _ _
  exact h v' w' h1 h2
theorem Ds {w:World} {b:Nat} {x0 x1 x2 x3 x4 x5 x6 x7:Value} (h:w.heap[b]?=some (.cells #[x0,x1,x2,x3,x4,x5,x6,x7] 68 (0,0))):w.ownsRow b 68 4 (.slice (some ⟨b,0,none⟩) 2 2) 2 [x0,x1,x2,x3,x4,x5,x6,x7] :=
 ⟨by simp,.inr ⟨b,2,_,rfl,Nat.le_refl _,h,Nat.le_refl _,by decide,by simp,by simp⟩⟩
theorem CE {a b:Int} (na:nn a) (nb:nn b) (h1:¬ aQ (ah a)<=0) (w:World) :
    Calls prog 24 #[.agg #[.int .i64 a,.int .i64 b]] w fun e w'=>e=.returned (.agg #[.int .i64 (bM (di (ah a) (ah b))),.int .i64 (bN (dI (ah a) (ah b)))])∧Below w.heap.size w w':=by
  have q1:(bG (ap (ah a) (ah a)) (ap (ah b) (ah b)))=di (ah a) (ah b):=by unfold di;rw[if_neg (fun h=>h1 h.1)]
  have q2:(bH (ap (ah a) (ah a)) (ap (ah b) (ah b)))=dI (ah a) (ah b):=rfl
  have b1:=gQ na na
  have b2:=gQ nb nb
  have k1:=fe (bd a) (bd a)
  have k2:=fe (bd b) (bd b)
  rw[<- q1,<- q2]
  clear q1 q2
  have T:Hid (∀ (u v:Value) W,EA W u (bG (ap (ah a) (ah a)) (ap (ah b) (ah b)))->EA W v (bH (ap (ah a) (ah a)) (ap (ah b) (ah b)))->Calls prog 49 #[u,v] W fun r w'=>r=.returned (.agg #[.int .i64 (bM (bG (ap (ah a) (ah a)) (ap (ah b) (ah b)))),.int .i64 (bN (bH (ap (ah a) (ah a)) (ap (ah b) (ah b))))])∧Below W.heap.size W w'):=fun u v W hu hv=>jH hu.ev hv.ev (fun _=>(oY b1 b2).ok (by omega)) (fun _=>(oZ b1 b2).ok (by omega))
  generalize bM (bG (ap (ah a) (ah a)) (ap (ah b) (ah b)))=X at *
  generalize bN (bH (ap (ah a) (ah a)) (ap (ah b) (ah b)))=Y at *
  have hb:=aq w
  go_enter func24,ntmps24
  have s_k:(w.alloc (.cells #[.int .i64 a,.int .i64 b] 23)).heap[w.heap.size]?=some (.cells #[.int .i64 a,.int .i64 b] 23):=av (.cells #[.int .i64 a,.int .i64 b] 23) (by simp only[ar])
  have hb:=aa hb (ae w (.cells #[.int .i64 a,.int .i64 b] 23))
  have s_k:=am (.cells #[.int .i64 0,.int .i64 0] 23) s_k
  have r_k:((w.alloc (.cells #[.int .i64 a,.int .i64 b] 23)).alloc (.cells #[.int .i64 0,.int .i64 0] 23)).heap[w.heap.size+1]?=some (.cells #[.int .i64 0,.int .i64 0] 23):=av (.cells #[.int .i64 0,.int .i64 0] 23) (by simp only[ar])
  have hb:=aa hb (ae (w.alloc (.cells #[.int .i64 a,.int .i64 b] 23)) (.cells #[.int .i64 0,.int .i64 0] 23))
  have f_s0:=ab s_k 0 rfl
  have f_s1:=ab s_k 1 rfl
  go_wp2_with fail
  clear f_s0 f_s1
  generalize ((w.alloc (.cells #[.int .i64 a,.int .i64 b] 23)).alloc (.cells #[.int .i64 0,.int .i64 0] 23))=x1 at s_k r_k hb ⊢
  refine(ff na _).mono ?_
  rintro _ y2 ⟨z,rfl,E,hw⟩
  obtain⟨p_g,p_o,p_n,p_c,p_e,rfl,p_D⟩:=E
  have s_k:=ac hw s_k
  have r_k:=ac hw r_k
  have hb:=aa hb hw
  have s_k:=am (.cells #[.int .i64 (ah a).i,.bool p_g,.slice p_o p_n p_c,.int .i64 p_e] 68) s_k
  have r_k:=am (.cells #[.int .i64 (ah a).i,.bool p_g,.slice p_o p_n p_c,.int .i64 p_e] 68) r_k
  have p_k:(y2.alloc (.cells #[.int .i64 (ah a).i,.bool p_g,.slice p_o p_n p_c,.int .i64 p_e] 68)).heap[y2.heap.size]?=some (.cells #[.int .i64 (ah a).i,.bool p_g,.slice p_o p_n p_c,.int .i64 p_e] 68):=av (.cells #[.int .i64 (ah a).i,.bool p_g,.slice p_o p_n p_c,.int .i64 p_e] 68) (by simp only[ar])
  have p_D:=p_D.keeps (ae y2 (.cells #[.int .i64 (ah a).i,.bool p_g,.slice p_o p_n p_c,.int .i64 p_e] 68))
  have hb:=aa hb (ae y2 (.cells #[.int .i64 (ah a).i,.bool p_g,.slice p_o p_n p_c,.int .i64 p_e] 68))
  have f_s0:=ab s_k 0 rfl
  have f_s1:=ab s_k 1 rfl
  go_wp2_with fail
  clear f_s0 f_s1
  generalize (y2.alloc (.cells #[.int .i64 (ah a).i,.bool p_g,.slice p_o p_n p_c,.int .i64 p_e] 68))=x3 at s_k r_k p_k p_D hb ⊢
  refine(ff nb _).mono ?_
  rintro _ y4 ⟨z,rfl,E,hw⟩
  obtain⟨q_g,q_o,q_n,q_c,q_e,rfl,q_D⟩:=E
  have s_k:=ac hw s_k
  have r_k:=ac hw r_k
  have p_k:=ac hw p_k
  have p_D:=p_D.keeps hw
  have hb:=aa hb hw
  have s_k:=am (.cells #[.int .i64 (ah b).i,.bool q_g,.slice q_o q_n q_c,.int .i64 q_e] 68) s_k
  have r_k:=am (.cells #[.int .i64 (ah b).i,.bool q_g,.slice q_o q_n q_c,.int .i64 q_e] 68) r_k
  have p_k:=am (.cells #[.int .i64 (ah b).i,.bool q_g,.slice q_o q_n q_c,.int .i64 q_e] 68) p_k
  have q_k:(y4.alloc (.cells #[.int .i64 (ah b).i,.bool q_g,.slice q_o q_n q_c,.int .i64 q_e] 68)).heap[y4.heap.size]?=some (.cells #[.int .i64 (ah b).i,.bool q_g,.slice q_o q_n q_c,.int .i64 q_e] 68):=av (.cells #[.int .i64 (ah b).i,.bool q_g,.slice q_o q_n q_c,.int .i64 q_e] 68) (by simp only[ar])
  have p_D:=p_D.keeps (ae y4 (.cells #[.int .i64 (ah b).i,.bool q_g,.slice q_o q_n q_c,.int .i64 q_e] 68))
  have q_D:=q_D.keeps (ae y4 (.cells #[.int .i64 (ah b).i,.bool q_g,.slice q_o q_n q_c,.int .i64 q_e] 68))
  have hb:=aa hb (ae y4 (.cells #[.int .i64 (ah b).i,.bool q_g,.slice q_o q_n q_c,.int .i64 q_e] 68))
  go_wp2_with fail
  generalize (y4.alloc (.cells #[.int .i64 (ah b).i,.bool q_g,.slice q_o q_n q_c,.int .i64 q_e] 68))=x5 at s_k r_k p_k q_k p_D q_D hb ⊢
  have KK:∀ W,Below x5.heap.size x5 W->W.cell? ⟨y2.heap.size,0,none⟩=some (.int .i64 (ah a).i)∧W.cell? ⟨y2.heap.size,1,none⟩=some (.bool p_g)∧W.cell? ⟨y2.heap.size,2,none⟩=some (.slice p_o p_n p_c)∧W.cell? ⟨y2.heap.size,3,none⟩=some (.int .i64 p_e)∧W.cell? ⟨y4.heap.size,0,none⟩=some (.int .i64 (ah b).i)∧W.cell? ⟨y4.heap.size,1,none⟩=some (.bool q_g)∧W.cell? ⟨y4.heap.size,2,none⟩=some (.slice q_o q_n q_c)∧W.cell? ⟨y4.heap.size,3,none⟩=some (.int .i64 q_e):=fun W hW=>⟨af (ab p_k 0 rfl) hW,af (ab p_k 1 rfl) hW,af (ab p_k 2 rfl) hW,af (ab p_k 3 rfl) hW,af (ab q_k 0 rfl) hW,af (ab q_k 1 rfl) hW,af (ab q_k 2 rfl) hW,af (ab q_k 3 rfl) hW⟩
  have B0:Below x5.heap.size x5 x5.drew:=(aq _).drew
  have T1:Hid (∀ W,Below x5.heap.size x5 W->Calls prog 53 #[.agg #[.int .i64 (ah a).i,.bool p_g,.slice p_o p_n p_c,.int .i64 p_e],.agg #[.int .i64 (ah a).i,.bool p_g,.slice p_o p_n p_c,.int .i64 p_e]] W fun r w'=>∃ z,r=.returned z∧EA w' z (ap (ah a) (ah a))∧Below W.heap.size W w'):=fun W hW=>iL ⟨_,_,_,_,_,rfl,p_D.keeps hW⟩ ⟨_,_,_,_,_,rfl,p_D.keeps hW⟩ (bd _) (bd _) (cu _) (cu _)
  have T2:Hid (∀ W,Below x5.heap.size x5 W->Calls prog 53 #[.agg #[.int .i64 (ah b).i,.bool q_g,.slice q_o q_n q_c,.int .i64 q_e],.agg #[.int .i64 (ah b).i,.bool q_g,.slice q_o q_n q_c,.int .i64 q_e]] W fun r w'=>∃ z,r=.returned z∧EA w' z (ap (ah b) (ah b))∧Below W.heap.size W w'):=fun W hW=>iL ⟨_,_,_,_,_,rfl,q_D.keeps hW⟩ ⟨_,_,_,_,_,rfl,q_D.keeps hW⟩ (bd _) (bd _) (cu _) (cu _)
  generalize ap (ah a) (ah a)=M1 at *
  generalize ap (ah b) (ah b)=M2 at *
  go_region_held3 (fun W=>W.cell? ⟨y2.heap.size,0,none⟩=some (.int .i64 (ah a).i)∧W.cell? ⟨y2.heap.size,1,none⟩=some (.bool p_g)∧W.cell? ⟨y2.heap.size,2,none⟩=some (.slice p_o p_n p_c)∧W.cell? ⟨y2.heap.size,3,none⟩=some (.int .i64 p_e)∧W.cell? ⟨y4.heap.size,0,none⟩=some (.int .i64 (ah b).i)∧W.cell? ⟨y4.heap.size,1,none⟩=some (.bool q_g)∧W.cell? ⟨y4.heap.size,2,none⟩=some (.slice q_o q_n q_c)∧W.cell? ⟨y4.heap.size,3,none⟩=some (.int .i64 q_e))
    (with_reducible first|assumption|exact KK _ B0|exact KK _ B1|exact KK _ B2|exact KK _ (fY B2 _)|fail)
    (first
      | (go_at_call 53;have _t:=hs1;refine(T2.out _ B1).mono ?_;rintro _ y_2 ⟨z,rfl,⟨m2_g,m2_o,m2_n,m2_c,m2_e,rfl,m2_D⟩,hs2⟩;have B2:=aa B1 hs2)
      | (go_at_call 53; refine (T1.out _ B0).mono ?_; rintro _ y_1 ⟨z,rfl,⟨m1_g,m1_o,m1_n,m1_c,m1_e,rfl,m1_D⟩,hs1⟩; have B1:=aa B0 hs1))
  have m1_D:=m1_D.keeps hs2
  clear KK B0 T1 T2 na nb
  have s_k:=ac B2 s_k
  have r_k:=ac B2 r_k
  have p_k:=ac B2 p_k
  have q_k:=ac B2 q_k
  have p_D:=p_D.keeps B2
  have q_D:=q_D.keeps B2
  have hb:=aa hb B2
  have hy2:=hb.size
  have S1:Hid (∀ (u:Value) W,EA W u (ah a)->Calls prog 51 #[u] W fun r w'=>r=.returned (.int .i64 (aQ (ah a)))∧Below W.heap.size W w'):=fun u W hu=>fF hu.ev
  have S2:Hid (∀ (u:Value) W,EA W u (ah b)->Calls prog 51 #[u] W fun r w'=>r=.returned (.int .i64 (aQ (ah b)))∧Below W.heap.size W w'):=fun u W hu=>fF hu.ev
  generalize aQ (ah a)=sa at *
  generalize aQ (ah b)=sb at *
  have s_k:=am (.cells #[.int .i64 M1.i,.bool m1_g,.slice m1_o m1_n m1_c,.int .i64 m1_e,.int .i64 M2.i,.bool m2_g,.slice m2_o m2_n m2_c,.int .i64 m2_e] 68) s_k
  have r_k:=am (.cells #[.int .i64 M1.i,.bool m1_g,.slice m1_o m1_n m1_c,.int .i64 m1_e,.int .i64 M2.i,.bool m2_g,.slice m2_o m2_n m2_c,.int .i64 m2_e] 68) r_k
  have p_k:=am (.cells #[.int .i64 M1.i,.bool m1_g,.slice m1_o m1_n m1_c,.int .i64 m1_e,.int .i64 M2.i,.bool m2_g,.slice m2_o m2_n m2_c,.int .i64 m2_e] 68) p_k
  have q_k:=am (.cells #[.int .i64 M1.i,.bool m1_g,.slice m1_o m1_n m1_c,.int .i64 m1_e,.int .i64 M2.i,.bool m2_g,.slice m2_o m2_n m2_c,.int .i64 m2_e] 68) q_k
  have l_k:(y_2.alloc (.cells #[.int .i64 M1.i,.bool m1_g,.slice m1_o m1_n m1_c,.int .i64 m1_e,.int .i64 M2.i,.bool m2_g,.slice m2_o m2_n m2_c,.int .i64 m2_e] 68)).heap[y_2.heap.size]?=some (.cells #[.int .i64 M1.i,.bool m1_g,.slice m1_o m1_n m1_c,.int .i64 m1_e,.int .i64 M2.i,.bool m2_g,.slice m2_o m2_n m2_c,.int .i64 m2_e] 68):=av (.cells #[.int .i64 M1.i,.bool m1_g,.slice m1_o m1_n m1_c,.int .i64 m1_e,.int .i64 M2.i,.bool m2_g,.slice m2_o m2_n m2_c,.int .i64 m2_e] 68) (by simp only[ar])
  have p_D:=p_D.keeps (ae y_2 (.cells #[.int .i64 M1.i,.bool m1_g,.slice m1_o m1_n m1_c,.int .i64 m1_e,.int .i64 M2.i,.bool m2_g,.slice m2_o m2_n m2_c,.int .i64 m2_e] 68))
  have q_D:=q_D.keeps (ae y_2 (.cells #[.int .i64 M1.i,.bool m1_g,.slice m1_o m1_n m1_c,.int .i64 m1_e,.int .i64 M2.i,.bool m2_g,.slice m2_o m2_n m2_c,.int .i64 m2_e] 68))
  have m1_D:=m1_D.keeps (ae y_2 (.cells #[.int .i64 M1.i,.bool m1_g,.slice m1_o m1_n m1_c,.int .i64 m1_e,.int .i64 M2.i,.bool m2_g,.slice m2_o m2_n m2_c,.int .i64 m2_e] 68))
  have m2_D:=m2_D.keeps (ae y_2 (.cells #[.int .i64 M1.i,.bool m1_g,.slice m1_o m1_n m1_c,.int .i64 m1_e,.int .i64 M2.i,.bool m2_g,.slice m2_o m2_n m2_c,.int .i64 m2_e] 68))
  have hb:=aa hb (ae y_2 (.cells #[.int .i64 M1.i,.bool m1_g,.slice m1_o m1_n m1_c,.int .i64 m1_e,.int .i64 M2.i,.bool m2_g,.slice m2_o m2_n m2_c,.int .i64 m2_e] 68))
  have f_p0:=ab p_k 0 rfl
  have f_p1:=ab p_k 1 rfl
  have f_p2:=ab p_k 2 rfl
  have f_p3:=ab p_k 3 rfl
  go_wp2_with fail
  clear f_p0 f_p1 f_p2 f_p3
  generalize (y_2.alloc (.cells #[.int .i64 M1.i,.bool m1_g,.slice m1_o m1_n m1_c,.int .i64 m1_e,.int .i64 M2.i,.bool m2_g,.slice m2_o m2_n m2_c,.int .i64 m2_e] 68))=x6 at s_k r_k p_k q_k l_k p_D q_D m1_D m2_D hb ⊢
  refine(S1.out _ _ ⟨_,_,_,_,_,rfl,p_D⟩).mono ?_
  rintro _ y7 ⟨rfl,hw⟩
  have s_k:=ac hw s_k
  have r_k:=ac hw r_k
  have p_k:=ac hw p_k
  have q_k:=ac hw q_k
  have l_k:=ac hw l_k
  have p_D:=p_D.keeps hw
  have q_D:=q_D.keeps hw
  have m1_D:=m1_D.keeps hw
  have m2_D:=m2_D.keeps hw
  have hb:=aa hb hw
  have h1':decide (sa<=0)=false:=decide_eq_false (by omega)
  go_wp2_with fail
  refine(sH l_k m1_D m2_D (K:=8000) (by omega) b1 b2 k1 k2).mono ?_
  rintro _ y8 ⟨z1,z2,rfl,E1,E2,hw⟩
  have _t:=hw
  have s_k:=ac hw s_k
  have r_k:=ac hw r_k
  have p_k:=ac hw p_k
  have q_k:=ac hw q_k
  have l_k:=ac hw l_k
  have p_D:=p_D.keeps hw
  have q_D:=q_D.keeps hw
  have m1_D:=m1_D.keeps hw
  have m2_D:=m2_D.keeps hw
  have hb:=aa hb hw
  go_wp2_with fail
  refine(T.out _ _ _ E1 E2).mono ?_
  rintro _ y9 ⟨rfl,hw⟩
  have s_k:=ac hw s_k
  have r_k:=ac hw r_k
  have p_k:=ac hw p_k
  have q_k:=ac hw q_k
  have l_k:=ac hw l_k
  have p_D:=p_D.keeps hw
  have q_D:=q_D.keeps hw
  have m1_D:=m1_D.keeps hw
  have m2_D:=m2_D.keeps hw
  have hb:=aa hb hw
  have f_r0:=ab r_k 0 rfl
  have z_r0:=ak r_k 0
  have d_r0:=ag r_k 0 (.int .i64 X)
  have f_r1:=ab r_k 1 rfl
  have z_r1:=ak r_k 1
  have d_r1:=ag d_r0 1 (.int .i64 Y)
  have e_r0:=ab d_r1 0 rfl
  have e_r1:=ab d_r1 1 rfl
  have hbe:=((hb.setCell (p:=⟨w.heap.size+1,0,none⟩) (show w.heap.size<=w.heap.size+1 by omega) (.int .i64 X)).setCell (p:=⟨w.heap.size+1,1,none⟩) (show w.heap.size<=w.heap.size+1 by omega) (.int .i64 Y))
  clear r_k d_r0 d_r1
  go_wp2
  refine bodyPost_ret (v:=.agg #[.int .i64 X,.int .i64 Y]) (by simp[results,results24,go_sem,e_r0,e_r1]) rfl ⟨rfl,hbe⟩
theorem CH {a b:Int} (na:nn a) (nb:nn b) (h1:aQ (ah a)<=0) (h2:¬ 0<=aQ (ah b)) (w:World) :
    Calls prog 24 #[.agg #[.int .i64 a,.int .i64 b]] w fun e w'=>e=.returned (.agg #[.int .i64 (bM (di (ah a) (ah b))),.int .i64 (bN (dI (ah a) (ah b)))])∧Below w.heap.size w w':=by
  have q1:(bG (ap (ah a) (ah a)) (ap (ah b) (ah b)))=di (ah a) (ah b):=by unfold di;rw[if_neg (fun h=>h2 h.2)]
  have q2:(bH (ap (ah a) (ah a)) (ap (ah b) (ah b)))=dI (ah a) (ah b):=rfl
  have b1:=gQ na na
  have b2:=gQ nb nb
  have k1:=fe (bd a) (bd a)
  have k2:=fe (bd b) (bd b)
  rw[<- q1,<- q2]
  clear q1 q2
  have T:Hid (∀ (u v:Value) W,EA W u (bG (ap (ah a) (ah a)) (ap (ah b) (ah b)))->EA W v (bH (ap (ah a) (ah a)) (ap (ah b) (ah b)))->Calls prog 49 #[u,v] W fun r w'=>r=.returned (.agg #[.int .i64 (bM (bG (ap (ah a) (ah a)) (ap (ah b) (ah b)))),.int .i64 (bN (bH (ap (ah a) (ah a)) (ap (ah b) (ah b))))])∧Below W.heap.size W w'):=fun u v W hu hv=>jH hu.ev hv.ev (fun _=>(oY b1 b2).ok (by omega)) (fun _=>(oZ b1 b2).ok (by omega))
  generalize bM (bG (ap (ah a) (ah a)) (ap (ah b) (ah b)))=X at *
  generalize bN (bH (ap (ah a) (ah a)) (ap (ah b) (ah b)))=Y at *
  have hb:=aq w
  go_enter func24,ntmps24
  have s_k:(w.alloc (.cells #[.int .i64 a,.int .i64 b] 23)).heap[w.heap.size]?=some (.cells #[.int .i64 a,.int .i64 b] 23):=av (.cells #[.int .i64 a,.int .i64 b] 23) (by simp only[ar])
  have hb:=aa hb (ae w (.cells #[.int .i64 a,.int .i64 b] 23))
  have s_k:=am (.cells #[.int .i64 0,.int .i64 0] 23) s_k
  have r_k:((w.alloc (.cells #[.int .i64 a,.int .i64 b] 23)).alloc (.cells #[.int .i64 0,.int .i64 0] 23)).heap[w.heap.size+1]?=some (.cells #[.int .i64 0,.int .i64 0] 23):=av (.cells #[.int .i64 0,.int .i64 0] 23) (by simp only[ar])
  have hb:=aa hb (ae (w.alloc (.cells #[.int .i64 a,.int .i64 b] 23)) (.cells #[.int .i64 0,.int .i64 0] 23))
  have f_s0:=ab s_k 0 rfl
  have f_s1:=ab s_k 1 rfl
  go_wp2_with fail
  clear f_s0 f_s1
  generalize ((w.alloc (.cells #[.int .i64 a,.int .i64 b] 23)).alloc (.cells #[.int .i64 0,.int .i64 0] 23))=x1 at s_k r_k hb ⊢
  refine(ff na _).mono ?_
  rintro _ y2 ⟨z,rfl,E,hw⟩
  obtain⟨p_g,p_o,p_n,p_c,p_e,rfl,p_D⟩:=E
  have s_k:=ac hw s_k
  have r_k:=ac hw r_k
  have hb:=aa hb hw
  have s_k:=am (.cells #[.int .i64 (ah a).i,.bool p_g,.slice p_o p_n p_c,.int .i64 p_e] 68) s_k
  have r_k:=am (.cells #[.int .i64 (ah a).i,.bool p_g,.slice p_o p_n p_c,.int .i64 p_e] 68) r_k
  have p_k:(y2.alloc (.cells #[.int .i64 (ah a).i,.bool p_g,.slice p_o p_n p_c,.int .i64 p_e] 68)).heap[y2.heap.size]?=some (.cells #[.int .i64 (ah a).i,.bool p_g,.slice p_o p_n p_c,.int .i64 p_e] 68):=av (.cells #[.int .i64 (ah a).i,.bool p_g,.slice p_o p_n p_c,.int .i64 p_e] 68) (by simp only[ar])
  have p_D:=p_D.keeps (ae y2 (.cells #[.int .i64 (ah a).i,.bool p_g,.slice p_o p_n p_c,.int .i64 p_e] 68))
  have hb:=aa hb (ae y2 (.cells #[.int .i64 (ah a).i,.bool p_g,.slice p_o p_n p_c,.int .i64 p_e] 68))
  have f_s0:=ab s_k 0 rfl
  have f_s1:=ab s_k 1 rfl
  go_wp2_with fail
  clear f_s0 f_s1
  generalize (y2.alloc (.cells #[.int .i64 (ah a).i,.bool p_g,.slice p_o p_n p_c,.int .i64 p_e] 68))=x3 at s_k r_k p_k p_D hb ⊢
  refine(ff nb _).mono ?_
  rintro _ y4 ⟨z,rfl,E,hw⟩
  obtain⟨q_g,q_o,q_n,q_c,q_e,rfl,q_D⟩:=E
  have s_k:=ac hw s_k
  have r_k:=ac hw r_k
  have p_k:=ac hw p_k
  have p_D:=p_D.keeps hw
  have hb:=aa hb hw
  have s_k:=am (.cells #[.int .i64 (ah b).i,.bool q_g,.slice q_o q_n q_c,.int .i64 q_e] 68) s_k
  have r_k:=am (.cells #[.int .i64 (ah b).i,.bool q_g,.slice q_o q_n q_c,.int .i64 q_e] 68) r_k
  have p_k:=am (.cells #[.int .i64 (ah b).i,.bool q_g,.slice q_o q_n q_c,.int .i64 q_e] 68) p_k
  have q_k:(y4.alloc (.cells #[.int .i64 (ah b).i,.bool q_g,.slice q_o q_n q_c,.int .i64 q_e] 68)).heap[y4.heap.size]?=some (.cells #[.int .i64 (ah b).i,.bool q_g,.slice q_o q_n q_c,.int .i64 q_e] 68):=av (.cells #[.int .i64 (ah b).i,.bool q_g,.slice q_o q_n q_c,.int .i64 q_e] 68) (by simp only[ar])
  have p_D:=p_D.keeps (ae y4 (.cells #[.int .i64 (ah b).i,.bool q_g,.slice q_o q_n q_c,.int .i64 q_e] 68))
  have q_D:=q_D.keeps (ae y4 (.cells #[.int .i64 (ah b).i,.bool q_g,.slice q_o q_n q_c,.int .i64 q_e] 68))
  have hb:=aa hb (ae y4 (.cells #[.int .i64 (ah b).i,.bool q_g,.slice q_o q_n q_c,.int .i64 q_e] 68))
  go_wp2_with fail
  generalize (y4.alloc (.cells #[.int .i64 (ah b).i,.bool q_g,.slice q_o q_n q_c,.int .i64 q_e] 68))=x5 at s_k r_k p_k q_k p_D q_D hb ⊢
  have KK:∀ W,Below x5.heap.size x5 W->W.cell? ⟨y2.heap.size,0,none⟩=some (.int .i64 (ah a).i)∧W.cell? ⟨y2.heap.size,1,none⟩=some (.bool p_g)∧W.cell? ⟨y2.heap.size,2,none⟩=some (.slice p_o p_n p_c)∧W.cell? ⟨y2.heap.size,3,none⟩=some (.int .i64 p_e)∧W.cell? ⟨y4.heap.size,0,none⟩=some (.int .i64 (ah b).i)∧W.cell? ⟨y4.heap.size,1,none⟩=some (.bool q_g)∧W.cell? ⟨y4.heap.size,2,none⟩=some (.slice q_o q_n q_c)∧W.cell? ⟨y4.heap.size,3,none⟩=some (.int .i64 q_e):=fun W hW=>⟨af (ab p_k 0 rfl) hW,af (ab p_k 1 rfl) hW,af (ab p_k 2 rfl) hW,af (ab p_k 3 rfl) hW,af (ab q_k 0 rfl) hW,af (ab q_k 1 rfl) hW,af (ab q_k 2 rfl) hW,af (ab q_k 3 rfl) hW⟩
  have B0:Below x5.heap.size x5 x5.drew:=(aq _).drew
  have T1:Hid (∀ W,Below x5.heap.size x5 W->Calls prog 53 #[.agg #[.int .i64 (ah a).i,.bool p_g,.slice p_o p_n p_c,.int .i64 p_e],.agg #[.int .i64 (ah a).i,.bool p_g,.slice p_o p_n p_c,.int .i64 p_e]] W fun r w'=>∃ z,r=.returned z∧EA w' z (ap (ah a) (ah a))∧Below W.heap.size W w'):=fun W hW=>iL ⟨_,_,_,_,_,rfl,p_D.keeps hW⟩ ⟨_,_,_,_,_,rfl,p_D.keeps hW⟩ (bd _) (bd _) (cu _) (cu _)
  have T2:Hid (∀ W,Below x5.heap.size x5 W->Calls prog 53 #[.agg #[.int .i64 (ah b).i,.bool q_g,.slice q_o q_n q_c,.int .i64 q_e],.agg #[.int .i64 (ah b).i,.bool q_g,.slice q_o q_n q_c,.int .i64 q_e]] W fun r w'=>∃ z,r=.returned z∧EA w' z (ap (ah b) (ah b))∧Below W.heap.size W w'):=fun W hW=>iL ⟨_,_,_,_,_,rfl,q_D.keeps hW⟩ ⟨_,_,_,_,_,rfl,q_D.keeps hW⟩ (bd _) (bd _) (cu _) (cu _)
  generalize ap (ah a) (ah a)=M1 at *
  generalize ap (ah b) (ah b)=M2 at *
  go_region_held3 (fun W=>W.cell? ⟨y2.heap.size,0,none⟩=some (.int .i64 (ah a).i)∧W.cell? ⟨y2.heap.size,1,none⟩=some (.bool p_g)∧W.cell? ⟨y2.heap.size,2,none⟩=some (.slice p_o p_n p_c)∧W.cell? ⟨y2.heap.size,3,none⟩=some (.int .i64 p_e)∧W.cell? ⟨y4.heap.size,0,none⟩=some (.int .i64 (ah b).i)∧W.cell? ⟨y4.heap.size,1,none⟩=some (.bool q_g)∧W.cell? ⟨y4.heap.size,2,none⟩=some (.slice q_o q_n q_c)∧W.cell? ⟨y4.heap.size,3,none⟩=some (.int .i64 q_e))
    (with_reducible first|assumption|exact KK _ B0|exact KK _ B1|exact KK _ B2|exact KK _ (fY B2 _)|fail)
    (first
      | (go_at_call 53;have _t:=hs1;refine(T2.out _ B1).mono ?_;rintro _ y_2 ⟨z,rfl,⟨m2_g,m2_o,m2_n,m2_c,m2_e,rfl,m2_D⟩,hs2⟩;have B2:=aa B1 hs2)
      | (go_at_call 53; refine (T1.out _ B0).mono ?_; rintro _ y_1 ⟨z,rfl,⟨m1_g,m1_o,m1_n,m1_c,m1_e,rfl,m1_D⟩,hs1⟩; have B1:=aa B0 hs1))
  have m1_D:=m1_D.keeps hs2
  clear KK B0 T1 T2 na nb
  have s_k:=ac B2 s_k
  have r_k:=ac B2 r_k
  have p_k:=ac B2 p_k
  have q_k:=ac B2 q_k
  have p_D:=p_D.keeps B2
  have q_D:=q_D.keeps B2
  have hb:=aa hb B2
  have hy2:=hb.size
  have S1:Hid (∀ (u:Value) W,EA W u (ah a)->Calls prog 51 #[u] W fun r w'=>r=.returned (.int .i64 (aQ (ah a)))∧Below W.heap.size W w'):=fun u W hu=>fF hu.ev
  have S2:Hid (∀ (u:Value) W,EA W u (ah b)->Calls prog 51 #[u] W fun r w'=>r=.returned (.int .i64 (aQ (ah b)))∧Below W.heap.size W w'):=fun u W hu=>fF hu.ev
  generalize aQ (ah a)=sa at *
  generalize aQ (ah b)=sb at *
  have s_k:=am (.cells #[.int .i64 M1.i,.bool m1_g,.slice m1_o m1_n m1_c,.int .i64 m1_e,.int .i64 M2.i,.bool m2_g,.slice m2_o m2_n m2_c,.int .i64 m2_e] 68) s_k
  have r_k:=am (.cells #[.int .i64 M1.i,.bool m1_g,.slice m1_o m1_n m1_c,.int .i64 m1_e,.int .i64 M2.i,.bool m2_g,.slice m2_o m2_n m2_c,.int .i64 m2_e] 68) r_k
  have p_k:=am (.cells #[.int .i64 M1.i,.bool m1_g,.slice m1_o m1_n m1_c,.int .i64 m1_e,.int .i64 M2.i,.bool m2_g,.slice m2_o m2_n m2_c,.int .i64 m2_e] 68) p_k
  have q_k:=am (.cells #[.int .i64 M1.i,.bool m1_g,.slice m1_o m1_n m1_c,.int .i64 m1_e,.int .i64 M2.i,.bool m2_g,.slice m2_o m2_n m2_c,.int .i64 m2_e] 68) q_k
  have l_k:(y_2.alloc (.cells #[.int .i64 M1.i,.bool m1_g,.slice m1_o m1_n m1_c,.int .i64 m1_e,.int .i64 M2.i,.bool m2_g,.slice m2_o m2_n m2_c,.int .i64 m2_e] 68)).heap[y_2.heap.size]?=some (.cells #[.int .i64 M1.i,.bool m1_g,.slice m1_o m1_n m1_c,.int .i64 m1_e,.int .i64 M2.i,.bool m2_g,.slice m2_o m2_n m2_c,.int .i64 m2_e] 68):=av (.cells #[.int .i64 M1.i,.bool m1_g,.slice m1_o m1_n m1_c,.int .i64 m1_e,.int .i64 M2.i,.bool m2_g,.slice m2_o m2_n m2_c,.int .i64 m2_e] 68) (by simp only[ar])
  have p_D:=p_D.keeps (ae y_2 (.cells #[.int .i64 M1.i,.bool m1_g,.slice m1_o m1_n m1_c,.int .i64 m1_e,.int .i64 M2.i,.bool m2_g,.slice m2_o m2_n m2_c,.int .i64 m2_e] 68))
  have q_D:=q_D.keeps (ae y_2 (.cells #[.int .i64 M1.i,.bool m1_g,.slice m1_o m1_n m1_c,.int .i64 m1_e,.int .i64 M2.i,.bool m2_g,.slice m2_o m2_n m2_c,.int .i64 m2_e] 68))
  have m1_D:=m1_D.keeps (ae y_2 (.cells #[.int .i64 M1.i,.bool m1_g,.slice m1_o m1_n m1_c,.int .i64 m1_e,.int .i64 M2.i,.bool m2_g,.slice m2_o m2_n m2_c,.int .i64 m2_e] 68))
  have m2_D:=m2_D.keeps (ae y_2 (.cells #[.int .i64 M1.i,.bool m1_g,.slice m1_o m1_n m1_c,.int .i64 m1_e,.int .i64 M2.i,.bool m2_g,.slice m2_o m2_n m2_c,.int .i64 m2_e] 68))
  have hb:=aa hb (ae y_2 (.cells #[.int .i64 M1.i,.bool m1_g,.slice m1_o m1_n m1_c,.int .i64 m1_e,.int .i64 M2.i,.bool m2_g,.slice m2_o m2_n m2_c,.int .i64 m2_e] 68))
  have f_p0:=ab p_k 0 rfl
  have f_p1:=ab p_k 1 rfl
  have f_p2:=ab p_k 2 rfl
  have f_p3:=ab p_k 3 rfl
  go_wp2_with fail
  clear f_p0 f_p1 f_p2 f_p3
  generalize (y_2.alloc (.cells #[.int .i64 M1.i,.bool m1_g,.slice m1_o m1_n m1_c,.int .i64 m1_e,.int .i64 M2.i,.bool m2_g,.slice m2_o m2_n m2_c,.int .i64 m2_e] 68))=x6 at s_k r_k p_k q_k l_k p_D q_D m1_D m2_D hb ⊢
  refine(S1.out _ _ ⟨_,_,_,_,_,rfl,p_D⟩).mono ?_
  rintro _ y7 ⟨rfl,hw⟩
  have s_k:=ac hw s_k
  have r_k:=ac hw r_k
  have p_k:=ac hw p_k
  have q_k:=ac hw q_k
  have l_k:=ac hw l_k
  have p_D:=p_D.keeps hw
  have q_D:=q_D.keeps hw
  have m1_D:=m1_D.keeps hw
  have m2_D:=m2_D.keeps hw
  have hb:=aa hb hw
  have h1':decide (sa<=0)=true:=decide_eq_true (by omega)
  have f_q0:=ab q_k 0 rfl
  have f_q1:=ab q_k 1 rfl
  have f_q2:=ab q_k 2 rfl
  have f_q3:=ab q_k 3 rfl
  go_wp2_with fail
  clear f_q0 f_q1 f_q2 f_q3
  refine(S2.out _ _ ⟨_,_,_,_,_,rfl,q_D⟩).mono ?_
  rintro _ y8 ⟨rfl,hw⟩
  have s_k:=ac hw s_k
  have r_k:=ac hw r_k
  have p_k:=ac hw p_k
  have q_k:=ac hw q_k
  have l_k:=ac hw l_k
  have p_D:=p_D.keeps hw
  have q_D:=q_D.keeps hw
  have m1_D:=m1_D.keeps hw
  have m2_D:=m2_D.keeps hw
  have hb:=aa hb hw
  have h2':decide (sb >= 0)=false:=decide_eq_false (by omega)
  go_wp2_with fail
  refine(sH l_k m1_D m2_D (K:=8000) (by omega) b1 b2 k1 k2).mono ?_
  rintro _ y9 ⟨z1,z2,rfl,E1,E2,hw⟩
  have _t:=hw
  have s_k:=ac hw s_k
  have r_k:=ac hw r_k
  have p_k:=ac hw p_k
  have q_k:=ac hw q_k
  have l_k:=ac hw l_k
  have p_D:=p_D.keeps hw
  have q_D:=q_D.keeps hw
  have m1_D:=m1_D.keeps hw
  have m2_D:=m2_D.keeps hw
  have hb:=aa hb hw
  go_wp2_with fail
  refine(T.out _ _ _ E1 E2).mono ?_
  rintro _ y10 ⟨rfl,hw⟩
  have s_k:=ac hw s_k
  have r_k:=ac hw r_k
  have p_k:=ac hw p_k
  have q_k:=ac hw q_k
  have l_k:=ac hw l_k
  have p_D:=p_D.keeps hw
  have q_D:=q_D.keeps hw
  have m1_D:=m1_D.keeps hw
  have m2_D:=m2_D.keeps hw
  have hb:=aa hb hw
  have f_r0:=ab r_k 0 rfl
  have z_r0:=ak r_k 0
  have d_r0:=ag r_k 0 (.int .i64 X)
  have f_r1:=ab r_k 1 rfl
  have z_r1:=ak r_k 1
  have d_r1:=ag d_r0 1 (.int .i64 Y)
  have e_r0:=ab d_r1 0 rfl
  have e_r1:=ab d_r1 1 rfl
  have hbe:=((hb.setCell (p:=⟨w.heap.size+1,0,none⟩) (show w.heap.size<=w.heap.size+1 by omega) (.int .i64 X)).setCell (p:=⟨w.heap.size+1,1,none⟩) (show w.heap.size<=w.heap.size+1 by omega) (.int .i64 Y))
  clear r_k d_r0 d_r1
  go_wp2
  refine bodyPost_ret (v:=.agg #[.int .i64 X,.int .i64 Y]) (by simp[results,results24,go_sem,e_r0,e_r1]) rfl ⟨rfl,hbe⟩
theorem CZ {a b:Int} (na:nn a) (nb:nn b) (h1:aQ (ah a)<=0) (h2:0<=aQ (ah b)) (w:World) :
    Calls prog 24 #[.agg #[.int .i64 a,.int .i64 b]] w fun e w'=>e=.returned (.agg #[.int .i64 (bM (di (ah a) (ah b))),.int .i64 (bN (dI (ah a) (ah b)))])∧Below w.heap.size w w':=by
  obtain⟨q1,q2⟩:=Bb (bd a) (bd b) ⟨h1,h2⟩
  have b1:=gQ na na
  have b2:=gQ nb nb
  have k1:=fe (bd a) (bd a)
  have k2:=fe (bd b) (bd b)
  rw[<- q1,<- q2]
  clear q1 q2
  have T:Hid (∀ (u v:Value) W,EA W u (bG (bG (ap (ah a) (ah a)) (ap (ah b) (ah b))) ⟨0,0⟩)->EA W v (bH (bH (ap (ah a) (ah a)) (ap (ah b) (ah b))) ⟨0,0⟩)->Calls prog 49 #[u,v] W fun r w'=>r=.returned (.agg #[.int .i64 (bM (bG (bG (ap (ah a) (ah a)) (ap (ah b) (ah b))) ⟨0,0⟩)),.int .i64 (bN (bH (bH (ap (ah a) (ah a)) (ap (ah b) (ah b))) ⟨0,0⟩))])∧Below W.heap.size W w'):=fun u v W hu hv=>jH hu.ev hv.ev (fun _=>(oY (oY b1 b2) Bs).ok (by omega)) (fun _=>(oZ (oZ b1 b2) Bs).ok (by omega))
  generalize bM (bG (bG (ap (ah a) (ah a)) (ap (ah b) (ah b))) ⟨0,0⟩)=X at *
  generalize bN (bH (bH (ap (ah a) (ah a)) (ap (ah b) (ah b))) ⟨0,0⟩)=Y at *
  have hb:=aq w
  go_enter func24,ntmps24
  have s_k:(w.alloc (.cells #[.int .i64 a,.int .i64 b] 23)).heap[w.heap.size]?=some (.cells #[.int .i64 a,.int .i64 b] 23):=av (.cells #[.int .i64 a,.int .i64 b] 23) (by simp only[ar])
  have hb:=aa hb (ae w (.cells #[.int .i64 a,.int .i64 b] 23))
  have s_k:=am (.cells #[.int .i64 0,.int .i64 0] 23) s_k
  have r_k:((w.alloc (.cells #[.int .i64 a,.int .i64 b] 23)).alloc (.cells #[.int .i64 0,.int .i64 0] 23)).heap[w.heap.size+1]?=some (.cells #[.int .i64 0,.int .i64 0] 23):=av (.cells #[.int .i64 0,.int .i64 0] 23) (by simp only[ar])
  have hb:=aa hb (ae (w.alloc (.cells #[.int .i64 a,.int .i64 b] 23)) (.cells #[.int .i64 0,.int .i64 0] 23))
  have f_s0:=ab s_k 0 rfl
  have f_s1:=ab s_k 1 rfl
  go_wp2_with fail
  clear f_s0 f_s1
  generalize ((w.alloc (.cells #[.int .i64 a,.int .i64 b] 23)).alloc (.cells #[.int .i64 0,.int .i64 0] 23))=x1 at s_k r_k hb ⊢
  refine(ff na _).mono ?_
  rintro _ y2 ⟨z,rfl,E,hw⟩
  obtain⟨p_g,p_o,p_n,p_c,p_e,rfl,p_D⟩:=E
  have s_k:=ac hw s_k
  have r_k:=ac hw r_k
  have hb:=aa hb hw
  have s_k:=am (.cells #[.int .i64 (ah a).i,.bool p_g,.slice p_o p_n p_c,.int .i64 p_e] 68) s_k
  have r_k:=am (.cells #[.int .i64 (ah a).i,.bool p_g,.slice p_o p_n p_c,.int .i64 p_e] 68) r_k
  have p_k:(y2.alloc (.cells #[.int .i64 (ah a).i,.bool p_g,.slice p_o p_n p_c,.int .i64 p_e] 68)).heap[y2.heap.size]?=some (.cells #[.int .i64 (ah a).i,.bool p_g,.slice p_o p_n p_c,.int .i64 p_e] 68):=av (.cells #[.int .i64 (ah a).i,.bool p_g,.slice p_o p_n p_c,.int .i64 p_e] 68) (by simp only[ar])
  have p_D:=p_D.keeps (ae y2 (.cells #[.int .i64 (ah a).i,.bool p_g,.slice p_o p_n p_c,.int .i64 p_e] 68))
  have hb:=aa hb (ae y2 (.cells #[.int .i64 (ah a).i,.bool p_g,.slice p_o p_n p_c,.int .i64 p_e] 68))
  have f_s0:=ab s_k 0 rfl
  have f_s1:=ab s_k 1 rfl
  go_wp2_with fail
  clear f_s0 f_s1
  generalize (y2.alloc (.cells #[.int .i64 (ah a).i,.bool p_g,.slice p_o p_n p_c,.int .i64 p_e] 68))=x3 at s_k r_k p_k p_D hb ⊢
  refine(ff nb _).mono ?_
  rintro _ y4 ⟨z,rfl,E,hw⟩
  obtain⟨q_g,q_o,q_n,q_c,q_e,rfl,q_D⟩:=E
  have s_k:=ac hw s_k
  have r_k:=ac hw r_k
  have p_k:=ac hw p_k
  have p_D:=p_D.keeps hw
  have hb:=aa hb hw
  have s_k:=am (.cells #[.int .i64 (ah b).i,.bool q_g,.slice q_o q_n q_c,.int .i64 q_e] 68) s_k
  have r_k:=am (.cells #[.int .i64 (ah b).i,.bool q_g,.slice q_o q_n q_c,.int .i64 q_e] 68) r_k
  have p_k:=am (.cells #[.int .i64 (ah b).i,.bool q_g,.slice q_o q_n q_c,.int .i64 q_e] 68) p_k
  have q_k:(y4.alloc (.cells #[.int .i64 (ah b).i,.bool q_g,.slice q_o q_n q_c,.int .i64 q_e] 68)).heap[y4.heap.size]?=some (.cells #[.int .i64 (ah b).i,.bool q_g,.slice q_o q_n q_c,.int .i64 q_e] 68):=av (.cells #[.int .i64 (ah b).i,.bool q_g,.slice q_o q_n q_c,.int .i64 q_e] 68) (by simp only[ar])
  have p_D:=p_D.keeps (ae y4 (.cells #[.int .i64 (ah b).i,.bool q_g,.slice q_o q_n q_c,.int .i64 q_e] 68))
  have q_D:=q_D.keeps (ae y4 (.cells #[.int .i64 (ah b).i,.bool q_g,.slice q_o q_n q_c,.int .i64 q_e] 68))
  have hb:=aa hb (ae y4 (.cells #[.int .i64 (ah b).i,.bool q_g,.slice q_o q_n q_c,.int .i64 q_e] 68))
  go_wp2_with fail
  generalize (y4.alloc (.cells #[.int .i64 (ah b).i,.bool q_g,.slice q_o q_n q_c,.int .i64 q_e] 68))=x5 at s_k r_k p_k q_k p_D q_D hb ⊢
  have KK:∀ W,Below x5.heap.size x5 W->W.cell? ⟨y2.heap.size,0,none⟩=some (.int .i64 (ah a).i)∧W.cell? ⟨y2.heap.size,1,none⟩=some (.bool p_g)∧W.cell? ⟨y2.heap.size,2,none⟩=some (.slice p_o p_n p_c)∧W.cell? ⟨y2.heap.size,3,none⟩=some (.int .i64 p_e)∧W.cell? ⟨y4.heap.size,0,none⟩=some (.int .i64 (ah b).i)∧W.cell? ⟨y4.heap.size,1,none⟩=some (.bool q_g)∧W.cell? ⟨y4.heap.size,2,none⟩=some (.slice q_o q_n q_c)∧W.cell? ⟨y4.heap.size,3,none⟩=some (.int .i64 q_e):=fun W hW=>⟨af (ab p_k 0 rfl) hW,af (ab p_k 1 rfl) hW,af (ab p_k 2 rfl) hW,af (ab p_k 3 rfl) hW,af (ab q_k 0 rfl) hW,af (ab q_k 1 rfl) hW,af (ab q_k 2 rfl) hW,af (ab q_k 3 rfl) hW⟩
  have B0:Below x5.heap.size x5 x5.drew:=(aq _).drew
  have T1:Hid (∀ W,Below x5.heap.size x5 W->Calls prog 53 #[.agg #[.int .i64 (ah a).i,.bool p_g,.slice p_o p_n p_c,.int .i64 p_e],.agg #[.int .i64 (ah a).i,.bool p_g,.slice p_o p_n p_c,.int .i64 p_e]] W fun r w'=>∃ z,r=.returned z∧EA w' z (ap (ah a) (ah a))∧Below W.heap.size W w'):=fun W hW=>iL ⟨_,_,_,_,_,rfl,p_D.keeps hW⟩ ⟨_,_,_,_,_,rfl,p_D.keeps hW⟩ (bd _) (bd _) (cu _) (cu _)
  have T2:Hid (∀ W,Below x5.heap.size x5 W->Calls prog 53 #[.agg #[.int .i64 (ah b).i,.bool q_g,.slice q_o q_n q_c,.int .i64 q_e],.agg #[.int .i64 (ah b).i,.bool q_g,.slice q_o q_n q_c,.int .i64 q_e]] W fun r w'=>∃ z,r=.returned z∧EA w' z (ap (ah b) (ah b))∧Below W.heap.size W w'):=fun W hW=>iL ⟨_,_,_,_,_,rfl,q_D.keeps hW⟩ ⟨_,_,_,_,_,rfl,q_D.keeps hW⟩ (bd _) (bd _) (cu _) (cu _)
  generalize ap (ah a) (ah a)=M1 at *
  generalize ap (ah b) (ah b)=M2 at *
  go_region_held3 (fun W=>W.cell? ⟨y2.heap.size,0,none⟩=some (.int .i64 (ah a).i)∧W.cell? ⟨y2.heap.size,1,none⟩=some (.bool p_g)∧W.cell? ⟨y2.heap.size,2,none⟩=some (.slice p_o p_n p_c)∧W.cell? ⟨y2.heap.size,3,none⟩=some (.int .i64 p_e)∧W.cell? ⟨y4.heap.size,0,none⟩=some (.int .i64 (ah b).i)∧W.cell? ⟨y4.heap.size,1,none⟩=some (.bool q_g)∧W.cell? ⟨y4.heap.size,2,none⟩=some (.slice q_o q_n q_c)∧W.cell? ⟨y4.heap.size,3,none⟩=some (.int .i64 q_e))
    (with_reducible first|assumption|exact KK _ B0|exact KK _ B1|exact KK _ B2|exact KK _ (fY B2 _)|fail)
    (first
      | (go_at_call 53;have _t:=hs1;refine(T2.out _ B1).mono ?_;rintro _ y_2 ⟨z,rfl,⟨m2_g,m2_o,m2_n,m2_c,m2_e,rfl,m2_D⟩,hs2⟩;have B2:=aa B1 hs2)
      | (go_at_call 53; refine (T1.out _ B0).mono ?_; rintro _ y_1 ⟨z,rfl,⟨m1_g,m1_o,m1_n,m1_c,m1_e,rfl,m1_D⟩,hs1⟩; have B1:=aa B0 hs1))
  have m1_D:=m1_D.keeps hs2
  clear KK B0 T1 T2 na nb
  have s_k:=ac B2 s_k
  have r_k:=ac B2 r_k
  have p_k:=ac B2 p_k
  have q_k:=ac B2 q_k
  have p_D:=p_D.keeps B2
  have q_D:=q_D.keeps B2
  have hb:=aa hb B2
  have hy2:=hb.size
  have S1:Hid (∀ (u:Value) W,EA W u (ah a)->Calls prog 51 #[u] W fun r w'=>r=.returned (.int .i64 (aQ (ah a)))∧Below W.heap.size W w'):=fun u W hu=>fF hu.ev
  have S2:Hid (∀ (u:Value) W,EA W u (ah b)->Calls prog 51 #[u] W fun r w'=>r=.returned (.int .i64 (aQ (ah b)))∧Below W.heap.size W w'):=fun u W hu=>fF hu.ev
  generalize aQ (ah a)=sa at *
  generalize aQ (ah b)=sb at *
  have s_k:=am (.cells #[.int .i64 M1.i,.bool m1_g,.slice m1_o m1_n m1_c,.int .i64 m1_e,.int .i64 M2.i,.bool m2_g,.slice m2_o m2_n m2_c,.int .i64 m2_e] 68) s_k
  have r_k:=am (.cells #[.int .i64 M1.i,.bool m1_g,.slice m1_o m1_n m1_c,.int .i64 m1_e,.int .i64 M2.i,.bool m2_g,.slice m2_o m2_n m2_c,.int .i64 m2_e] 68) r_k
  have p_k:=am (.cells #[.int .i64 M1.i,.bool m1_g,.slice m1_o m1_n m1_c,.int .i64 m1_e,.int .i64 M2.i,.bool m2_g,.slice m2_o m2_n m2_c,.int .i64 m2_e] 68) p_k
  have q_k:=am (.cells #[.int .i64 M1.i,.bool m1_g,.slice m1_o m1_n m1_c,.int .i64 m1_e,.int .i64 M2.i,.bool m2_g,.slice m2_o m2_n m2_c,.int .i64 m2_e] 68) q_k
  have l_k:(y_2.alloc (.cells #[.int .i64 M1.i,.bool m1_g,.slice m1_o m1_n m1_c,.int .i64 m1_e,.int .i64 M2.i,.bool m2_g,.slice m2_o m2_n m2_c,.int .i64 m2_e] 68)).heap[y_2.heap.size]?=some (.cells #[.int .i64 M1.i,.bool m1_g,.slice m1_o m1_n m1_c,.int .i64 m1_e,.int .i64 M2.i,.bool m2_g,.slice m2_o m2_n m2_c,.int .i64 m2_e] 68):=av (.cells #[.int .i64 M1.i,.bool m1_g,.slice m1_o m1_n m1_c,.int .i64 m1_e,.int .i64 M2.i,.bool m2_g,.slice m2_o m2_n m2_c,.int .i64 m2_e] 68) (by simp only[ar])
  have p_D:=p_D.keeps (ae y_2 (.cells #[.int .i64 M1.i,.bool m1_g,.slice m1_o m1_n m1_c,.int .i64 m1_e,.int .i64 M2.i,.bool m2_g,.slice m2_o m2_n m2_c,.int .i64 m2_e] 68))
  have q_D:=q_D.keeps (ae y_2 (.cells #[.int .i64 M1.i,.bool m1_g,.slice m1_o m1_n m1_c,.int .i64 m1_e,.int .i64 M2.i,.bool m2_g,.slice m2_o m2_n m2_c,.int .i64 m2_e] 68))
  have m1_D:=m1_D.keeps (ae y_2 (.cells #[.int .i64 M1.i,.bool m1_g,.slice m1_o m1_n m1_c,.int .i64 m1_e,.int .i64 M2.i,.bool m2_g,.slice m2_o m2_n m2_c,.int .i64 m2_e] 68))
  have m2_D:=m2_D.keeps (ae y_2 (.cells #[.int .i64 M1.i,.bool m1_g,.slice m1_o m1_n m1_c,.int .i64 m1_e,.int .i64 M2.i,.bool m2_g,.slice m2_o m2_n m2_c,.int .i64 m2_e] 68))
  have hb:=aa hb (ae y_2 (.cells #[.int .i64 M1.i,.bool m1_g,.slice m1_o m1_n m1_c,.int .i64 m1_e,.int .i64 M2.i,.bool m2_g,.slice m2_o m2_n m2_c,.int .i64 m2_e] 68))
  have f_p0:=ab p_k 0 rfl
  have f_p1:=ab p_k 1 rfl
  have f_p2:=ab p_k 2 rfl
  have f_p3:=ab p_k 3 rfl
  go_wp2_with fail
  clear f_p0 f_p1 f_p2 f_p3
  generalize (y_2.alloc (.cells #[.int .i64 M1.i,.bool m1_g,.slice m1_o m1_n m1_c,.int .i64 m1_e,.int .i64 M2.i,.bool m2_g,.slice m2_o m2_n m2_c,.int .i64 m2_e] 68))=x6 at s_k r_k p_k q_k l_k p_D q_D m1_D m2_D hb ⊢
  refine(S1.out _ _ ⟨_,_,_,_,_,rfl,p_D⟩).mono ?_
  rintro _ y7 ⟨rfl,hw⟩
  have s_k:=ac hw s_k
  have r_k:=ac hw r_k
  have p_k:=ac hw p_k
  have q_k:=ac hw q_k
  have l_k:=ac hw l_k
  have p_D:=p_D.keeps hw
  have q_D:=q_D.keeps hw
  have m1_D:=m1_D.keeps hw
  have m2_D:=m2_D.keeps hw
  have hb:=aa hb hw
  have h1':decide (sa<=0)=true:=decide_eq_true (by omega)
  have f_q0:=ab q_k 0 rfl
  have f_q1:=ab q_k 1 rfl
  have f_q2:=ab q_k 2 rfl
  have f_q3:=ab q_k 3 rfl
  go_wp2_with fail
  clear f_q0 f_q1 f_q2 f_q3
  refine(S2.out _ _ ⟨_,_,_,_,_,rfl,q_D⟩).mono ?_
  rintro _ y8 ⟨rfl,hw⟩
  have s_k:=ac hw s_k
  have r_k:=ac hw r_k
  have p_k:=ac hw p_k
  have q_k:=ac hw q_k
  have l_k:=ac hw l_k
  have p_D:=p_D.keeps hw
  have q_D:=q_D.keeps hw
  have m1_D:=m1_D.keeps hw
  have m2_D:=m2_D.keeps hw
  have hb:=aa hb hw
  have h2':decide (sb >= 0)=true:=decide_eq_true (by omega)
  have u_k:=a9 y8 (.cells #[.int .i64 0,.bool false,.slice none 0 0,.int .i64 0] 68)
  have s_k:=am (.cells #[.int .i64 0,.bool false,.slice none 0 0,.int .i64 0] 68) s_k
  have r_k:=am (.cells #[.int .i64 0,.bool false,.slice none 0 0,.int .i64 0] 68) r_k
  have p_k:=am (.cells #[.int .i64 0,.bool false,.slice none 0 0,.int .i64 0] 68) p_k
  have q_k:=am (.cells #[.int .i64 0,.bool false,.slice none 0 0,.int .i64 0] 68) q_k
  have l_k:=am (.cells #[.int .i64 0,.bool false,.slice none 0 0,.int .i64 0] 68) l_k
  have hb:=aa hb (ae y8 (.cells #[.int .i64 0,.bool false,.slice none 0 0,.int .i64 0] 68))
  have p_D:=p_D.keeps (ae y8 (.cells #[.int .i64 0,.bool false,.slice none 0 0,.int .i64 0] 68))
  have q_D:=q_D.keeps (ae y8 (.cells #[.int .i64 0,.bool false,.slice none 0 0,.int .i64 0] 68))
  have m1_D:=m1_D.keeps (ae y8 (.cells #[.int .i64 0,.bool false,.slice none 0 0,.int .i64 0] 68))
  have m2_D:=m2_D.keeps (ae y8 (.cells #[.int .i64 0,.bool false,.slice none 0 0,.int .i64 0] 68))
  have n_l:w.heap.size+1≠y_2.heap.size:=fun h=>by have q:=l_k;rw[<- h,r_k] at q;simp at q
  go_wp2_with (first|(at_builtin;refine ri rfl _ _ rfl y_2.heap.size _ 2 _ rfl (Ds l_k) y8.heap.size rfl u_k (by omega) (Nat.le_of_lt (aGe l_k).1) ?_;intro v' yA hO hG;obtain⟨lg,lc,rfl,hlb,hll,hlc,hcl⟩:=vE hO)|fail)
  replace hG:_root_.Go.World.grownBy _ yA (some y_2.heap.size):=hG
  have m1_D:=sI m1_D l_k hG
  have m2_D:=sI m2_D l_k hG
  have r_k:=(hG.block _ (aGe r_k).1 (fun q=>n_l (by simpa using q))).trans r_k
  have hb:=hb.grown hG hb.size (fun k hk=>by have e:y_2.heap.size=k:=(by simpa using hk);rw[<- e];exact hy2)
  go_wp2_with fail
  refine(zL hll hlc hcl m1_D m2_D b1 b2 k1 k2).mono ?_
  rintro _ y9 ⟨z1,z2,rfl,E1,E2,hw⟩
  have _t:=hw
  have r_k:=ac hw r_k
  have hb:=aa hb hw
  go_wp2_with fail
  refine(T.out _ _ _ E1 E2).mono ?_
  rintro _ y10 ⟨rfl,hw⟩
  have r_k:=ac hw r_k
  have hb:=aa hb hw
  have f_r0:=ab r_k 0 rfl
  have z_r0:=ak r_k 0
  have d_r0:=ag r_k 0 (.int .i64 X)
  have f_r1:=ab r_k 1 rfl
  have z_r1:=ak r_k 1
  have d_r1:=ag d_r0 1 (.int .i64 Y)
  have e_r0:=ab d_r1 0 rfl
  have e_r1:=ab d_r1 1 rfl
  have hbe:=((hb.setCell (p:=⟨w.heap.size+1,0,none⟩) (show w.heap.size<=w.heap.size+1 by omega) (.int .i64 X)).setCell (p:=⟨w.heap.size+1,1,none⟩) (show w.heap.size<=w.heap.size+1 by omega) (.int .i64 Y))
  clear r_k d_r0 d_r1
  go_wp2
  refine bodyPost_ret (v:=.agg #[.int .i64 X,.int .i64 Y]) (by simp[results,results24,go_sem,e_r0,e_r1]) rfl ⟨rfl,hbe⟩
theorem qH (way:Int) (hw:0<=way∧way<=3) (F G:Nat) (lo:Option Addr) (ln lc:Nat) (r:Nat->aE) (w:World) (hl:eS w lo ln lc r) (h0:0<ln) (no:bV (r 0)=false) :
  Calls prog 69 #[.int .i64 way,.func (.func F) #[] #[],.func (.func G) #[] #[],.slice lo ln lc] w fun e w'=>e=.returned (.tuple #[.int .i64 0,.bool false,.int .i64 11])∧Below w.heap.size w w':=by
 have hst:∀ (p:Addr) (F:Nat) (m:Mode) (w:World),(store p (.func (.func F) #[] #[]) m).run prog w=stored prog w p (.func (.func F) #[] #[]) m:=fun p F m w=>run_store _ w p _ m rfl
 have hle:=hl.le
 have hma:=hl.max
 have CW:=gY way w
 rw[if_pos hw,decide_eq_true hw] at CW
 unfold eP at CW
 generalize eO way=K at *
 go_enter func69,ntmps69
 go_wp2_with fail
 refine CW.mono ?_
 rintro _ w1 ⟨rfl,hb1⟩
 have q1:=heap_alloc_new w1 (.cells #[.nilFunc] 124)
 have y0:=ab q1 0 rfl
 have y1:=ak q1 0
 go_wp2_with fail
 have hb2:=aa hb1 (ae w1 (.cells #[.func (.func K) #[] #[]] 124))
 generalize w1.alloc (.cells #[.func (.func K) #[] #[]] 124)=w2 at hb2 ⊢
 clear q1 y0 y1 CW
 go_loopw [28] (fun iv wr=>∃ k:Nat,iv=.int .i64 k∧k=0∧Below w.heap.size w wr) (fun iv _=>ln-(intOf iv).toNat)
 case atStart=>exact⟨0,rfl,rfl,hb2⟩
 case round=>
  clear hb2
  obtain⟨k,rfl,hk,hbw⟩:=hrel
  have hlt:k<ln:=by omega
  obtain⟨ba,oa,rfl,hba,hca⟩:=hl.spot (by omega)
  obtain⟨c0,c1,c2,hR⟩:=(hca k hlt).keeps hbw hba
  have hok:bV (r k)=false:=by rw[hk];exact no
  have CV:=fun W (hb:Below wr.heap.size wr W)=>iB (r k).ng (r k).ao (r k).n (r k).cap (r k).d (r k).e W (hR.keeps hb)
  unfold bV at hok
  rw[hok] at CV
  clear hok hR hca hk
  generalize r k=x at c0 c1 c2 CV
  obtain⟨x_g,x_o,x_n,x_c,x_d,x_e⟩:=x
  simp only at c0 c1 c2 CV
  have hb3:=ae wr (.cells #[.bool x_g,.slice x_o x_n x_c,.int .i64 x_e] 26)
  go_wp2_with fail
  refine(CV _ hb3).mono ?_
  rintro _ w4 ⟨rfl,hb4⟩
  have hbw4:=hbw.trans ((aa hb3 hb4).mono hbw.size)
  clear CV hb3 hb4 c0 c1 c2
  go_wp2
  all_goals refine bodyPost_ret (v:=.tuple #[.int .i64 0,.bool false,.int .i64 11]) (by simp[results,results69,go_sem]) rfl ⟨rfl,hbw4⟩
theorem zM (way:Int) (hw:0<=way∧way<=3) (x:aE) (w:World) (hx:aG w x.ao x.n x.cap x.d) (no:bV x=false) :
    Calls prog 47 #[x.v,.int .i64 way] w fun e w'=>e=.returned (.tuple #[.int .i64 0,.bool false,.int .i64 11])∧Below w.heap.size w w':=by
  have hmf:∀ (fn:Fn) (first cap:Array Value) (w:World),(Instr.makeFunc fn first cap).run prog w=.ok (.func fn first cap) w:=fun _ _ _ _=>rfl
  have CR:=fun W (hb:Below w.heap.size w W) (g:Nat) (hg:W.heap[g]?=some (.cells #[.bool x.ng,.slice x.ao x.n x.cap,.int .i64 x.e] 26 (0,0)))=>qH way hw 70 71 (some ⟨g,0,none⟩) 1 1 (fun _=>x) W
    ⟨Nat.le_refl _,by decide,fun _=>⟨g,0,rfl,(Array.getElem?_eq_some_iff.1 hg).1,fun i hi=>by
      obtain rfl:i=0:=by omega
      exact ⟨ab hg 0 rfl,ab hg 1 rfl,ab hg 2 rfl,hx.keeps hb⟩⟩⟩ (by decide) no
  unfold aE.v
  clear no hx
  obtain⟨x_g,x_o,x_n,x_c,x_d,x_e⟩:=x
  simp only at *
  have hb2:=ax w (.cells #[.bool x_g,.slice x_o x_n x_c,.int .i64 x_e] 26) (.cells #[.bool x_g,.slice x_o x_n x_c,.int .i64 x_e] 26)
  have q1:=bh w (.cells #[.bool x_g,.slice x_o x_n x_c,.int .i64 x_e] 26) (.cells #[.bool x_g,.slice x_o x_n x_c,.int .i64 x_e] 26)
  go_enter func47,ntmps47
  go_wp2_with fail
  refine(CR _ hb2 _ q1).mono ?_
  rintro _ w2 ⟨rfl,hb3⟩
  go_wp2
  all_goals refine bodyPost_ret (v:=.tuple #[.int .i64 0,.bool false,.int .i64 11]) (by simp[results,results47,go_sem]) rfl ⟨rfl,aa hb2 hb3⟩
theorem tM {g:Bool} {so:Option Addr} {sn sc:Nat} {d:Nat->Int} {e:Int} {w:World} (h:aG w so sn sc d) (no:bV ⟨g,so,sn,sc,d,e⟩=false) :
  ∀ W,Below w.heap.size w W->Calls prog 14 #[.agg #[.bool g,.slice so sn sc,.int .i64 e]] W fun r w'=>r=.returned (.tuple #[.agg #[.int .i64 0,.int .i64 0],.int .i64 11])∧Below W.heap.size W w':=by
 intro W hb
 have C1:Hid (∀ W',Below W.heap.size W W'->Calls prog 47 #[.agg #[.bool g,.slice so sn sc,.int .i64 e],.int .i64 1] W' fun e w'=>e=.returned (.tuple #[.int .i64 0,.bool false,.int .i64 11])∧Below W'.heap.size W' w'):=fun W' hb'=>zM 1 (by omega) ⟨g,so,sn,sc,d,e⟩ W' (h.keeps (aa hb hb')) no
 clear no h
 have hb2:=ax W (.cells #[.bool g,.slice so sn sc,.int .i64 e] 26) (.cells #[.int .i64 0,.int .i64 0] 23)
 have p0:=bv W (.cells #[.bool g,.slice so sn sc,.int .i64 e] 26) (.cells #[.int .i64 0,.int .i64 0] 23)
 have p1:=bh W (.cells #[.bool g,.slice so sn sc,.int .i64 e] 26) (.cells #[.int .i64 0,.int .i64 0] 23)
 go_enter func14,ntmps14
 go_wp2_with fail
 generalize (W.alloc (.cells #[.bool g,.slice so sn sc,.int .i64 e] 26)).alloc (.cells #[.int .i64 0,.int .i64 0] 23)=wx at *
 refine(C1.out _ hb2).mono ?_
 rintro _ w1 ⟨rfl,hb3⟩
 have d2:=(hb3.block _ (aGe p1).1).trans p1
 have hbw:=aa hb2 hb3
 have d3:=ag d2 0 (.int .i64 0)
 have d4:=ag d3 1 (.int .i64 0)
 have f0:=ab d2 0 rfl
 have z0:=ak d2 0
 have f1:=ab d3 1 rfl
 have z1:=ak d3 1
 have e0:=ab d4 0 rfl
 have e1:=ab d4 1 rfl
 have hbe:Below W.heap.size W ((w1.setCell ⟨W.heap.size+1,0,none⟩ (.int .i64 0)).setCell ⟨W.heap.size+1,1,none⟩ (.int .i64 0)):=(hbw.setCell (p:=⟨W.heap.size+1,0,none⟩) (Nat.le_succ _) _).setCell (p:=⟨W.heap.size+1,1,none⟩) (Nat.le_succ _) _
 clear p0 p1 d2 d3 d4
 go_wp2
 refine bodyPost_ret (v:=.tuple #[.agg #[.int .i64 0,.int .i64 0],.int .i64 11]) (by simp[results,results14,go_sem,e0,e1]) rfl ⟨rfl,hbe⟩
theorem sJ {lo hi:Int} {xg:Bool} {xo:Option Addr} {xn xc:Nat} {xe:Int} (hl:au lo) (hh:au hi) (hv:br lo hi=false) (w:World) :
  Calls prog 15 #[.agg #[.int .i64 lo,.int .i64 hi],.agg #[.bool xg,.slice xo xn xc,.int .i64 xe]] w fun e w'=>e=.returned (.tuple #[.bool false,.int .i64 1])∧Below w.heap.size w w':=by
 have R1:Hid (∀ W,Calls prog 37 #[cQ lo hi] W fun e w'=>e=.returned (bW lo hi)∧Below W.heap.size W w'):=fun W=>el lo hi W
 have V1:Hid (∀ W,Calls prog 38 #[bW lo hi] W fun e w'=>e=.returned (.bool false)∧Below W.heap.size W w'):=fun W=>by rw[<- hv];exact dF hl hh W
 clear hv hl hh
 unfold cQ bW at *
 generalize wd lo=A at *
 generalize wd hi=B at *
 have hst:∀ (p:Addr) (n:Nat) (m:Mode) (w:World),(store p (.float .f64 n) m).run prog w=stored prog w p (.float .f64 n) m:=fun p n m w=>run_store _ w p _ m rfl
 have hb2:=ax w (.cells #[.int .i64 lo,.int .i64 hi] 23) (.cells #[.bool xg,.slice xo xn xc,.int .i64 xe] 26)
 go_enter func15,ntmps15
 go_wp2_with fail
 generalize (w.alloc (.cells #[.int .i64 lo,.int .i64 hi] 23)).alloc (.cells #[.bool xg,.slice xo xn xc,.int .i64 xe] 26)=wx at *
 refine(R1.out _).mono ?_
 rintro _ w1 ⟨rfl,hb3⟩
 have hbi:=ae w1 (.cells #[.float .f64 A,.float .f64 B] 64)
 go_wp2_with fail
 generalize w1.alloc (.cells #[.float .f64 A,.float .f64 B] 64)=w2 at *
 refine(V1.out _).mono ?_
 rintro _ w3 ⟨rfl,hb4⟩
 have hbw:=aa hb2 (aa hb3 (aa hbi hb4))
 go_wp2
 exact bodyPost_ret (v:=.tuple #[.bool false,.int .i64 1]) (by simp[results,results15,go_sem]) rfl ⟨rfl,hbw⟩
theorem zN {lo hi:Int} {xg:Bool} {xo:Option Addr} {xn xc:Nat} {xe:Int} (hl:au lo) (hh:au hi) (hv:br lo hi=true) (w:World)
  (CA:Hid (∀ W,Below w.heap.size w W->Calls prog 14 #[.agg #[.bool xg,.slice xo xn xc,.int .i64 xe]] W fun r w'=>r=.returned (.tuple #[.agg #[.int .i64 0,.int .i64 0],.int .i64 11])∧Below W.heap.size W w')) :
  Calls prog 15 #[.agg #[.int .i64 lo,.int .i64 hi],.agg #[.bool xg,.slice xo xn xc,.int .i64 xe]] w fun e w'=>e=.returned (.tuple #[.bool false,.int .i64 11])∧Below w.heap.size w w':=by
 have R1:Hid (∀ W,Calls prog 37 #[cQ lo hi] W fun e w'=>e=.returned (bW lo hi)∧Below W.heap.size W w'):=fun W=>el lo hi W
 have V1:Hid (∀ W,Calls prog 38 #[bW lo hi] W fun e w'=>e=.returned (.bool true)∧Below W.heap.size W w'):=fun W=>by rw[<- hv];exact dF hl hh W
 clear hv hl hh
 unfold cQ bW at *
 generalize wd lo=A at *
 generalize wd hi=B at *
 have hst:∀ (p:Addr) (n:Nat) (m:Mode) (w:World),(store p (.float .f64 n) m).run prog w=stored prog w p (.float .f64 n) m:=fun p n m w=>run_store _ w p _ m rfl
 have hb2:=ax w (.cells #[.int .i64 lo,.int .i64 hi] 23) (.cells #[.bool xg,.slice xo xn xc,.int .i64 xe] 26)
 have p1:=bh w (.cells #[.int .i64 lo,.int .i64 hi] 23) (.cells #[.bool xg,.slice xo xn xc,.int .i64 xe] 26)
 go_enter func15,ntmps15
 go_wp2_with fail
 generalize (w.alloc (.cells #[.int .i64 lo,.int .i64 hi] 23)).alloc (.cells #[.bool xg,.slice xo xn xc,.int .i64 xe] 26)=wx at *
 refine(R1.out _).mono ?_
 rintro _ w1 ⟨rfl,hb3⟩
 have p11:=(hb3.block _ (aGe p1).1).trans p1
 have hbi:=ae w1 (.cells #[.float .f64 A,.float .f64 B] 64)
 go_wp2_with fail
 generalize w1.alloc (.cells #[.float .f64 A,.float .f64 B] 64)=w2 at *
 refine(V1.out _).mono ?_
 rintro _ w3 ⟨rfl,hb4⟩
 have p13:=((aa hbi hb4).block _ (aGe p11).1).trans p11
 have c0:=ab p13 0 rfl
 have c1:=ab p13 1 rfl
 have c2:=ab p13 2 rfl
 have hbw:=aa hb2 (aa hb3 (aa hbi hb4))
 go_wp2_with fail
 refine(CA.out _ hbw).mono ?_
 rintro _ w4 ⟨rfl,hb5⟩
 have hba:=ae w4 (.cells #[.int .i64 0,.int .i64 0] 23)
 have hbw5:=aa hbw (aa hb5 hba)
 clear c0 c1 c2
 go_wp2
 exact bodyPost_ret (v:=.tuple #[.bool false,.int .i64 11]) (by simp[results,results15,go_sem]) rfl ⟨rfl,hbw5⟩
theorem zO {b:Int} (pb:aB b=false) (w:World) (H:aA w) :
  Calls prog 13 #[.int .i64 b] w fun r w'=>r=.returned (.tuple #[.agg #[.int .i64 0,.int .i64 0],.int .i64 10])∧Below w.heap.size w w':=by
 have CP:Hid (∀ W,aA W->Calls prog 45 #[.int .i64 b] W fun e w'=>e=.returned (.tuple #[.bool (cl b),.int .i64 (bl b),.int .i64 (bJ b),.bool false])∧Below W.heap.size W w'):=fun W h=>by
  have:=jY b W h.lay
  rw[pb] at this
  exact this
 clear pb
 generalize cl b=b1 at *
 generalize bl b=b2 at *
 generalize bJ b=b3 at *
 have r_k:(w.alloc (.cells #[.int .i64 0,.int .i64 0] 23)).heap[w.heap.size]?=some (.cells #[.int .i64 0,.int .i64 0] 23):=av (.cells #[.int .i64 0,.int .i64 0] 23) (by rfl)
 have hb0:=ae w (.cells #[.int .i64 0,.int .i64 0] 23)
 go_enter func13,ntmps13
 go_wp2_with fail
 generalize (w.alloc (.cells #[.int .i64 0,.int .i64 0] 23))=x0 at hb0 r_k ⊢
 replace H:=H.keeps hb0
 refine(CP.out _ H).mono ?_
 rintro _ y1 ⟨rfl,hw1⟩
 replace r_k:=(hw1.block _ (aGe r_k).1).trans r_k
 replace hb0:=aa hb0 hw1
 have d3:=ag r_k 0 (.int .i64 0)
 have d4:=ag d3 1 (.int .i64 0)
 have k0:=ab r_k 0 rfl
 have k1:=ab d3 1 rfl
 have z0:=ak r_k 0
 have z1:=ak d3 1
 have e0:=ab d4 0 rfl
 have e1:=ab d4 1 rfl
 have hbe:=(hb0.setCell (p:=⟨w.heap.size,0,none⟩) (show w.heap.size<=w.heap.size by omega) (.int .i64 0)).setCell (p:=⟨w.heap.size,1,none⟩) (show w.heap.size<=w.heap.size by omega) (.int .i64 0)
 clear r_k d3 d4
 go_wp2
 exact bodyPost_ret (v:=.tuple #[.agg #[.int .i64 0,.int .i64 0],.int .i64 10]) (by simp[results,results13,go_sem,e0,e1]) rfl ⟨rfl,hbe⟩
end Go.Proofs.YtkkpppgfoilgmaaGreatDoor
