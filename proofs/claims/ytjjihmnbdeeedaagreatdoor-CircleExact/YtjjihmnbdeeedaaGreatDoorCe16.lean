/- Parts of the proof. -/
import Derived.Test.YtjjihmnbdeeedaaGreatDoorCe15
import Derived.Test.YtjjihmnbdeeedaaGreatDoorCe9
import Derived.Test.YtjjihmnbdeeedaaGreatDoorCe2
import Derived.Test.YtjjihmnbdeeedaaGreatDoorCe3
import Derived.Test.YtjjihmnbdeeedaaGreatDoorCe10
import Derived.ArgAppend
import Derived.Test.YtjjihmnbdeeedaaGreatDoorCe4
import Derived.Test.YtjjihmnbdeeedaaGreatDoorCe1
import Derived.Test.YtjjihmnbdeeedaaGreatDoorCe7
import Derived.Test.YtjjihmnbdeeedaaGreatDoorCe6
import Derived.Lib.AppendZerosOnto
import Derived.Test.YtjjihmnbdeeedaaGreatDoorCe8
set_option linter.unusedVariables false
set_option linter.unusedSimpArgs false
namespace Go.Proofs.YtjjihmnbdeeedaaGreatDoor
open Go Go.RowKit Go.Proofs.YtjjihmnbdeeedaaGreatDoor.M
theorem cr_tot {S V a b c A0 A1 B0 B1 C0 C1:Int} (h:V*S*S=a*(B0*C1-C0*B1)+b*(C0*A1-A0*C1)+c*(A0*B1-B0*A1)) (ha:a*S=A0*A0+A1*A1) (hb:b*S=B0*B0+B1*B1) (hc:c*S=C0*C0+C1*C1) :
    V*S*S*S=(A0*A0+A1*A1)*(B0*C1-C0*B1)+(B0*B0+B1*B1)*(C0*A1-A0*C1)+(C0*C0+C1*C1)*(A0*B1-B0*A1):=by
  rw [h,<- ha,<- hb,<- hc]
  grind
set_option maxRecDepth 100000 in
set_option maxHeartbeats 8000000 in
theorem r11exact_any {px py:Nat->Int} (hx:∀ i,rng (px i)) (hy:∀ i,rng (py i)) (hpx:∀ i,i<4->pok (px i)=true) (hpy:∀ i,i<4->pok (py i)=true) (w:World) :
    Calls Tryz.prog 15 #[.agg #[.int .i64 (px 0),.int .i64 (py 0)],.agg #[.int .i64 (px 1),.int .i64 (py 1)],.agg #[.int .i64 (px 2),.int .i64 (py 2)],.agg #[.int .i64 (px 3),.int .i64 (py 3)]] w fun r w'=>∃ v V,r=.returned v∧DAn w.heap.size w' V v∧Below w.heap.size w w'∧V*2^4194304*2^4194304*2^4194304=cdet (cwX px) (cwX py)∧Bd 4304 V:=by
  have R0:Hid (∀ W,Calls Tryz.prog 30 #[.agg #[.int .i64 (px 0),.int .i64 (py 0)],.agg #[.int .i64 (px 3),.int .i64 (py 3)]] W fun r w'=>∃ x_g x_o x_n x_c x_e y_g y_o y_n y_c y_e q_g q_o q_n q_c q_e V,r=.returned (.agg #[.bool x_g,.slice x_o x_n x_c,.int .i64 x_e,.bool y_g,.slice y_o y_n y_c,.int .i64 y_e,.bool q_g,.slice q_o q_n q_c,.int .i64 q_e])∧DAn W.heap.size w' (cwX px 0) (.agg #[.bool x_g,.slice x_o x_n x_c,.int .i64 x_e])∧DAn W.heap.size w' (cwX py 0) (.agg #[.bool y_g,.slice y_o y_n y_c,.int .i64 y_e])∧DAn W.heap.size w' V (.agg #[.bool q_g,.slice q_o q_n q_c,.int .i64 q_e])∧Below W.heap.size W w'∧V*2^4194304=(cwX px 0)*(cwX px 0)+(cwX py 0)*(cwX py 0)∧Bd (2*1075+1) V):=fun W=>r11ex (hx _) (hy _) (hx _) (hy _) (hpx _ (by decide)) (hpy _ (by decide)) (hpx _ (by decide)) (hpy _ (by decide)) W
  have ba0:Bd 1075 (cwX px 0):=(bd_pt (hx _) (hpx _ (by decide))).sub (bd_pt (hx _) (hpx _ (by decide))) (by decide)
  have ba1:Bd 1075 (cwX py 0):=(bd_pt (hy _) (hpy _ (by decide))).sub (bd_pt (hy _) (hpy _ (by decide))) (by decide)
  have R1:Hid (∀ W,Calls Tryz.prog 30 #[.agg #[.int .i64 (px 1),.int .i64 (py 1)],.agg #[.int .i64 (px 3),.int .i64 (py 3)]] W fun r w'=>∃ x_g x_o x_n x_c x_e y_g y_o y_n y_c y_e q_g q_o q_n q_c q_e V,r=.returned (.agg #[.bool x_g,.slice x_o x_n x_c,.int .i64 x_e,.bool y_g,.slice y_o y_n y_c,.int .i64 y_e,.bool q_g,.slice q_o q_n q_c,.int .i64 q_e])∧DAn W.heap.size w' (cwX px 1) (.agg #[.bool x_g,.slice x_o x_n x_c,.int .i64 x_e])∧DAn W.heap.size w' (cwX py 1) (.agg #[.bool y_g,.slice y_o y_n y_c,.int .i64 y_e])∧DAn W.heap.size w' V (.agg #[.bool q_g,.slice q_o q_n q_c,.int .i64 q_e])∧Below W.heap.size W w'∧V*2^4194304=(cwX px 1)*(cwX px 1)+(cwX py 1)*(cwX py 1)∧Bd (2*1075+1) V):=fun W=>r11ex (hx _) (hy _) (hx _) (hy _) (hpx _ (by decide)) (hpy _ (by decide)) (hpx _ (by decide)) (hpy _ (by decide)) W
  have bb0:Bd 1075 (cwX px 1):=(bd_pt (hx _) (hpx _ (by decide))).sub (bd_pt (hx _) (hpx _ (by decide))) (by decide)
  have bb1:Bd 1075 (cwX py 1):=(bd_pt (hy _) (hpy _ (by decide))).sub (bd_pt (hy _) (hpy _ (by decide))) (by decide)
  have R2:Hid (∀ W,Calls Tryz.prog 30 #[.agg #[.int .i64 (px 2),.int .i64 (py 2)],.agg #[.int .i64 (px 3),.int .i64 (py 3)]] W fun r w'=>∃ x_g x_o x_n x_c x_e y_g y_o y_n y_c y_e q_g q_o q_n q_c q_e V,r=.returned (.agg #[.bool x_g,.slice x_o x_n x_c,.int .i64 x_e,.bool y_g,.slice y_o y_n y_c,.int .i64 y_e,.bool q_g,.slice q_o q_n q_c,.int .i64 q_e])∧DAn W.heap.size w' (cwX px 2) (.agg #[.bool x_g,.slice x_o x_n x_c,.int .i64 x_e])∧DAn W.heap.size w' (cwX py 2) (.agg #[.bool y_g,.slice y_o y_n y_c,.int .i64 y_e])∧DAn W.heap.size w' V (.agg #[.bool q_g,.slice q_o q_n q_c,.int .i64 q_e])∧Below W.heap.size W w'∧V*2^4194304=(cwX px 2)*(cwX px 2)+(cwX py 2)*(cwX py 2)∧Bd (2*1075+1) V):=fun W=>r11ex (hx _) (hy _) (hx _) (hy _) (hpx _ (by decide)) (hpy _ (by decide)) (hpx _ (by decide)) (hpy _ (by decide)) W
  have bc0:Bd 1075 (cwX px 2):=(bd_pt (hx _) (hpx _ (by decide))).sub (bd_pt (hx _) (hpx _ (by decide))) (by decide)
  have bc1:Bd 1075 (cwX py 2):=(bd_pt (hy _) (hpy _ (by decide))).sub (bd_pt (hy _) (hpy _ (by decide))) (by decide)
  unfold cdet
  clear hx hy hpx hpy
  generalize cwX px 0=A0 at *
  generalize cwX py 0=A1 at *
  generalize cwX px 1=B0 at *
  generalize cwX py 1=B1 at *
  generalize cwX px 2=C0 at *
  generalize cwX py 2=C1 at *
  generalize px 0=s00 at *
  generalize py 0=s01 at *
  generalize px 1=s10 at *
  generalize py 1=s11 at *
  generalize px 2=s20 at *
  generalize py 2=s21 at *
  generalize px 3=s30 at *
  generalize py 3=s31 at *
  obtain ⟨hb0,p0_k,p1_k,p2_k,p3_k,o_k,hsz0⟩:=blks5 w (.cells #[.int .i64 s00,.int .i64 s01] 33) (.cells #[.int .i64 s10,.int .i64 s11] 33) (.cells #[.int .i64 s20,.int .i64 s21] 33) (.cells #[.int .i64 s30,.int .i64 s31] 33) (.cells #[.bool false,.slice none 0 0,.int .i64 0] 40)
  clear hsz0
  go_enter Tryz.func15,Tryz.ntmps15
  go_wp2_with fail
  generalize (((((w.alloc (.cells #[.int .i64 s00,.int .i64 s01] 33)).alloc (.cells #[.int .i64 s10,.int .i64 s11] 33)).alloc (.cells #[.int .i64 s20,.int .i64 s21] 33)).alloc (.cells #[.int .i64 s30,.int .i64 s31] 33)).alloc (.cells #[.bool false,.slice none 0 0,.int .i64 0] 40))=x0 at hb0 p0_k p1_k p2_k p3_k o_k ⊢
  have hs0:=(Array.getElem?_eq_some_iff.1 o_k).1
  have hlt:w.heap.size+4<=x0.heap.size:=by omega
  have KK:∀ W,Below (w.heap.size+4) x0 W->W.cell? ⟨w.heap.size,0,none⟩=some (.int .i64 s00)∧W.cell? ⟨w.heap.size,1,none⟩=some (.int .i64 s01)∧W.cell? ⟨w.heap.size+1,0,none⟩=some (.int .i64 s10)∧W.cell? ⟨w.heap.size+1,1,none⟩=some (.int .i64 s11)∧W.cell? ⟨w.heap.size+2,0,none⟩=some (.int .i64 s20)∧W.cell? ⟨w.heap.size+2,1,none⟩=some (.int .i64 s21)∧W.cell? ⟨w.heap.size+3,0,none⟩=some (.int .i64 s30)∧W.cell? ⟨w.heap.size+3,1,none⟩=some (.int .i64 s31):=fun W hb=>⟨cc_b (blkC p0_k 0 rfl) hb (show w.heap.size<w.heap.size+4 by omega),cc_b (blkC p0_k 1 rfl) hb (show w.heap.size<w.heap.size+4 by omega),cc_b (blkC p1_k 0 rfl) hb (show w.heap.size+1<w.heap.size+4 by omega),cc_b (blkC p1_k 1 rfl) hb (show w.heap.size+1<w.heap.size+4 by omega),cc_b (blkC p2_k 0 rfl) hb (show w.heap.size+2<w.heap.size+4 by omega),cc_b (blkC p2_k 1 rfl) hb (show w.heap.size+2<w.heap.size+4 by omega),cc_b (blkC p3_k 0 rfl) hb (show w.heap.size+3<w.heap.size+4 by omega),cc_b (blkC p3_k 1 rfl) hb (show w.heap.size+3<w.heap.size+4 by omega)⟩
  have hC0:=(bel_refl x0).drew
  go_region_held3 (fun W=>W.cell? ⟨w.heap.size,0,none⟩=some (.int .i64 s00)∧W.cell? ⟨w.heap.size,1,none⟩=some (.int .i64 s01)∧W.cell? ⟨w.heap.size+1,0,none⟩=some (.int .i64 s10)∧W.cell? ⟨w.heap.size+1,1,none⟩=some (.int .i64 s11)∧W.cell? ⟨w.heap.size+2,0,none⟩=some (.int .i64 s20)∧W.cell? ⟨w.heap.size+2,1,none⟩=some (.int .i64 s21)∧W.cell? ⟨w.heap.size+3,0,none⟩=some (.int .i64 s30)∧W.cell? ⟨w.heap.size+3,1,none⟩=some (.int .i64 s31))
    (with_reducible first | assumption | exact KK _ (hC0.mono hlt) | exact KK _ (hC1.mono hlt) | exact KK _ (hC2.mono hlt) | exact KK _ (hC3.mono hlt) | exact KK _ (hC4.mono hlt) | exact KK _ (below_c3 (hC4.mono hlt) (Nat.le_refl _) _ _ _) | fail)
    (first | (go_at_call 29; refine (r11det ka0 ba0 ka1 ba1 ka2 ba2 kb0 bb0 kb1 bb1 kb2 bb2 kc0 bc0 kc1 bc1 kc2 bc2).mono ?_; rintro _ y4 ⟨v,D,rfl,d4,hs4,e4,b4⟩; obtain ⟨n_g,n_o,n_n,n_c,n_e,rfl⟩:=d4.shape; have hC4:=bel_trans hC3 hs4; have rk:=blk_on hC4 o_k; have e0:=blkC rk 0 rfl; have z0:=blkF rk 0; have e1:=blkC rk 1 rfl; have z1:=blkF rk 1; have e2:=blkC rk 2 rfl; have z2:=blkF rk 2) | (go_at_call 30; have _t:=hs2; refine (R2.out _).mono ?_; rintro _ y3 ⟨c0_g,c0_o,c0_n,c0_c,c0_e,c1_g,c1_o,c1_n,c1_c,c1_e,c2_g,c2_o,c2_n,c2_c,c2_e,c2_V,rfl,dc0,dc1,dc2,hs3,ec2,bc2⟩; have hC3:=bel_trans hC2 hs3; have kc0:=dc0.num; have kc1:=dc1.num; have kc2:=dc2.num; have ka0:=ka0.keeps hs3; have ka1:=ka1.keeps hs3; have ka2:=ka2.keeps hs3; have kb0:=kb0.keeps hs3; have kb1:=kb1.keeps hs3; have kb2:=kb2.keeps hs3) | (go_at_call 30; have _t:=hs1; refine (R1.out _).mono ?_; rintro _ y2 ⟨b0_g,b0_o,b0_n,b0_c,b0_e,b1_g,b1_o,b1_n,b1_c,b1_e,b2_g,b2_o,b2_n,b2_c,b2_e,b2_V,rfl,db0,db1,db2,hs2,eb2,bb2⟩; have hC2:=bel_trans hC1 hs2; have kb0:=db0.num; have kb1:=db1.num; have kb2:=db2.num; have ka0:=ka0.keeps hs2; have ka1:=ka1.keeps hs2; have ka2:=ka2.keeps hs2) | (go_at_call 30; refine (R0.out _).mono ?_; rintro _ y1 ⟨a0_g,a0_o,a0_n,a0_c,a0_e,a1_g,a1_o,a1_n,a1_c,a1_e,a2_g,a2_o,a2_n,a2_c,a2_e,a2_V,rfl,da0,da1,da2,hs1,ea2,ba2⟩; have hC1:=bel_trans hC0 hs1; have ka0:=da0.num; have ka1:=da1.num; have ka2:=da2.num))
  go_wp2
  exact bodyPost_ret (v:=.agg #[.bool n_g,.slice n_o n_n n_c,.int .i64 n_e]) (by simp [results,Tryz.results15,go_sem,e0,e1,e2]) rfl ⟨_,D,rfl,dan_res3 (d4.lower (Nat.le_trans hb0.size hC3.size)) rk _ _ _,bel_set3 (bel_trans hb0 hC4) (by omega) _ _ _,cr_tot e4 ea2 eb2 ec2,b4⟩
end Go.Proofs.YtjjihmnbdeeedaaGreatDoor
namespace Go.Proofs.YtjjihmnbdeeedaaGreatDoor
open Go Go.RowKit Go.Proofs.YtjjihmnbdeeedaaGreatDoor.M Ieee
end Go.Proofs.YtjjihmnbdeeedaaGreatDoor
namespace Go.Proofs.YtjjihmnbdeeedaaGreatDoor
open Go Go.RowKit Go.Proofs.YtjjihmnbdeeedaaGreatDoor.M
structure Ls where
  n:Nat
  d:Nat->Int
def Ls.add (s:Ls) (b:Int):Ls:=if rg b=0 then s else ⟨s.n+1,upd s.d s.n b⟩
def Ls.same (s t:Ls):Prop:=s.n=t.n∧∀ i,i<s.n->s.d i=t.d i
theorem Ls.same.add {s t:Ls} (h:s.same t) (b:Int):(s.add b).same (t.add b):=by
  unfold Ls.add
  split
  . exact h
  . refine ⟨by show s.n+1=t.n+1; rw [h.1],fun i hi=>?_⟩
    show upd s.d s.n b i=upd t.d t.n b i
    by_cases e:i=s.n
    . subst e; rw [upd_same,h.1,upd_same]
    . rw [upd_other _ _ e,upd_other _ _ (by rw [<- h.1]; exact e)]
      exact h.2 i (by have:i<s.n+1:=hi; omega)
def gq (d:Nat->Int) (q:Int):Nat->Int
  | 0=>q
  | k+1=>fsum (gq d q k) (d k)
def gl (d:Nat->Int) (q:Int) (k:Nat):Int:=sL (gq d q k) (d k)
def gs (d:Nat->Int) (q:Int):Nat->Ls
  | 0=>⟨0,d⟩
  | k+1=>(gs d q k).add (gl d q k)
def gx (d:Nat->Int) (q:Int):Nat->Bool
  | 0=>true
  | k+1=>gx d q k && pok (gl d q k)
structure Own (B:Nat) (w:World) (v:Value) (w':World) (v':Value) (s:Ls):Prop where
  out:Out B w' v' s.n s.d
  gr:w.grownBy w' v.ownBlock
  at':v'.ownBlock=v.ownBlock∨∀ k,v'.ownBlock=some k->w.heap.size<=k
theorem Own.refl {B:Nat} {w:World} {v:Value} {s:Ls} (h:Out B w v s.n s.d):Own B w v w v s:=⟨h,World.grownBy.refl _ _,.inl rfl⟩
theorem Own.below {B:Nat} {w w':World} {v v':Value} {s:Ls} (h:Own B w v w' v' s) (hO:∀ k,v.ownBlock=some k->B<=k) (hB:B<=w.heap.size):Below B w w' :=
  (Below.refl B w).grown h.gr hB hO
def InB (w:World) (g cap N:Nat) (s:Ls):Prop:=∃ cur,w.heap[g]?=some (.cells cur 3 (0,0))∧cur.size=cap∧∀ i,i<N->cur[i]?=some (.int .i64 (s.d i))
theorem InB.keeps {w w':World} {g cap N:Nat} {s:Ls} (h:InB w g cap N s) (hb:Below w.heap.size w w'):InB w' g cap N s:=by
  obtain ⟨cur,h1,h2⟩:=h
  exact ⟨cur,(hb.block _ (Array.getElem?_eq_some_iff.1 h1).1).trans h1,h2⟩
theorem InB.out {w:World} {B g cap N:Nat} {s:Ls} (h:InB w g cap N s) (hn:s.n<=N) (hN:N<=cap) (hB:B<=g) (hm:cap<=9223372036854775807):Out B w (.slice (some ⟨g,0,none⟩) s.n cap) s.n s.d:=by
  obtain ⟨cur,h1,h2,h3⟩:=h
  refine ⟨by rw [vals_length]; omega,.inr ⟨g,cap,cur,rfl,hB,h1,by omega,by unfold maxLen; omega,by omega,?_⟩⟩
  apply vals_ext (by simp; omega)
  intro i hi
  rw [List.getElem?_take,if_pos (by omega),Array.getElem?_toList]
  exact h3 i (by omega)
theorem grown_bel {B:Nat} {w w':World} {g:Nat} (h:w.grownBy w' (some g)) (hB:B<=g) (hw:B<=w.heap.size):Below B w w' :=
  (Below.refl B w).grown h hw (fun k hk=>by simp at hk; omega)
def LsO (B:Nat) (w:World) (v:Value) (s:Ls):Prop:=Out B w v s.n s.d∨(s.n=0∧∃ ad,v=.slice (some ad) 0 0)
def XGr (B:Nat) (w:World) (v:Value) (w':World):Prop:=w.grownBy w' none∨∃ k,v.ownBlock=some k∧B<=k∧w.grownBy w' (some k)
theorem XGr.below {B:Nat} {w w':World} {v:Value} (h:XGr B w v w') (hB:B<=w.heap.size):Below B w w':=by
  rcases h with h | ⟨k,_,hk,h⟩
  . exact (Below.refl B w).grown h hB (fun k hk=>by cases hk)
  . exact grown_bel h hk hB
theorem XGr.size {B:Nat} {w w':World} {v:Value} (h:XGr B w v w'):w.heap.size<=w'.heap.size:=by
  rcases h with h | ⟨k,_,_,h⟩ <;> exact h.size
theorem LsO.lower {B B':Nat} {w:World} {v:Value} {s:Ls} (h:LsO B w v s) (hB:B'<=B):LsO B' w v s:=by
  rcases h with h | h
  . exact .inl (h.lower hB)
  . exact .inr h
def Ls.fin (s:Ls):Prop:=∀ i,i<s.n->rng (s.d i)∧pok (s.d i)=true
theorem Ls.fin.add {s:Ls} (h:s.fin) {b:Int} (hb:rng b) (pb:pok b=true):(s.add b).fin:=by
  unfold Ls.add
  split
  . exact h
  . intro i hi
    show rng (upd s.d s.n b i)∧pok (upd s.d s.n b i)=true
    by_cases e:i=s.n
    . subst e; rw [upd_same]; exact ⟨hb,pb⟩
    . rw [upd_other _ _ e]
      exact h i (by have:i<s.n+1:=hi; omega)
theorem LsO.shape {B:Nat} {w:World} {v:Value} {s:Ls} (h:LsO B w v s):∃ ao cap,v=.slice ao s.n cap:=by
  rcases h with h | ⟨h0,ad,rfl⟩
  . obtain ⟨ao,cap,e,_⟩:=h.row
    exact ⟨ao,cap,e⟩
  . exact ⟨some ad,0,by rw [h0]⟩
def sq (d:Nat->Int) (b:Int):Nat->Int
  | 0=>fprod (d 0) b
  | k+1=>fsum (fprod (d (k+1)) b) (fsum (sq d b k) (prL (d (k+1)) b))
def sx (d:Nat->Int) (b:Int):Nat->Bool
  | 0=>pX (d 0) b
  | k+1=>sx d b k && (pX (d (k+1)) b && (pok (sL (sq d b k) (prL (d (k+1)) b)) && fX (fprod (d (k+1)) b) (fsum (sq d b k) (prL (d (k+1)) b))))
def XA (w:World) (ok:Bool) (s:Ls) (r:Ending) (w':World):Prop:=((ok=true∧∃ v,r=.returned (.tuple #[v,.int .i64 0])∧LsO w.heap.size w' v s)∨(ok=false∧r=.returned (.tuple #[.slice none 0 0,.int .i64 14])))∧Below w.heap.size w w'
end Go.Proofs.YtjjihmnbdeeedaaGreatDoor
namespace Go.Proofs.YtjjihmnbdeeedaaGreatDoor
open Go Go.RowKit Go.Proofs.YtjjihmnbdeeedaaGreatDoor.M Ieee
end Go.Proofs.YtjjihmnbdeeedaaGreatDoor
namespace Go.Proofs.YtjjihmnbdeeedaaGreatDoor
open Go Go.RowKit Go.Proofs.YtjjihmnbdeeedaaGreatDoor.M
theorem LsO.row {B:Nat} {w:World} {v:Value} {s:Ls} (h:LsO B w v s):∃ ao cap,v=.slice ao s.n cap∧Row w ao s.n cap s.d:=by
  rcases h with h | ⟨h0,ad,rfl⟩
  . exact h.row
  . rw [h0]
    exact ⟨some ad,0,rfl,Nat.le_refl _,by decide,(fun q=>by cases q),fun q=>by omega⟩
theorem XA.yes {w w':World} {ok:Bool} {s:Ls} {r:Ending} (h:XA w ok s r w') (ho:ok=true):∃ ao cap,r=.returned (.tuple #[.slice ao s.n cap,.int .i64 0])∧Row w' ao s.n cap s.d∧Below w.heap.size w w':=by
  obtain ⟨(⟨_,v,h1,h2⟩ | ⟨h1,_⟩),hb⟩:=h
  . obtain ⟨ao,cap,rfl,hR⟩:=h2.row
    exact ⟨ao,cap,h1,hR,hb⟩
  . rw [ho] at h1; cases h1
theorem XA.no {w w':World} {ok:Bool} {s:Ls} {r:Ending} (h:XA w ok s r w') (ho:ok=false):r=.returned (.tuple #[.slice none 0 0,.int .i64 14])∧Below w.heap.size w w':=by
  obtain ⟨(⟨h1,_⟩ | ⟨_,h1⟩),hb⟩:=h
  . rw [ho] at h1; cases h1
  . exact ⟨h1,hb⟩
end Go.Proofs.YtjjihmnbdeeedaaGreatDoor
namespace Go.Proofs.YtjjihmnbdeeedaaGreatDoor
open Go Go.RowKit Go.Proofs.YtjjihmnbdeeedaaGreatDoor.M Ieee
theorem pr_1 {a b h M:Int} (h1:((a.natAbs:Int)+b.natAbs)<=M):((a+b).natAbs:Int)<=M:=by omega
theorem pr_2 {a b h M:Int} (ha:2*(a.natAbs:Int)<=M) (hb:2*(b.natAbs:Int)<=M) (e1:(h-(a+b)).natAbs<=(a-(a+b)).natAbs):((h-a).natAbs:Int)<=M:=by omega
theorem pr_3 {a b h v M:Int} (ha:2*(a.natAbs:Int)<=M) (e2:(h-(a+b)).natAbs<=(b-(a+b)).natAbs) (e3:(v-(h-a)).natAbs<=(b-(h-a)).natAbs):((h-v).natAbs:Int)<=M:=by omega
theorem pr_4 {a b h v u M:Int} (ha:2*(a.natAbs:Int)<=M) (e2:(h-(a+b)).natAbs<=(b-(a+b)).natAbs) (e3:(v-(h-a)).natAbs<=(b-(h-a)).natAbs) (e4:(u-(h-v)).natAbs<=(a-(h-v)).natAbs):((a-u).natAbs:Int)<=M∧(a-u).natAbs<=2*(h-(a+b)).natAbs:=by omega
theorem pr_5 {a b h v M:Int} (hb:2*(b.natAbs:Int)<=M) (e1:(h-(a+b)).natAbs<=(a-(a+b)).natAbs) (e3:(v-(h-a)).natAbs<=(b-(h-a)).natAbs):((b-v).natAbs:Int)<=M∧(b-v).natAbs<=2*(h-(a+b)).natAbs:=by omega
theorem pr_6 {S h x y p q M:Int} (hM:(S.natAbs:Int)<=M) (r:1000*(h-S).natAbs<=S.natAbs) (g1:x.natAbs<=2*(h-S).natAbs) (g2:y.natAbs<=2*(h-S).natAbs) (n1:(p-x).natAbs<=(0-x).natAbs) (n2:(q-y).natAbs<=(0-y).natAbs):((p+q).natAbs:Int)<=M:=by omega
theorem sum_fin {p q:Int} (hp:M.rng p) (hq:M.rng q) (pp:pok p=true) (pq:pok q=true) (h1:2*((iV p).natAbs:Int)<=maxV) (h2:2*((iV q).natAbs:Int)<=maxV):pok (fsum p q)=true∧pok (sL p q)=true:=by
  have rh:=fsum_rng hp hq
  have rv:M.rng (sV p q):=fsum_rng rh (neg_rng hp)
  have rU:=fsum_rng rh (neg_rng rv)
  have rX:=fsum_rng hp (neg_rng rU)
  have rY:=fsum_rng hq (neg_rng rv)
  have Sh:=stp_sum hp hq pp pq
  have hM:=pr_1 (h:=0) (a:=iV p) (b:=iV q) (M:=maxV) (by omega)
  have ph:=Sh.fin hM
  have nh:=Sh.nr ph
  have e1:=nh.2 _ (fl_iV p)
  have e2:=nh.2 _ (fl_iV q)
  have Sv:=stp_diff rh hp ph pp
  have pv:=Sv.fin (pr_2 h1 h2 e1)
  have nv:=Sv.nr pv
  have e3:=nv.2 _ (fl_iV q)
  have SU:=stp_diff rh rv ph pv
  have pU:=SU.fin (pr_3 h1 e2 e3)
  have e4:=(SU.nr pU).2 _ (fl_iV p)
  have SX:=stp_diff hp rU pp pU
  obtain ⟨g1,g2⟩:=pr_4 h1 e2 e3 e4
  have pX:=SX.fin g1
  have SY:=stp_diff hq rv pq pv
  obtain ⟨g3,g4⟩:=pr_5 h2 e1 e3
  have pY:=SY.fin g3
  exact ⟨ph,(stp_sum rX rY pX pY).fin (pr_6 hM (nr_rel nh) g2 g4 ((SX.nr pX).2 _ fl_zero) ((SY.nr pY).2 _ fl_zero))⟩
end Go.Proofs.YtjjihmnbdeeedaaGreatDoor
namespace Go.Proofs.YtjjihmnbdeeedaaGreatDoor
open Go Go.RowKit Go.Proofs.YtjjihmnbdeeedaaGreatDoor.M
theorem cls_nought {b:Int} (hb:rng b):cls b=0 ↔ rg b=0:=by
  have h1:=q_cls hb
  rw [<- h1]
  constructor
  . intro h
    have hr:=(q_rg hb).1
    have h0:0<=rg b:=(q_rg hb).2
    generalize rg b=r at *
    unfold rng at hr
    unfold cls fld frc at h
    split at h
    . split at h <;> omega
    . split at h
      . split at h
        . omega
        . omega
      . omega
  . intro h; rw [h]; decide
theorem Ls.same.refl (s:Ls):s.same s:=⟨rfl,fun _ _=>rfl⟩
theorem Ls.same.symm {s t:Ls} (h:s.same t):t.same s:=⟨h.1.symm,fun i hi=>(h.2 i (by rw [h.1]; exact hi)).symm⟩
theorem Ls.same.trans {s t u:Ls} (h:s.same t) (k:t.same u):s.same u:=⟨h.1.trans k.1,fun i hi=>(h.2 i hi).trans (k.2 i (by rw [<- h.1]; exact hi))⟩
def Lo (x y:Int):Prop:=∃ s:Nat,(x.natAbs:Int)<2^s∧(2^s:Int) ∣ y
theorem dvd_abs_le {x y:Int} (h:x ∣ y) (h0:y≠0) (hx:0<x):x<=(y.natAbs:Int):=by
  have h1:x ∣ (y.natAbs:Int):=Int.dvd_natAbs.2 h
  exact Int.le_of_dvd (by omega) h1
theorem Lo.trans {x y z:Int} (h:Lo x y) (hy:y≠0) (k:Lo y z):Lo x z:=by
  obtain ⟨s,h1,h2⟩:=h
  obtain ⟨t,k1,k2⟩:=k
  have h3:=dvd_abs_le h2 hy (p2 s)
  have h4:s<t:=p2lt (Int.lt_of_le_of_lt h3 k1)
  exact ⟨s,h1,Int.dvd_trans (p2dvd (by omega)) k2⟩
theorem iV_nought {b:Int} (hb:rng b) (h:rg b=0):iV b=0:=by
  have:=iV_abs b
  rw [h] at this
  have h2:(V Ieee.double (0:Int).toNat:Int)=0:=by decide +kernel
  omega
theorem iV_some {b:Int} (hb:rng b) (pb:pok b=true) (h:rg b≠0):iV b≠0∧pmag b≠0:=by
  have e:=iV_form hb pb
  have hm:pmag b≠0:=by
    intro q
    have hc:cls b=0:=by
      have hf:fld b≠2047:=by simpa [pok] using pb
      have:=frc_le b
      unfold pmag at q
      rw [if_neg hf] at q
      unfold cls
      rw [if_neg hf]
      by_cases h0:fld b=0
      . rw [if_pos h0] at q ⊢
        rw [if_pos q]
      . rw [if_neg h0] at q
        omega
    exact h ((cls_nought hb).1 hc)
  refine ⟨fun q=>?_,hm⟩
  obtain ⟨i0,_⟩:=pmag_in pb
  have p1:=two_pos (pexp b+1074).toNat
  have:0<pmag b*2^(pexp b+1074).toNat:=Int.mul_pos (by omega) p1
  rw [q] at e
  omega
structure XV (d:Nat->Int) (n:Nat):Prop where
  fin:∀ i,i<n->rng (d i)∧pok (d i)=true∧rg (d i)≠0
  lo:∀ i,i+1<n->Lo (iV (d i)) (iV (d (i+1)))
theorem XV.ne {d:Nat->Int} {n:Nat} (h:XV d n) {i:Nat} (hi:i<n):iV (d i)≠0:=(iV_some (h.fin i hi).1 (h.fin i hi).2.1 (h.fin i hi).2.2).1
theorem XV.far {d:Nat->Int} {n:Nat} (h:XV d n) {i:Nat}:∀ {j},i<j->j<n->Lo (iV (d i)) (iV (d j))
  | 0,hij,_=>absurd hij (Nat.not_lt_zero _)
  | j+1,hij,hj=>by
    by_cases e:i=j
    . subst e; exact h.lo i hj
    . exact (h.far (show i<j by omega) (by omega)).trans (h.ne (by omega)) (h.lo j hj)
theorem XV.add {s:Ls} (h:XV s.d s.n) {b:Int} (hb:rng b) (pb:pok b=true) (hlo:∀ i,i<s.n->Lo (iV (s.d i)) (iV b)):XV (s.add b).d (s.add b).n:=by
  unfold Ls.add
  split
  . exact h
  . rename_i hz
    refine ⟨fun i hi=>?_,fun i hi=>?_⟩
    . show rng (upd s.d s.n b i)∧pok (upd s.d s.n b i)=true∧rg (upd s.d s.n b i)≠0
      by_cases e:i=s.n
      . subst e; rw [upd_same]; exact ⟨hb,pb,hz⟩
      . rw [upd_other _ _ e]; exact h.fin i (by have:i<s.n+1:=hi; omega)
    . have hi':i+1<s.n+1:=hi
      show Lo (iV (upd s.d s.n b i)) (iV (upd s.d s.n b (i+1)))
      rw [upd_other _ _ (show i≠s.n by omega)]
      by_cases e:i+1=s.n
      . rw [e,upd_same]; exact hlo i (by omega)
      . rw [upd_other _ _ e]; exact h.lo i (by omega)
theorem fsum_nr {p q:Int} (hp:rng p) (hq:rng q) (h:pok (sL p q)=true):Nr (iV p+iV q) (iV (fsum p q)):=by
  obtain ⟨⟨pp,pq⟩,ps,e⟩:=sL_exact hp hq h
  exact (stp_sum hp hq pp pq).nr ps
theorem maxV_ge:(2:Int)^2097<=maxV:=by
  have h:(2:Int)^2097<=(V Ieee.double 9218868437227405311:Int):=by decide +kernel
  exact h
theorem p2_up {b c:Nat} {x:Int} (h:(x.natAbs:Int)<=2^b) (hbc:b<=c):(x.natAbs:Int)<=2^c:=Int.le_trans h (p2le hbc)
def LB (s:Ls) (b:Nat):Prop:=∀ i,i<s.n->((iV (s.d i)).natAbs:Int)<=2^b
theorem LB.add {s:Ls} {b:Nat} (h:LB s b) {x:Int} (hx:((iV x).natAbs:Int)<=2^b):LB (s.add x) b:=by
  unfold Ls.add
  split
  . exact h
  . intro i hi
    show ((iV (upd s.d s.n x i)).natAbs:Int)<=_
    by_cases e:i=s.n
    . subst e; rw [upd_same]; exact hx
    . rw [upd_other _ _ e]; exact h i (by have:i<s.n+1:=hi; omega)
theorem XV.fn {s:Ls} (h:XV s.d s.n):s.fin:=fun i hi=>⟨(h.fin i hi).1,(h.fin i hi).2.1⟩
def PB (P:Nat->Prop) (w:World):Prop:=∀ k,P k->k<w.heap.size
structure BelP (P:Nat->Prop) (w w':World):Prop where
  os:w'.os=w.os
  tape:w'.tape=w.tape
  output:w'.output=w.output
  size:w.heap.size<=w'.heap.size
  block:∀ k,P k->w'.heap[k]?=w.heap[k]?
theorem BelP.refl (P:Nat->Prop) (w:World):BelP P w w:=⟨rfl,rfl,rfl,Nat.le_refl _,fun _ _=>rfl⟩
theorem BelP.trans {P:Nat->Prop} {a b c:World} (h:BelP P a b) (k:BelP P b c):BelP P a c :=
  ⟨k.os.trans h.os,k.tape.trans h.tape,k.output.trans h.output,Nat.le_trans h.size k.size,fun i hi=>(k.block i hi).trans (h.block i hi)⟩
theorem BelP.of {P:Nat->Prop} {w w':World} (h:Below w.heap.size w w') (hP:PB P w):BelP P w w':=⟨h.os,h.tape,h.output,h.size,fun k hk=>h.block k (hP k hk)⟩
theorem PB.le {P:Nat->Prop} {w w':World} (h:PB P w) (hs:w.heap.size<=w'.heap.size):PB P w':=fun k hk=>Nat.lt_of_lt_of_le (h k hk) hs
def OutP (P:Nat->Prop) (w:World) (v:Value) (s:Ls):Prop:=Out 0 w v s.n s.d∧∀ k,v.ownBlock=some k->¬ P k
theorem OutP.shape {P:Nat->Prop} {w:World} {v:Value} {s:Ls} (h:OutP P w v s):∃ ao cap,v=.slice ao s.n cap:=by
  obtain ⟨ao,cap,e,_⟩:=h.1.row
  exact ⟨ao,cap,e⟩
theorem OutP.stays {P:Nat->Prop} {w w':World} {v:Value} {s:Ls} (h:OutP P w v s) (hb:Below w.heap.size w w'):OutP P w' v s:=⟨h.1.stays hb,h.2⟩
theorem OutP.gr {P:Nat->Prop} {w w':World} {v:Value} {s:Ls} (h:OutP P w v s) (hP:PB P w) (g:w.grownBy w' v.ownBlock):BelP P w w' :=
  ⟨g.os,g.tape,g.output,g.size,fun k hk=>g.block k (hP k hk) fun e=>h.2 k e.symm hk⟩
theorem Ls.same.fin {s t:Ls} (h:s.same t) (ht:t.fin):s.fin:=fun i hi=>by
  rw [h.2 i hi]
  exact ht i (by rw [<- h.1]; exact hi)
theorem BelP.below {P:Nat->Prop} {N:Nat} {w w':World} (h:BelP P w w') (hP:∀ k,k<N->P k):Below N w w':=⟨h.os,h.tape,h.output,h.size,fun k hk=>h.block k (hP k hk)⟩
theorem OutP.raise {P:Nat->Prop} {N:Nat} {w:World} {v:Value} {s:Ls} (h:OutP P w v s) (hP:∀ k,k<N->P k):Out N w v s.n s.d:=by
  have h1:=h.1
  rcases h1.2 with q | ⟨g,cap,cur,q1,_,q3⟩
  . exact ⟨h1.1,.inl q⟩
  . refine ⟨h1.1,.inr ⟨g,cap,cur,q1,?_,q3⟩⟩
    have h2:=h.2 g (by rw [q1]; rfl)
    exact Nat.le_of_not_lt fun e=>h2 (hP g e)
end Go.Proofs.YtjjihmnbdeeedaaGreatDoor
namespace Go.Proofs.YtjjihmnbdeeedaaGreatDoor
open Go Go.RowKit Go.Proofs.YtjjihmnbdeeedaaGreatDoor.M Ieee
end Go.Proofs.YtjjihmnbdeeedaaGreatDoor
namespace Go.Proofs.YtjjihmnbdeeedaaGreatDoor
open Go Go.RowKit Go.Proofs.YtjjihmnbdeeedaaGreatDoor.M
def Mz (x:Int):Prop:=rng x∧pok x=true∧(2^872:Int) ∣ iV x∧((iV x).natAbs:Int)<=2^1224
theorem tame_Mz {x:Int} (hx:rng x) (ht:tame x=true):Mz x:=by
  rw [tame_fld hx] at ht
  by_cases h0:rg x=0
  . have hc:=(cls_nought hx).2 h0
    have hp:pok x=true:=by
      cases hp:pok x
      . exfalso
        have hf:fld x=2047:=by simpa [pok] using hp
        unfold cls at hc
        rw [if_pos hf] at hc
        split at hc <;> omega
      . rfl
    rw [Mz,iV_nought hx h0]
    exact ⟨hx,hp,⟨0,by rw [Int.mul_zero]⟩,by have:=p2 1224; show (((0:Int).natAbs:Nat):Int)<=_; omega⟩
  . have hz:decide (rg x=0)=false:=decide_eq_false h0
    rw [hz,Bool.false_or,Bool.and_eq_true] at ht
    have h1:=of_decide_eq_true ht.1
    have h2:=of_decide_eq_true ht.2
    have hf0:fld x≠2047:=by omega
    have hf1:fld x≠0:=by omega
    have hp:pok x=true:=by simp [pok,hf0]
    have hfr:=frc_le x
    have e1:pmag x=4503599627370496+frc x:=by unfold pmag; rw [if_neg hf0,if_neg hf1]
    have e2:pexp x=fld x-1075:=by unfold pexp; rw [if_neg hf0,if_neg hf1]
    have hm:pmag x<=2^53:=by
      rw [e1]
      show _<=9007199254740992
      omega
    refine ⟨hx,hp,?_,?_⟩
    . apply Int.dvd_natAbs.1
      rw [iV_form hx hp]
      exact Int.dvd_trans (p2dvd (show 872<=(pexp x+1074).toNat by rw [e2]; omega)) ⟨pmag x,by rw [Int.mul_comm]⟩
    . rw [iV_form hx hp]
      have p1:(2:Int)^(pexp x+1074).toNat<=2^1171:=p2le (by rw [e2]; omega)
      have p0:=p2 (pexp x+1074).toNat
      calc pmag x*2^(pexp x+1074).toNat<=2^53*2^(pexp x+1074).toNat:=Int.mul_le_mul_of_nonneg_right hm (by omega)
        _<=2^53*2^1171:=Int.mul_le_mul_of_nonneg_left p1 (by decide)
        _=2^1224:=by rw [<- Int.pow_add]
def Un (S h:Int):Prop:=9007199254740992*((h-S).natAbs:Int)<=(S.natAbs:Int)∧9007199254740992*((h-S).natAbs:Int)<=(h.natAbs:Int)
theorem nr_Un_pos {S h:Int} (n:Nr S h) (h0:0<=S):Un S h:=by
  obtain ⟨k,h1,h2⟩:=binade S h0
  rcases h2 with h2 | h2
  . subst h2
    have e:=nr_self ⟨0,⟨S,by rw [Int.pow_zero]; omega⟩,by omega⟩ n
    subst e
    rw [Un,Int.sub_self]
    simp
  . have c:=nr_err n (i:=k) (by omega)
    have g:=nr_ge n (fl_p2 k (m:=4503599627370496) (by decide)) h2
    have p0:=p2 k
    generalize (2:Int)^k=q at *
    have g':4503599627370496*q<=h:=g
    constructor <;> omega
theorem nr_Un {S h:Int} (n:Nr S h):Un S h:=by
  by_cases h0:0<=S
  . exact nr_Un_pos n h0
  . have:=nr_Un_pos n.neg (by omega)
    unfold Un at *
    omega
theorem Un.scale {S h:Int} (u:Un S h) {c:Int} (hc:0<=c):Un (c*S) (c*h):=by
  have e:∀ x:Int,((c*x).natAbs:Int)=c*(x.natAbs:Int):=fun x=>by
    rw [Int.natAbs_mul,Int.natCast_mul]
    congr 1
    omega
  rw [Un,<- Int.mul_sub,e,e,e,<- Int.mul_assoc,Int.mul_comm 9007199254740992 c,Int.mul_assoc]
  exact ⟨Int.mul_le_mul_of_nonneg_left u.1 hc,Int.mul_le_mul_of_nonneg_left u.2 hc⟩
theorem abs_mul (x y:Int):((x*y).natAbs:Int)=(x.natAbs:Int)*(y.natAbs:Int):=by rw [Int.natAbs_mul,Int.natCast_mul]
theorem part_l {u e v:Int} (h:9007199254740992*(e.natAbs:Int)<=(u.natAbs:Int)):9007199254740992*((e*v).natAbs:Int)<=((u*v).natAbs:Int):=by
  rw [abs_mul,abs_mul,<- Int.mul_assoc]
  exact Int.mul_le_mul_of_nonneg_right h (by omega)
theorem part_r {u e v:Int} (h:9007199254740992*(e.natAbs:Int)<=(u.natAbs:Int)):9007199254740992*((v*e).natAbs:Int)<=((v*u).natAbs:Int):=by
  rw [Int.mul_comm v e,Int.mul_comm v u]
  exact part_l h
theorem dev_prod {x y u v:Int} (hu:Un x u) (hv:Un y v):81129638414606681695789005144064*((x*y-u*v).natAbs:Int)<=18014398509481985*((u*v).natAbs:Int):=by
  obtain ⟨e,he⟩:∃ e,x=u+e:=⟨x-u,by omega⟩
  obtain ⟨f,hf⟩:∃ f,y=v+f:=⟨y-v,by omega⟩
  have h1:9007199254740992*(e.natAbs:Int)<=(u.natAbs:Int):=by have:=hu.2; omega
  have h2:9007199254740992*(f.natAbs:Int)<=(v.natAbs:Int):=by have:=hv.2; omega
  have a1:=part_l (v:=v) h1
  have a2:=part_r (v:=u) h2
  have a3:=part_r (v:=e) h2
  have ee:x*y-u*v=u*f+e*v+e*f:=by
    rw [he,hf,Int.add_mul,Int.mul_add,Int.mul_add]
    omega
  rw [ee]
  generalize u*f=A at *
  generalize e*v=B at *
  generalize e*f=C at *
  generalize u*v=D at *
  omega
theorem kf_ch {a b c d X Y Z:Int} (hb:0<=b) (hc:0<=c) (h1:a*X<=b*Y) (h2:c*Y<=d*Z):(c*a)*X<=(b*d)*Z:=by
  have a1:=Int.mul_le_mul_of_nonneg_left h1 hc
  have a2:=Int.mul_le_mul_of_nonneg_left h2 hb
  rw [Int.mul_assoc,Int.mul_assoc]
  refine Int.le_trans a1 (Int.le_trans (Int.le_of_eq ?_) a2)
  rw [<- Int.mul_assoc,<- Int.mul_assoc,Int.mul_comm c b]
structure Dv (k c X x Q:Int):Prop where
  q:0<=Q
  d:1152921504606846976*(9007199254740992*((X-x).natAbs:Int))<=k*Q
  s:1152921504606846976*(x.natAbs:Int)<=c*Q
theorem Dv.neg {k c X x Q:Int} (h:Dv k c X x Q):Dv k c (-X) (-x) Q:=by
  obtain ⟨q,d,s⟩:=h
  refine ⟨q,?_,by rwa [Int.natAbs_neg]⟩
  rw [show -X - -x=-(X-x) by omega,Int.natAbs_neg]
  exact d
theorem Dv.up {k c k' c' X x Q:Int} (h:Dv k c X x Q) (hk:k<=k') (hc:c<=c'):Dv k' c' X x Q :=
  ⟨h.q,Int.le_trans h.d (Int.mul_le_mul_of_nonneg_right hk h.q),Int.le_trans h.s (Int.mul_le_mul_of_nonneg_right hc h.q)⟩
theorem un_sz {S t:Int} (u:Un S t):9007199254740992*(t.natAbs:Int)<=(9007199254740992+1)*(S.natAbs:Int):=by
  have:=u.1
  omega
theorem un_df {X S t:Int} (u:Un S t):((X-t).natAbs:Int)<=((X-S).natAbs:Int)+((t-S).natAbs:Int)∧9007199254740992*((t-S).natAbs:Int)<=(S.natAbs:Int):=⟨by omega,u.1⟩
theorem dv_sum0 {k c X x Q Y y R:Int} (hx:Dv k c X x Q) (hy:Dv k c Y y R):Dv k c (X+Y) (x+y) (Q+R):=by
  obtain ⟨q0,d1,s1⟩:=hx
  obtain ⟨r0,d2,s2⟩:=hy
  refine ⟨by omega,?_,?_⟩
  . rw [Int.mul_add]
    have:((X+Y-(x+y)).natAbs:Int)<=((X-x).natAbs:Int)+((Y-y).natAbs:Int):=by omega
    generalize k*Q=a at *
    generalize k*R=b at *
    omega
  . rw [Int.mul_add]
    have:((x+y).natAbs:Int)<=(x.natAbs:Int)+(y.natAbs:Int):=by omega
    generalize c*Q=a at *
    generalize c*R=b at *
    omega
theorem dv_rnd {k c K C X x Q t:Int} (hx:Dv k c X x Q) (u:Un x t) (h:k+c<=K) (h2:(9007199254740992+1)*c<=9007199254740992*C):Dv K C X t Q:=by
  obtain ⟨q0,d1,s1⟩:=hx
  obtain ⟨t1,t2⟩:=un_df (X:=X) u
  have t3:=un_sz u
  have a1:=Int.mul_le_mul_of_nonneg_right h q0
  have a2:=Int.mul_le_mul_of_nonneg_right h2 q0
  rw [Int.add_mul] at a1
  rw [Int.mul_assoc,Int.mul_assoc] at a2
  refine ⟨q0,?_,?_⟩
  . generalize k*Q=a at *
    generalize c*Q=b at *
    generalize K*Q=e at *
    omega
  . generalize c*Q=b at *
    generalize C*Q=e at *
    omega
theorem dv_add {k c K C X x Q Y y R t:Int} (hx:Dv k c X x Q) (hy:Dv k c Y y R) (u:Un (x+y) t) (h:k+c<=K) (h2:(9007199254740992+1)*c<=9007199254740992*C):Dv K C (X+Y) t (Q+R):=dv_rnd (dv_sum0 hx hy) u h h2
theorem dv_sub {k c K C X x Q Y y R t:Int} (hx:Dv k c X x Q) (hy:Dv k c Y y R) (u:Un (x-y) t) (h:k+c<=K) (h2:(9007199254740992+1)*c<=9007199254740992*C):Dv K C (X-Y) t (Q+R):=by
  rw [Int.sub_eq_add_neg] at u ⊢
  exact dv_add hx hy.neg u h h2
theorem dv_prod0 {X Y u v L:Int} (hu:Un X u) (hv:Un Y v) (hL:Un (u*v) L):Dv 3458764513820541313 1152921504606846976 (X*Y) L (L.natAbs:Int):=by
  have d:=dev_prod hu hv
  have l2:9007199254740992*((u*v).natAbs:Int)<=9007199254740993*(L.natAbs:Int):=by
    have:=hL.2
    omega
  have d3:=kf_ch (by decide) (by decide) d l2
  have t1:((X*Y-L).natAbs:Int)<=((X*Y-u*v).natAbs:Int)+((L-u*v).natAbs:Int):=by omega
  have t2:=hL.2
  refine ⟨Int.natCast_nonneg _,?_,Int.le_refl _⟩
  have d4:10384593717069655257060992658440192*((X*Y-u*v).natAbs:Int)<=2305843009213694337*(L.natAbs:Int):=by
    have:=Int.mul_le_mul_of_nonneg_left d3 (show (0:Int)<=1152921504606846976 by decide)
    clear d d3 l2 t1 t2
    generalize ((X*Y-u*v).natAbs:Int)=α at *
    have l0:=Int.natCast_nonneg L.natAbs
    generalize (L.natAbs:Int)=l at *
    omega
  generalize ((X*Y-u*v).natAbs:Int)=α at *
  generalize ((L-u*v).natAbs:Int)=ρ at *
  generalize ((X*Y-L).natAbs:Int)=τ at *
  generalize (L.natAbs:Int)=l at *
  clear d d3 l2
  omega
structure Sz (g Q S:Int):Prop where
  q:0<=Q
  s:0<=S
  l:1152921504606846976*Q<=g*S
theorem un_nn {S t:Int} (u:Un S t) (s:0<=S):0<=t∧9007199254740992*S<=(9007199254740992+1)*t:=by
  have h1:=u.1
  have h2:=u.2
  omega
theorem sz_abs (x:Int):Sz 1152921504606846976 (x.natAbs:Int) (x.natAbs:Int):=⟨Int.natCast_nonneg _,Int.natCast_nonneg _,Int.le_refl _⟩
theorem sz_add {g G Q S R T t:Int} (hs:Sz g Q S) (hr:Sz g R T) (u:Un (S+T) t) (c:(9007199254740992+1)*g<=9007199254740992*G) (g0:0<=g):Sz G (Q+R) t:=by
  obtain ⟨q0,s0,l0⟩:=hs
  obtain ⟨q1,s1,l1⟩:=hr
  obtain ⟨t0,t1⟩:=un_nn u (by omega)
  refine ⟨by omega,t0,?_⟩
  have q2:=Int.mul_le_mul_of_nonneg_left t1 g0
  have q3:=Int.mul_le_mul_of_nonneg_right c t0
  have e1:g*((9007199254740992+1)*t)=(9007199254740992+1)*g*t:=by grind
  have e2:g*(9007199254740992*(S+T))=9007199254740992*(g*S)+9007199254740992*(g*T):=by grind
  rw [e1,e2] at q2
  rw [Int.mul_assoc 9007199254740992 G t] at q3
  generalize g*S=a at *
  generalize g*T=b at *
  generalize (9007199254740992+1)*g*t=e at *
  generalize G*t=f at *
  omega
structure Fx (a b:Nat) (x:Int):Prop where
  r:rng x
  p:pok x=true
  d:(2^a:Int) ∣ iV x
  b:((iV x).natAbs:Int)<=2^b
theorem Mz.fx {x:Int} (h:Mz x):Fx 872 1224 x:=⟨h.1,h.2.1,h.2.2.1,h.2.2.2⟩
theorem Fx.up {a b b':Nat} {x:Int} (h:Fx a b x) (c:b<=b'):Fx a b' x:=⟨h.r,h.p,h.d,p2_up h.b c⟩
theorem Fx.neg {a b:Nat} {x:Int} (h:Fx a b x):Fx a b (neg x)∧iV (neg x)=-iV x:=by
  obtain ⟨n1,n2,n3⟩:=neg_facts h.r h.p
  refine ⟨⟨n1,n2,?_,?_⟩,n3⟩
  . rw [n3]; exact Int.dvd_neg.2 h.d
  . rw [n3,Int.natAbs_neg]; exact h.b
theorem h_dbl {S x:Int} (h:Un S x):(x.natAbs:Int)<=2*(S.natAbs:Int):=by
  have:=h.1
  omega
theorem h_fin {a b m:Int} {k:Nat} (h1:a<=2^k) (hk:k+1<=2097) (hm:(2:Int)^2097<=m):2*a<=m:=by
  have e:=p2s k
  have f:(2:Int)^(k+1)<=2^2097:=p2le hk
  omega
theorem Fx.sum {a b:Nat} {x y:Int} (hx:Fx a b x) (hy:Fx a b y) (hb:b+1<=2097):Fx a (b+2) (fsum x y)∧Un (iV x+iV y) (iV (fsum x y)):=by
  obtain ⟨f1,f2⟩:=sum_fin hx.r hy.r hx.p hy.p (h_fin (b:=0) hx.b hb maxV_ge) (h_fin (b:=0) hy.b hb maxV_ge)
  have nr:=fsum_nr hx.r hy.r f2
  have u:=nr_Un nr
  refine ⟨⟨fsum_rng hx.r hy.r,f1,nr_dvd nr (Int.dvd_add hx.d hy.d),?_⟩,u⟩
  have h2:=h_dbl u
  have e1:=hx.b
  have e2:=hy.b
  rw [show b+2=b+1+1 by omega,p2s,p2s]
  omega
theorem h_mul {x y:Int} {b d:Nat} (h1:(x.natAbs:Int)<=2^b) (h2:(y.natAbs:Int)<=2^d):((x*y).natAbs:Int)<=2^(b+d):=by
  have:=abs_mul_le h1 h2
  rwa [<- Int.pow_add] at this
theorem Fx.prod {a b c d:Nat} {x y:Int} (hx:Fx a b x) (hy:Fx c d y) (h1:1074<=a+c) (h2:1074<=b+d) (h3:b+d-1074<=2097) :
    Fx (a+c-1074) (b+d-1074+1) (fprod x y)∧Un (iV x*iV y) (2^1074*iV (fprod x y))∧∃ T,2^1074*T=iV x*iV y∧Un T (iV (fprod x y)):=by
  have dd:(2^(a+c):Int) ∣ iV x*iV y:=by
    rw [Int.pow_add]
    exact Int.mul_dvd_mul hx.d hy.d
  obtain ⟨k,hk⟩:=dd
  have e0:(2:Int)^(a+c)=2^1074*2^(a+c-1074):=by rw [<- Int.pow_add,show 1074+(a+c-1074)=a+c by omega]
  have hT:2^1074*(2^(a+c-1074)*k)=iV x*iV y:=by rw [hk,e0,Int.mul_assoc]
  have b1:=h_mul hx.b hy.b
  rw [<- hT,natAbs_p2,show b+d=1074+(b+d-1074) by omega,Int.pow_add] at b1
  have b2:(((2^(a+c-1074)*k:Int)).natAbs:Int)<=2^(b+d-1074):=Int.le_of_mul_le_mul_left b1 (p2 1074)
  have s:=stp_prod hx.r hy.r hx.p hy.p hT
  have f:pok (fprod x y)=true:=s.fin (Int.le_trans b2 (Int.le_trans (p2le h3) maxV_ge))
  have nr:=s.nr f
  have u:=nr_Un nr
  refine ⟨⟨fprod_rng hx.r hy.r,f,nr_dvd nr ⟨k,rfl⟩,?_⟩,?_,_,hT,u⟩
  . have:=h_dbl u
    rw [p2s]
    omega
  . rw [<- hT]
    exact u.scale (Int.le_of_lt (p2 1074))
theorem rg_rg {x:Int} (h:rng x):rg (rg x)=rg x:=by unfold rng rg at *; split <;> (try split) <;> omega
theorem Fx.abs {a b:Nat} {x:Int} (h:Fx a b x):Fx a b (rg x)∧iV (rg x)=((iV x).natAbs:Int):=by
  obtain ⟨q1,q2⟩:=q_rg h.r
  have e:iV (rg x)=((iV x).natAbs:Int):=by
    rw [iV_abs,iV,decide_eq_false (by omega),rg_rg h.r]
    rfl
  refine ⟨⟨q1,?_,?_,?_⟩,e⟩
  . rw [pok_rg' q1,rg_rg h.r,<- pok_rg' h.r]; exact h.p
  . rw [e]; exact Int.dvd_natAbs.2 h.d
  . rw [e,Int.natAbs_natCast]; exact h.b
theorem Mz.diff {p q:Int} (hp:Mz p) (hq:Mz q):Fx 872 1226 (fsum p (neg q))∧Un (iV p-iV q) (iV (fsum p (neg q))):=by
  obtain ⟨n,ne⟩:=hq.fx.neg
  obtain ⟨s,su⟩:=hp.fx.sum n (by decide)
  rw [ne] at su
  exact ⟨s,su⟩
def oA:Int:=4375247037990436868
def oB:Int:=4372995238176751619
theorem sc_abs {S:Int} {q:Int} (hq:0<=q):((q*S).natAbs:Int)=q*(S.natAbs:Int):=by
  rw [abs_mul]
  congr 1
  omega
end Go.Proofs.YtjjihmnbdeeedaaGreatDoor
namespace Go.Proofs.YtjjihmnbdeeedaaGreatDoor
open Go Go.RowKit Go.Proofs.YtjjihmnbdeeedaaGreatDoor.M Ieee
end Go.Proofs.YtjjihmnbdeeedaaGreatDoor
