/- Parts of the proof. -/
import Derived.Test.YtmmnoneehiibiaaGreatDoorPart8
set_option linter.unusedVariables false
set_option linter.unusedSimpArgs false
namespace Go.Proofs.YtmmnoneehiibiaaGreatDoor
open Go Go.RowKit Go.Proofs.YtmmnoneehiibiaaGreatDoor.M
def Un (S h:Int):Prop:=9007199254740992*((h-S).natAbs:Int)<=(S.natAbs:Int)∧9007199254740992*((h-S).natAbs:Int)<=(h.natAbs:Int)
theorem nr_Un_pos {S h:Int} (n:Nr S h) (h0:0<=S):Un S h:=by
  obtain ⟨k,h1,h2⟩:=binade S h0
  rcases h2 with h2 | h2
  . subst h2
    have e:=nr_self ⟨0,⟨S,by rw [Int.pow_zero]; omega⟩,by omega⟩ n
    subst e
    rw [Un,Int.sub_self]
    simp
  . have c:=nr_err n (i:=k) (by omega)
    have g:=nr_ge n (fl_p2 k (m:=4503599627370496) (by decide)) h2
    have p0:=p2 k
    generalize (2:Int)^k=q at *
    have g':4503599627370496*q<=h:=g
    constructor <;> omega
theorem nr_Un {S h:Int} (n:Nr S h):Un S h:=by
  by_cases h0:0<=S
  . exact nr_Un_pos n h0
  . have:=nr_Un_pos n.neg (by omega)
    unfold Un at *
    omega
theorem Un.scale {S h:Int} (u:Un S h) {c:Int} (hc:0<=c):Un (c*S) (c*h):=by
  have e:∀ x:Int,((c*x).natAbs:Int)=c*(x.natAbs:Int):=fun x=>by
    rw [Int.natAbs_mul,Int.natCast_mul]
    congr 1
    omega
  rw [Un,<- Int.mul_sub,e,e,e,<- Int.mul_assoc,Int.mul_comm 9007199254740992 c,Int.mul_assoc]
  exact ⟨Int.mul_le_mul_of_nonneg_left u.1 hc,Int.mul_le_mul_of_nonneg_left u.2 hc⟩
theorem abs_mul (x y:Int):((x*y).natAbs:Int)=(x.natAbs:Int)*(y.natAbs:Int):=by rw [Int.natAbs_mul,Int.natCast_mul]
theorem part_l {u e v:Int} (h:9007199254740992*(e.natAbs:Int)<=(u.natAbs:Int)):9007199254740992*((e*v).natAbs:Int)<=((u*v).natAbs:Int):=by
  rw [abs_mul,abs_mul,<- Int.mul_assoc]
  exact Int.mul_le_mul_of_nonneg_right h (by omega)
theorem part_r {u e v:Int} (h:9007199254740992*(e.natAbs:Int)<=(u.natAbs:Int)):9007199254740992*((v*e).natAbs:Int)<=((v*u).natAbs:Int):=by
  rw [Int.mul_comm v e,Int.mul_comm v u]
  exact part_l h
theorem dev_prod {x y u v:Int} (hu:Un x u) (hv:Un y v):81129638414606681695789005144064*((x*y-u*v).natAbs:Int)<=18014398509481985*((u*v).natAbs:Int):=by
  obtain ⟨e,he⟩:∃ e,x=u+e:=⟨x-u,by omega⟩
  obtain ⟨f,hf⟩:∃ f,y=v+f:=⟨y-v,by omega⟩
  have h1:9007199254740992*(e.natAbs:Int)<=(u.natAbs:Int):=by have:=hu.2; omega
  have h2:9007199254740992*(f.natAbs:Int)<=(v.natAbs:Int):=by have:=hv.2; omega
  have a1:=part_l (v:=v) h1
  have a2:=part_r (v:=u) h2
  have a3:=part_r (v:=e) h2
  have ee:x*y-u*v=u*f+e*v+e*f:=by
    rw [he,hf,Int.add_mul,Int.mul_add,Int.mul_add]
    omega
  rw [ee]
  generalize u*f=A at *
  generalize e*v=B at *
  generalize e*f=C at *
  generalize u*v=D at *
  omega
theorem dev_heads {x1 y1 x2 y2 u1 v1 u2 v2 L R S:Int} (h1:Un x1 u1) (h2:Un y2 v2) (h3:Un y1 v1) (h4:Un x2 u2) (hL:Un (u1*v2) L) (hR:Un (v1*u2) R) (hS:Un ((L.natAbs:Int)+(R.natAbs:Int)) S) :
    9007199254740992*(((u1*v2).natAbs:Int)+((v1*u2).natAbs:Int))<=9007199254740993*((L.natAbs:Int)+(R.natAbs:Int))∧9007199254740992*((L.natAbs:Int)+(R.natAbs:Int))<=9007199254740993*S∧0<=S ∧
    81129638414606681695789005144064*(((x1*y2-y1*x2)-(u1*v2-v1*u2)).natAbs:Int)<=18014398509481985*(((u1*v2).natAbs:Int)+((v1*u2).natAbs:Int)):=by
  have d1:=dev_prod h1 h2
  have d2:=dev_prod h3 h4
  have l:=hL.2
  have r:=hR.2
  have s:=hS.2
  have s':=hS.1
  generalize u1*v2=A at *
  generalize v1*u2=B at *
  generalize x1*y2=C at *
  generalize y1*x2=D at *
  refine ⟨by omega,by omega,by omega,by omega⟩
theorem k_sg {X Z D:Int} (hD:Un Z D) (h:((X-Z).natAbs:Int)<(Z.natAbs:Int)):(0<X ↔ 0<D)∧(X<0 ↔ D<0):=by
  have d:=hD.1
  omega
theorem k_tri {X H Z:Int}:((X-Z).natAbs:Int)<=((X-H).natAbs:Int)+((H-Z).natAbs:Int):=by omega
theorem k_two {A B L R:Int} (hA:Un A L) (hB:Un B R):9007199254740992*(((A-B)-(L-R)).natAbs:Int)<=(L.natAbs:Int)+(R.natAbs:Int):=by
  have a:=hA.2
  have b:=hB.2
  omega
theorem k_lowM {T M:Int} (h:Un T M) (t:0<=T):9007199254740991*T<=9007199254740992*M:=by
  have:=h.1
  omega
theorem k_lowD {Z D:Int} (h:Un Z D):9007199254740991*(D.natAbs:Int)<=9007199254740992*(Z.natAbs:Int):=by
  have:=h.2
  omega
theorem kf_ch {a b c d X Y Z:Int} (hb:0<=b) (hc:0<=c) (h1:a*X<=b*Y) (h2:c*Y<=d*Z):(c*a)*X<=(b*d)*Z:=by
  have a1:=Int.mul_le_mul_of_nonneg_left h1 hc
  have a2:=Int.mul_le_mul_of_nonneg_left h2 hb
  rw [Int.mul_assoc,Int.mul_assoc]
  refine Int.le_trans a1 (Int.le_trans (Int.le_of_eq ?_) a2)
  rw [<- Int.mul_assoc,<- Int.mul_assoc,Int.mul_comm c b]
theorem kf_end {a b Y Z:Int} (hb:0<=b) (hab:b<a) (h:a*Y<=b*Z) (hz:0<Z):Y<Z:=by
  apply Int.lt_of_not_ge
  intro c
  have h1:b*Z<=b*Y:=Int.mul_le_mul_of_nonneg_left c hb
  have h2:b*Y<a*Y:=Int.mul_lt_mul_of_pos_right hab (by omega)
  omega
theorem kf_pos {a b S Z:Int} (ha:0<a) (hb:0<=b) (h:a*S<=b*Z) (hs:0<S):0<Z:=by
  apply Int.lt_of_not_ge
  intro c
  have h1:b*Z<=b*0:=Int.mul_le_mul_of_nonneg_left c hb
  have h2:0<a*S:=Int.mul_pos ha hs
  omega
theorem k_flt {Y Y1 Y2 V W S T M Q Z:Int} (y:Y<=Y1+Y2) (y1:81129638414606681695789005144064*Y1<=18014398509481985*V) (y2:9007199254740992*Y2<=W) (a0:9007199254740992*V<=9007199254740993*W) (s0:9007199254740992*W<=9007199254740993*S) (c:0<S)
    (hT:5070602400912917605986812821504*T=1688849860263937*S) (m:9007199254740991*T<=9007199254740992*M) (h:M<=Q) (d:9007199254740991*Q<=9007199254740992*Z):Y<Z:=by
  have e1:(730750818665451459101842416358141509827966271488:Int)*Y1<=162259276829213390413175774511105*W:=kf_ch (a:=81129638414606681695789005144064) (b:=18014398509481985) (c:=9007199254740992) (d:=9007199254740993) (by decide) (by decide) y1 a0
  have e2:(730750818665451459101842416358141509827966271488:Int)*Y<=243388915243820072108964779655169*W:=by
    clear hT m h d s0 c y1 a0
    omega
  have e3:=kf_ch (by decide) (by decide) e2 s0
  have f1:1688849860263937*S<=5070602400912917605986812821504*T:=Int.le_of_eq hT.symm
  have f2:9007199254740991*T<=9007199254740992*Q:=Int.le_trans m (Int.mul_le_mul_of_nonneg_left h (by decide))
  have f3:=kf_ch (by decide) (by decide) (kf_ch (by decide) (by decide) f1 f2) d
  exact kf_end (by decide) (by decide) (kf_ch (by decide) (by decide) e3 f3) (kf_pos (by decide) (by decide) f3 c)
theorem k_hds {Y V W S T M Q Z:Int} (y:81129638414606681695789005144064*Y<=18014398509481985*V) (a0:9007199254740992*V<=9007199254740993*W) (s0:9007199254740992*W<=9007199254740993*S) (c:0<S)
    (hT:20282409603651670423947251286016*T=4503599627370499*S) (m:9007199254740991*T<=9007199254740992*M) (h:M<=Q) (d:9007199254740991*Q<=9007199254740992*Z):Y<Z:=by
  have e3:=kf_ch (by decide) (by decide) (kf_ch (by decide) (by decide) y a0) s0
  have f1:4503599627370499*S<=20282409603651670423947251286016*T:=Int.le_of_eq hT.symm
  have f2:9007199254740991*T<=9007199254740992*Q:=Int.le_trans m (Int.mul_le_mul_of_nonneg_left h (by decide))
  have f3:=kf_ch (by decide) (by decide) (kf_ch (by decide) (by decide) f1 f2) d
  exact kf_end (by decide) (by decide) (kf_ch (by decide) (by decide) e3 f3) (kf_pos (by decide) (by decide) f3 c)
theorem k_T2 {T S:Int} (h:5070602400912917605986812821504*T=1688849860263937*S) (s:0<S):0<=T:=Int.le_of_lt (kf_pos (by decide) (by decide) (Int.le_of_eq h.symm) s)
theorem k_T4 {T S:Int} (h:20282409603651670423947251286016*T=4503599627370499*S) (s:0<S):0<=T:=Int.le_of_lt (kf_pos (by decide) (by decide) (Int.le_of_eq h.symm) s)
theorem k_ab0 {A:Int} (h:81129638414606681695789005144064*(A.natAbs:Int)<=0):A=0:=by omega
theorem k_un0 {A L:Int} (h:Un A L) (l:L=0):A=0:=by
  have:=h.2
  omega
theorem k_lr {L R S:Int} (h:9007199254740992*((L.natAbs:Int)+(R.natAbs:Int))<=9007199254740993*0):L=0∧R=0:=by omega
theorem k_nil {X A B L R:Int} (hA:Un A L) (hB:Un B R) (s0:9007199254740992*((L.natAbs:Int)+(R.natAbs:Int))<=9007199254740993*0)
    (hX:81129638414606681695789005144064*((X-(A-B)).natAbs:Int)<=18014398509481985*((A.natAbs:Int)+(B.natAbs:Int))):L=0∧R=0∧A=0∧B=0∧X=0:=by
  obtain ⟨l,r⟩:=k_lr (S:=0) s0
  have a:=k_un0 hA l
  have b:=k_un0 hB r
  rw [a,b] at hX
  have x:=k_ab0 (A:=X-(0-0)) hX
  exact ⟨l,r,a,b,by omega⟩
theorem k_nil2 {X D:Int} (x:X=0) (hD:Un (0-0) D):(0<X ↔ 0<D)∧(X<0 ↔ D<0):=by
  have:=hD.1
  omega
theorem flt_sign {X A B L R S D T M:Int} (hA:Un A L) (hB:Un B R) (a0:9007199254740992*((A.natAbs:Int)+(B.natAbs:Int))<=9007199254740993*((L.natAbs:Int)+(R.natAbs:Int))) (s0:9007199254740992*((L.natAbs:Int)+(R.natAbs:Int))<=9007199254740993*S) (s1:0<=S)
    (hX:81129638414606681695789005144064*((X-(A-B)).natAbs:Int)<=18014398509481985*((A.natAbs:Int)+(B.natAbs:Int)))
    (hD:Un (L-R) D) (hT:5070602400912917605986812821504*T=1688849860263937*S) (hM:Un T M) (h:M<=(D.natAbs:Int)):(0<X ↔ 0<D)∧(X<0 ↔ D<0):=by
  rcases Int.lt_or_eq_of_le s1 with c | c
  . exact k_sg hD (k_flt k_tri hX (k_two hA hB) a0 s0 c hT (k_lowM hM (k_T2 hT c)) h (k_lowD hD))
  . obtain ⟨l,r,_,_,x⟩:=k_nil hA hB (by rw [c]; exact s0) hX
    rw [l,r] at hD
    exact k_nil2 x hD
theorem hds_sign {X A B L R S D T M:Int} (hA:Un A L) (hB:Un B R) (a0:9007199254740992*((A.natAbs:Int)+(B.natAbs:Int))<=9007199254740993*((L.natAbs:Int)+(R.natAbs:Int))) (s0:9007199254740992*((L.natAbs:Int)+(R.natAbs:Int))<=9007199254740993*S) (s1:0<=S)
    (hX:81129638414606681695789005144064*((X-(A-B)).natAbs:Int)<=18014398509481985*((A.natAbs:Int)+(B.natAbs:Int)))
    (hD:Un (A-B) D) (hT:20282409603651670423947251286016*T=4503599627370499*S) (hM:Un T M) (h:M<=(D.natAbs:Int)):(0<X ↔ 0<D)∧(X<0 ↔ D<0):=by
  rcases Int.lt_or_eq_of_le s1 with c | c
  . exact k_sg hD (k_hds hX a0 s0 c hT (k_lowM hM (k_T4 hT c)) h (k_lowD hD))
  . obtain ⟨_,_,a,b,x⟩:=k_nil hA hB (by rw [c]; exact s0) hX
    rw [a,b] at hD
    exact k_nil2 x hD
theorem g_t1 {d z p a:Int} (h1:9007199254740992*d<=z) (hz:9007199254740992*z<=a) (h:p<=z+d) (a0:0<=a):81129638414606681695789005144064*d<=a∧100*(9007199254740992*p)<=101*a:=by
  constructor <;> omega
theorem tl_prod {z p a:Int} (h:Un z p) (hz:9007199254740992*(z.natAbs:Int)<=a):81129638414606681695789005144064*((p-z).natAbs:Int)<=a∧100*(9007199254740992*(p.natAbs:Int))<=101*a :=
  g_t1 h.1 hz (by omega) (by omega)
theorem g_t2 {a dl d1 d2 p1 p2 D:Int} (e1:81129638414606681695789005144064*d1<=a) (e2:81129638414606681695789005144064*d2<=a) (f1:100*(9007199254740992*p1)<=101*a) (f2:100*(9007199254740992*p2)<=101*a) (h:9007199254740992*dl<=p1+p2) (hD:D<=dl+d1+d2):100*(81129638414606681695789005144064*D)<=402*a:=by
  have g:100*(81129638414606681695789005144064*dl)<=202*a:=by
    clear e1 e2 hD
    omega
  clear f1 f2 h
  omega
theorem g_t3 {a z1 z2 l D:Int} (a0:0<=a) (h:100*(81129638414606681695789005144064*D)<=402*a) (c1:9007199254740992*z1<=a) (c2:9007199254740992*z2<=a) (hl:l<=z1+z2+D):100*(9007199254740992*l)<=201*a:=by
  have g:100*(9007199254740992*D)<=a:=by
    clear c1 c2 hl
    omega
  clear h
  omega
theorem tl_sum {z1 z2 p1 p2 l a:Int} (h1:Un z1 p1) (h2:Un z2 p2) (c1:9007199254740992*(z1.natAbs:Int)<=a) (c2:9007199254740992*(z2.natAbs:Int)<=a) (hl:Un (p1+p2) l) :
    100*(81129638414606681695789005144064*((l-(z1+z2)).natAbs:Int))<=402*a∧100*(9007199254740992*(l.natAbs:Int))<=201*a:=by
  obtain ⟨d1,f1⟩:=tl_prod h1 c1
  obtain ⟨d2,f2⟩:=tl_prod h2 c2
  have s:=hl.1
  have k:9007199254740992*((l-(p1+p2)).natAbs:Int)<=(p1.natAbs:Int)+(p2.natAbs:Int):=by clear d1 f1 d2 f2 c1 c2; omega
  have t:((l-(z1+z2)).natAbs:Int)<=((l-(p1+p2)).natAbs:Int)+((p1-z1).natAbs:Int)+((p2-z2).natAbs:Int):=by clear d1 f1 d2 f2 c1 c2 s k; omega
  have D:=g_t2 d1 d2 f1 f2 k t
  have a0:0<=a:=by clear d1 f1 d2 f2 D k t s; omega
  exact ⟨D,g_t3 a0 D c1 c2 (by clear d1 f1 d2 f2 D k t s c1 c2; omega)⟩
theorem g_t4 {a b dl dr t D l r:Int} (e1:100*(81129638414606681695789005144064*dl)<=402*a) (e2:100*(81129638414606681695789005144064*dr)<=402*b) (f1:100*(9007199254740992*l)<=201*a) (f2:100*(9007199254740992*r)<=201*b) (h:9007199254740992*t<=l+r) (hD:D<=t+dl+dr):100*(81129638414606681695789005144064*D)<=603*(a+b):=by
  have g:100*(81129638414606681695789005144064*t)<=201*(a+b):=by
    clear e1 e2 hD
    omega
  clear f1 f2 h
  omega
theorem tl_dif {zl zr l r T a b:Int} (d1:100*(81129638414606681695789005144064*((l-zl).natAbs:Int))<=402*a) (f1:100*(9007199254740992*(l.natAbs:Int))<=201*a)
    (d2:100*(81129638414606681695789005144064*((r-zr).natAbs:Int))<=402*b) (f2:100*(9007199254740992*(r.natAbs:Int))<=201*b) (hT:Un (l-r) T):100*(81129638414606681695789005144064*((T-(zl-zr)).natAbs:Int))<=603*(a+b):=by
  have s:=hT.1
  exact g_t4 d1 d2 f1 f2 (t:=((T-(l-r)).natAbs:Int)) (by clear d1 f1 d2 f2; omega) (by clear d1 f1 d2 f2 s; omega)
theorem g_t5 {a b D E1 E2 Y:Int} (h:100*(81129638414606681695789005144064*D)<=603*(a+b)) (h1:81129638414606681695789005144064*E1<=a) (h2:81129638414606681695789005144064*E2<=b) (hY:Y<=D+E1+E2):100*(81129638414606681695789005144064*Y)<=703*(a+b):=by
  omega
theorem g_part {e f u v:Int} (h1:9007199254740992*(e.natAbs:Int)<=(u.natAbs:Int)) (h2:9007199254740992*(f.natAbs:Int)<=(v.natAbs:Int)):81129638414606681695789005144064*((e*f).natAbs:Int)<=((u*v).natAbs:Int):=by
  have a:=part_l (v:=v) h1
  have b:=part_r (v:=e) h2
  generalize ((e*f).natAbs:Int)=x at *
  generalize ((e*v).natAbs:Int)=y at *
  generalize ((u*v).natAbs:Int)=z at *
  omega
theorem dev_tails {u1 v1 u2 v2 e1 f1 e2 f2 p1 p2 q1 q2 l r T:Int} (a1:9007199254740992*(e1.natAbs:Int)<=(u1.natAbs:Int)) (b1:9007199254740992*(f1.natAbs:Int)<=(v1.natAbs:Int)) (a2:9007199254740992*(e2.natAbs:Int)<=(u2.natAbs:Int)) (b2:9007199254740992*(f2.natAbs:Int)<=(v2.natAbs:Int))
    (h1:Un (u1*f2) p1) (h2:Un (v2*e1) p2) (h3:Un (v1*e2) q1) (h4:Un (u2*f1) q2) (hl:Un (p1+p2) l) (hr:Un (q1+q2) r) (hT:Un (l-r) T) :
    100*(81129638414606681695789005144064*((((u1+e1)*(v2+f2)-(v1+f1)*(u2+e2))-((u1*v2-v1*u2)+T)).natAbs:Int))<=703*(((u1*v2).natAbs:Int)+((v1*u2).natAbs:Int)):=by
  obtain ⟨x1,x2⟩:=tl_sum (a:=((u1*v2).natAbs:Int)) h1 h2 (part_r b2) (by rw [Int.mul_comm v2 e1]; exact part_l a1) hl
  obtain ⟨y1,y2⟩:=tl_sum (a:=((v1*u2).natAbs:Int)) h3 h4 (part_r a2) (by rw [Int.mul_comm u2 f1]; exact part_l b1) hr
  have d:=tl_dif x1 x2 y1 y2 hT
  have g1:=g_part a1 b2
  have g2:=g_part b1 a2
  refine g_t5 d g1 g2 ?_
  have e:((u1+e1)*(v2+f2)-(v1+f1)*(u2+e2))-((u1*v2-v1*u2)+T)=e1*f2-f1*e2-(T-((u1*f2+v2*e1)-(v1*e2+u2*f1))):=by
    rw [Int.add_mul,Int.mul_add,Int.mul_add,Int.add_mul,Int.mul_add,Int.mul_add,Int.mul_comm v2 e1,Int.mul_comm u2 f1]
    omega
  rw [e]
  clear d g1 g2 x1 x2 y1 y2 e
  omega
theorem g_low {T M:Int} (h:Un T M) (t:0<=T):999*T<=1000*M:=by
  have:=h.1
  omega
theorem g_lowD {Z D:Int} (h:Un Z D):999*(D.natAbs:Int)<=1000*(Z.natAbs:Int):=by
  have:=h.2
  omega
theorem g_S {V W S Y:Int} (y:100*(81129638414606681695789005144064*Y)<=703*V) (a0:9007199254740992*V<=9007199254740993*W) (s0:9007199254740992*W<=9007199254740993*S) (v0:0<=V):81129638414606681695789005144064*Y<=8*S:=by
  have w:100*V<=101*W:=by clear s0 y; omega
  have w0:0<=W:=by clear s0 y; omega
  have s:100*W<=101*S:=by clear a0 y w; omega
  clear a0 s0
  generalize 81129638414606681695789005144064*Y=Q at *
  omega
theorem g_end {Y G Z S N tc tk c k E d:Int} (y:81129638414606681695789005144064*Y<=8*S) (g:9007199254740992*G<=N) (n0:0<=N) (s:0<S)
    (hc:9*S<=81129638414606681695789005144064*tc) (hk:3*N<=9007199254740992*tk) (lc:999*tc<=1000*c) (lk:999*tk<=1000*k) (le:999*(c+k)<=1000*E) (h:E<=d) (ld:999*d<=1000*Z):Y+G<Z:=by
  have z:997002999*(tc+tk)<=1000000000*Z:=by
    clear y g hc hk
    omega
  have hk':3*(9007199254740992*N)<=81129638414606681695789005144064*tk:=by clear z y hc; omega
  have g':81129638414606681695789005144064*G<=9007199254740992*N:=by clear z y hc hk hk'; omega
  have z':997002999*(81129638414606681695789005144064*tc+81129638414606681695789005144064*tk)<=1000000000*(81129638414606681695789005144064*Z):=by
    clear y g hc hk hk' g' lc lk le h ld
    omega
  apply Int.lt_of_not_ge
  intro q
  have q':81129638414606681695789005144064*Z<=81129638414606681695789005144064*Y+81129638414606681695789005144064*G:=by
    clear z z' y g hc hk hk' g' lc lk le h ld
    omega
  have nn:0<=9007199254740992*N:=by clear z z' q' y g hc hk hk' g' lc lk le h ld q; omega
  clear z lc lk le h ld q hk g
  generalize 81129638414606681695789005144064*Z=z1 at *
  generalize 81129638414606681695789005144064*Y=y1 at *
  generalize 81129638414606681695789005144064*G=g1 at *
  generalize 81129638414606681695789005144064*tc=c1 at *
  generalize 81129638414606681695789005144064*tk=k1 at *
  generalize 9007199254740992*N=n1 at *
  omega
theorem tls_sign {X H h T d S V W tc tk c k E:Int} (hX:100*(81129638414606681695789005144064*((X-(H+T)).natAbs:Int))<=703*V) (a0:9007199254740992*V<=9007199254740993*W) (s0:9007199254740992*W<=9007199254740993*S) (v0:0<=V) (s1:0<S)
    (hh:Un H h) (hd:Un (h+T) d) (hc:9*S<=81129638414606681695789005144064*tc) (hk:3*(h.natAbs:Int)<=9007199254740992*tk) (tc0:0<=tc) (tk0:0<=tk) (uc:Un tc c) (uk:Un tk k) (c0:0<=c) (k0:0<=k) (uE:Un (c+k) E) (hE:E<=(d.natAbs:Int)):(0<X ↔ 0<d)∧(X<0 ↔ d<0):=by
  have y:=g_S hX a0 s0 v0
  have e:=g_end (Y:=((X-(H+T)).natAbs:Int)) (G:=((h-H).natAbs:Int)) y hh.2 (by clear y hX hc hk; omega) s1 hc hk (g_low uc tc0) (g_low uk tk0) (g_low uE (by clear y hX hc hk; omega)) hE (g_lowD hd)
  exact k_sg hd (by clear y hX hc hk hE a0 s0; omega)
structure Fx (a b:Nat) (x:Int):Prop where
  r:rng x
  p:pok x=true
  d:(2^a:Int) ∣ iV x
  b:((iV x).natAbs:Int)<=2^b
theorem Mz.fx {x:Int} (h:Mz x):Fx 872 1224 x:=⟨h.1,h.2.1,h.2.2.1,h.2.2.2⟩
theorem Fx.up {a b b':Nat} {x:Int} (h:Fx a b x) (c:b<=b'):Fx a b' x:=⟨h.r,h.p,h.d,p2_up h.b c⟩
theorem Fx.neg {a b:Nat} {x:Int} (h:Fx a b x):Fx a b (neg x)∧iV (neg x)=-iV x:=by
  obtain ⟨n1,n2,n3⟩:=neg_facts h.r h.p
  refine ⟨⟨n1,n2,?_,?_⟩,n3⟩
  . rw [n3]; exact Int.dvd_neg.2 h.d
  . rw [n3,Int.natAbs_neg]; exact h.b
theorem h_dbl {S x:Int} (h:Un S x):(x.natAbs:Int)<=2*(S.natAbs:Int):=by
  have:=h.1
  omega
theorem h_fin {a b m:Int} {k:Nat} (h1:a<=2^k) (hk:k+1<=2097) (hm:(2:Int)^2097<=m):2*a<=m:=by
  have e:=p2s k
  have f:(2:Int)^(k+1)<=2^2097:=p2le hk
  omega
theorem Fx.sum {a b:Nat} {x y:Int} (hx:Fx a b x) (hy:Fx a b y) (hb:b+1<=2097):Fx a (b+2) (fsum x y)∧Un (iV x+iV y) (iV (fsum x y)):=by
  obtain ⟨f1,f2⟩:=sum_fin hx.r hy.r hx.p hy.p (h_fin (b:=0) hx.b hb maxV_ge) (h_fin (b:=0) hy.b hb maxV_ge)
  have nr:=fsum_nr hx.r hy.r f2
  have u:=nr_Un nr
  refine ⟨⟨fsum_rng hx.r hy.r,f1,nr_dvd nr (Int.dvd_add hx.d hy.d),?_⟩,u⟩
  have h2:=h_dbl u
  have e1:=hx.b
  have e2:=hy.b
  rw [show b+2=b+1+1 by omega,p2s,p2s]
  omega
theorem h_mul {x y:Int} {b d:Nat} (h1:(x.natAbs:Int)<=2^b) (h2:(y.natAbs:Int)<=2^d):((x*y).natAbs:Int)<=2^(b+d):=by
  have:=abs_mul_le h1 h2
  rwa [<- Int.pow_add] at this
theorem Fx.prod {a b c d:Nat} {x y:Int} (hx:Fx a b x) (hy:Fx c d y) (h1:1074<=a+c) (h2:1074<=b+d) (h3:b+d-1074<=2097) :
    Fx (a+c-1074) (b+d-1074+1) (fprod x y)∧Un (iV x*iV y) (2^1074*iV (fprod x y))∧∃ T,2^1074*T=iV x*iV y∧Un T (iV (fprod x y)):=by
  have dd:(2^(a+c):Int) ∣ iV x*iV y:=by
    rw [Int.pow_add]
    exact Int.mul_dvd_mul hx.d hy.d
  obtain ⟨k,hk⟩:=dd
  have e0:(2:Int)^(a+c)=2^1074*2^(a+c-1074):=by rw [<- Int.pow_add,show 1074+(a+c-1074)=a+c by omega]
  have hT:2^1074*(2^(a+c-1074)*k)=iV x*iV y:=by rw [hk,e0,Int.mul_assoc]
  have b1:=h_mul hx.b hy.b
  rw [<- hT,natAbs_p2,show b+d=1074+(b+d-1074) by omega,Int.pow_add] at b1
  have b2:(((2^(a+c-1074)*k:Int)).natAbs:Int)<=2^(b+d-1074):=Int.le_of_mul_le_mul_left b1 (p2 1074)
  have s:=stp_prod hx.r hy.r hx.p hy.p hT
  have f:pok (fprod x y)=true:=s.fin (Int.le_trans b2 (Int.le_trans (p2le h3) maxV_ge))
  have nr:=s.nr f
  have u:=nr_Un nr
  refine ⟨⟨fprod_rng hx.r hy.r,f,nr_dvd nr ⟨k,rfl⟩,?_⟩,?_,_,hT,u⟩
  . have:=h_dbl u
    rw [p2s]
    omega
  . rw [<- hT]
    exact u.scale (Int.le_of_lt (p2 1074))
theorem rg_rg {x:Int} (h:rng x):rg (rg x)=rg x:=by unfold rng rg at *; split <;> (try split) <;> omega
theorem Fx.abs {a b:Nat} {x:Int} (h:Fx a b x):Fx a b (rg x)∧iV (rg x)=((iV x).natAbs:Int):=by
  obtain ⟨q1,q2⟩:=q_rg h.r
  have e:iV (rg x)=((iV x).natAbs:Int):=by
    rw [iV_abs,iV,decide_eq_false (by omega),rg_rg h.r]
    rfl
  refine ⟨⟨q1,?_,?_,?_⟩,e⟩
  . rw [pok_rg' q1,rg_rg h.r,<- pok_rg' h.r]; exact h.p
  . rw [e]; exact Int.dvd_natAbs.2 h.d
  . rw [e,Int.natAbs_natCast]; exact h.b
structure FltN (u1 v1 u2 v2:Int):Prop where
  l:Fx 670 1379 (fprod u1 v2)
  r:Fx 670 1379 (fprod v1 u2)
  lu:Un (iV u1*iV v2) (2^1074*iV (fprod u1 v2))
  ru:Un (iV v1*iV u2) (2^1074*iV (fprod v1 u2))
  s:Fx 670 1381 (fsum (rg (fprod u1 v2)) (rg (fprod v1 u2)))
  su:Un (((iV (fprod u1 v2)).natAbs:Int)+((iV (fprod v1 u2)).natAbs:Int)) (iV (fsum (rg (fprod u1 v2)) (rg (fprod v1 u2))))
  d:Fx 670 1381 (fsum (fprod u1 v2) (neg (fprod v1 u2)))
  du:Un (iV (fprod u1 v2)-iV (fprod v1 u2)) (iV (fsum (fprod u1 v2) (neg (fprod v1 u2))))
theorem fltN_of {u1 v1 u2 v2:Int} (h1:Fx 872 1226 u1) (h2:Fx 872 1226 v1) (h3:Fx 872 1226 u2) (h4:Fx 872 1226 v2):FltN u1 v1 u2 v2:=by
  obtain ⟨l,lu,_⟩:=h1.prod h4 (by decide) (by decide) (by decide)
  obtain ⟨r,ru,_⟩:=h2.prod h3 (by decide) (by decide) (by decide)
  obtain ⟨la,le⟩:=l.abs
  obtain ⟨ra,re⟩:=r.abs
  obtain ⟨s,su⟩:=la.sum ra (by decide)
  obtain ⟨nr,ne⟩:=r.neg
  obtain ⟨d,du⟩:=l.sum nr (by decide)
  rw [le,re] at su
  rw [ne] at du
  exact ⟨l,r,lu,ru,s,su,d,du⟩
theorem Mz.diff {p q:Int} (hp:Mz p) (hq:Mz q):Fx 872 1226 (fsum p (neg q))∧Un (iV p-iV q) (iV (fsum p (neg q))):=by
  obtain ⟨n,ne⟩:=hq.fx.neg
  obtain ⟨s,su⟩:=hp.fx.sum n (by decide)
  rw [ne] at su
  exact ⟨s,su⟩
def oA:Int:=4375247037990436868
def oB:Int:=4372995238176751619
def oC:Int:=4143874607134277636
def oK:Int:=4375247037990436866
theorem iV_posO {p m:Int} {n:Nat} (hr:rng p) (hp:pok p=true) (h0:0<=p) (hm:pmag p=m*4) (he:pexp p+1074=n) (m0:0<=m):iV p=m*2^(n+2):=by
  have e:=iV_form hr hp
  rw [hm,he,Int.toNat_natCast] at e
  have s:0<=iV p:=by
    rw [iV,decide_eq_false (by omega)]
    exact Int.natCast_nonneg _
  rw [show n+2=n+1+1 by omega,p2s,p2s]
  have q:=p2 n
  have:m*(2*(2*2^n))=m*4*2^n:=by rw [<- Int.mul_assoc 2 2,<- Int.mul_assoc,show (2:Int)*2=4 from rfl]
  omega
theorem rng_oA:rng oA:=by unfold rng oA; omega
theorem iV_oA:iV oA=1688849860263937*2^972:=iV_posO (n:=970) rng_oA (by decide) (by decide) (by decide) (by decide) (by decide)
theorem fx_oA:Fx 972 1024 oA:=by
  refine ⟨rng_oA,by decide,⟨_,by rw [iV_oA,Int.mul_comm]⟩,?_⟩
  rw [iV_oA,Int.natAbs_mul,Int.natCast_mul]
  have e:(((2:Int)^972).natAbs:Int)=2^972:=by have:=p2 972; omega
  rw [e,show (2:Int)^1024=2^52*2^972 by rw [<- Int.pow_add]]
  exact Int.mul_le_mul_of_nonneg_right (by decide) (Int.le_of_lt (p2 972))
theorem sc_abs {S:Int} {q:Int} (hq:0<=q):((q*S).natAbs:Int)=q*(S.natAbs:Int):=by
  rw [abs_mul]
  congr 1
  omega
theorem sc_sgn {q x:Int} (hq:0<q):(0<q*x ↔ 0<x)∧(q*x<0 ↔ x<0):=by
  rcases Int.lt_trichotomy x 0 with h | h | h
  . have:q*x<0:=Int.mul_neg_of_pos_of_neg hq h
    omega
  . rw [h,Int.mul_zero]
    exact ⟨Iff.rfl,Iff.rfl⟩
  . have:0<q*x:=Int.mul_pos hq h
    omega
theorem flt_dev {ax ay bx by' cx cy:Int} (hax:Mz ax) (hay:Mz ay) (hbx:Mz bx) (hby:Mz by') (hcx:Mz cx) (hcy:Mz cy) {u1 v1 u2 v2 L R S:Int} (e1:u1=fsum ax (neg cx)) (e2:v1=fsum ay (neg cy)) (e3:u2=fsum bx (neg cx)) (e4:v2=fsum by' (neg cy))
    (eL:L=fprod u1 v2) (eR:R=fprod v1 u2) (eS:S=fsum (rg L) (rg R)) :
    FltN u1 v1 u2 v2 ∧
    9007199254740992*(((iV u1*iV v2).natAbs:Int)+((iV v1*iV u2).natAbs:Int))<=9007199254740993*(((2^1074*iV L).natAbs:Int)+((2^1074*iV R).natAbs:Int)) ∧
    9007199254740992*(((2^1074*iV L).natAbs:Int)+((2^1074*iV R).natAbs:Int))<=9007199254740993*(2^1074*iV S)∧0<=2^1074*iV S ∧
    81129638414606681695789005144064*((((iV ax-iV cx)*(iV by'-iV cy)-(iV ay-iV cy)*(iV bx-iV cx))-(iV u1*iV v2-iV v1*iV u2)).natAbs:Int)<=18014398509481985*(((iV u1*iV v2).natAbs:Int)+((iV v1*iV u2).natAbs:Int)):=by
  obtain ⟨f1,n1⟩:=hax.diff hcx
  obtain ⟨f2,n2⟩:=hay.diff hcy
  obtain ⟨f3,n3⟩:=hbx.diff hcx
  obtain ⟨f4,n4⟩:=hby.diff hcy
  rw [<- e1] at f1 n1
  rw [<- e2] at f2 n2
  rw [<- e3] at f3 n3
  rw [<- e4] at f4 n4
  have F:=fltN_of f1 f2 f3 f4
  refine ⟨F,?_⟩
  have q0:=Int.le_of_lt (p2 1074)
  have su:=F.su.scale q0
  rw [Int.mul_add,<- sc_abs q0,<- sc_abs q0] at su
  rw [eS,eL,eR]
  exact dev_heads n1 n4 n2 n3 F.lu F.ru su
theorem flt_pat {ax ay bx by' cx cy:Int} (hax:Mz ax) (hay:Mz ay) (hbx:Mz bx) (hby:Mz by') (hcx:Mz cx) (hcy:Mz cy) {u1 v1 u2 v2 L R S D:Int} (e1:u1=fsum ax (neg cx)) (e2:v1=fsum ay (neg cy)) (e3:u2=fsum bx (neg cx)) (e4:v2=fsum by' (neg cy))
    (eL:L=fprod u1 v2) (eR:R=fprod v1 u2) (eS:S=fsum (rg L) (rg R)) (eD:D=fsum L (neg R)) (h:iV (fprod oA S)<=((iV D).natAbs:Int)) :
    (0<(iV ax-iV cx)*(iV by'-iV cy)-(iV ay-iV cy)*(iV bx-iV cx) ↔ 0<iV D)∧((iV ax-iV cx)*(iV by'-iV cy)-(iV ay-iV cy)*(iV bx-iV cx)<0 ↔ iV D<0):=by
  obtain ⟨F,a0,s0,s1,hX⟩:=flt_dev hax hay hbx hby hcx hcy e1 e2 e3 e4 eL eR eS
  have q:=p2 1074
  have q0:=Int.le_of_lt q
  have fS:Fx 670 1381 S:=by rw [eS,eL,eR]; exact F.s
  obtain ⟨_,_,T,hT,uT⟩:=fx_oA.prod fS (by decide) (by decide) (by decide)
  have du:Un (2^1074*iV L-2^1074*iV R) (2^1074*iV D):=by
    rw [<- Int.mul_sub,eD,eL,eR]
    exact F.du.scale q0
  have hT':5070602400912917605986812821504*(2^1074*T)=1688849860263937*(2^1074*iV S):=by
    rw [hT,iV_oA,show (5070602400912917605986812821504:Int)=2^102 by decide,show (2:Int)^1074=2^102*2^972 by rw [<- Int.pow_add]]
    generalize (2:Int)^972=z
    generalize (2:Int)^102=y
    generalize iV S=x
    rw [Int.mul_assoc,Int.mul_assoc,Int.mul_left_comm]
  have hM:2^1074*iV (fprod oA S)<=((2^1074*iV D).natAbs:Int):=by
    rw [sc_abs q0]
    exact Int.mul_le_mul_of_nonneg_left h q0
  have lu:=F.lu
  have ru:=F.ru
  rw [<- eL] at lu
  rw [<- eR] at ru
  obtain ⟨r1,r2⟩:=flt_sign lu ru a0 s0 s1 hX du hT' (uT.scale q0) hM
  rw [r1,r2]
  exact sc_sgn q
theorem iV_posN {p m:Int} {n:Nat} (hr:rng p) (hp:pok p=true) (h0:0<=p) (hm:pmag p=m) (he:pexp p+1074=n):iV p=m*2^n:=by
  have e:=iV_form hr hp
  rw [hm,he,Int.toNat_natCast] at e
  have s:0<=iV p:=by
    rw [iV,decide_eq_false (by omega)]
    exact Int.natCast_nonneg _
  omega
theorem rng_oB:rng oB:=by unfold rng oB; omega
theorem rng_oC:rng oC:=by unfold rng oC; omega
theorem rng_oK:rng oK:=by unfold rng oK; omega
theorem iV_oB:iV oB=4503599627370499*2^970:=iV_posN rng_oB (by decide) (by decide) (by decide) (by decide)
theorem iV_oC:iV oC=5066549580791812*2^919:=iV_posN rng_oC (by decide) (by decide) (by decide) (by decide)
theorem iV_oK:iV oK=6755399441055746*2^970:=iV_posN rng_oK (by decide) (by decide) (by decide) (by decide)
theorem fx_pos {p m:Int} {n:Nat} (hr:rng p) (hp:pok p=true) (e:iV p=m*2^n) (m0:0<=m) (hm:m<=2^53):Fx n (n+53) p:=by
  refine ⟨hr,hp,⟨_,by rw [e,Int.mul_comm]⟩,?_⟩
  have q:=p2 n
  have:0<=m*2^n:=Int.mul_nonneg m0 (by omega)
  have e':((iV p).natAbs:Int)=m*2^n:=by omega
  rw [e',Int.pow_add,Int.mul_comm ((2:Int)^n)]
  exact Int.mul_le_mul_of_nonneg_right hm (by omega)
theorem fx_oB:Fx 970 1023 oB:=fx_pos rng_oB (by decide) iV_oB (by decide) (by decide)
theorem fx_oC:Fx 919 972 oC:=fx_pos rng_oC (by decide) iV_oC (by decide) (by decide)
theorem fx_oK:Fx 970 1023 oK:=fx_pos rng_oK (by decide) iV_oK (by decide) (by decide)
theorem Fx.dn {a a' b:Nat} {x:Int} (h:Fx a b x) (c:a'<=a):Fx a' b x:=⟨h.r,h.p,Int.dvd_trans (p2dvd c) h.d,h.b⟩
theorem hds_pat {ax ay bx by' cx cy:Int} (hax:Mz ax) (hay:Mz ay) (hbx:Mz bx) (hby:Mz by') (hcx:Mz cx) (hcy:Mz cy) {u1 v1 u2 v2 L R S D:Int} (e1:u1=fsum ax (neg cx)) (e2:v1=fsum ay (neg cy)) (e3:u2=fsum bx (neg cx)) (e4:v2=fsum by' (neg cy))
    (eL:L=fprod u1 v2) (eR:R=fprod v1 u2) (eS:S=fsum (rg L) (rg R)) (hD:Un (iV u1*iV v2-iV v1*iV u2) (2^1074*iV D)) (h:iV (fprod oB S)<=((iV D).natAbs:Int)) :
    (0<(iV ax-iV cx)*(iV by'-iV cy)-(iV ay-iV cy)*(iV bx-iV cx) ↔ 0<iV D)∧((iV ax-iV cx)*(iV by'-iV cy)-(iV ay-iV cy)*(iV bx-iV cx)<0 ↔ iV D<0):=by
  obtain ⟨F,a0,s0,s1,hX⟩:=flt_dev hax hay hbx hby hcx hcy e1 e2 e3 e4 eL eR eS
  have q:=p2 1074
  have q0:=Int.le_of_lt q
  have fS:Fx 670 1381 S:=by rw [eS,eL,eR]; exact F.s
  obtain ⟨_,_,T,hT,uT⟩:=fx_oB.prod fS (by decide) (by decide) (by decide)
  have hT':20282409603651670423947251286016*(2^1074*T)=4503599627370499*(2^1074*iV S):=by
    rw [hT,iV_oB,show (20282409603651670423947251286016:Int)=2^104 by decide,show (2:Int)^1074=2^104*2^970 by rw [<- Int.pow_add]]
    generalize (2:Int)^970=z
    generalize (2:Int)^104=y
    generalize iV S=x
    rw [Int.mul_assoc,Int.mul_assoc,Int.mul_left_comm]
  have hM:2^1074*iV (fprod oB S)<=((2^1074*iV D).natAbs:Int):=by
    rw [sc_abs q0]
    exact Int.mul_le_mul_of_nonneg_left h q0
  have lu:=F.lu
  have ru:=F.ru
  rw [<- eL] at lu
  rw [<- eR] at ru
  obtain ⟨r1,r2⟩:=hds_sign lu ru a0 s0 s1 hX hD hT' (uT.scale q0) hM
  rw [r1,r2]
  exact sc_sgn q
theorem Mz.lost {p q:Int} (hp:Mz p) (hq:Mz q):Fx 872 1226 (sL p (neg q))∧iV p-iV q=iV (fsum p (neg q))+iV (sL p (neg q))∧9007199254740992*((iV (sL p (neg q))).natAbs:Int)<=((iV (fsum p (neg q))).natAbs:Int):=by
  obtain ⟨n1,n2,n3⟩:=neg_facts hq.1 hq.2.1
  obtain ⟨f1,f2⟩:=df_fin hp hq
  have nr:=fsum_nr hp.1 n1 f2
  have e:=(sL_exact hp.1 n1 f2).2.2
  obtain ⟨s,u⟩:=hp.diff hq
  have el:iV (sL p (neg q))=iV p-iV q-iV (fsum p (neg q)):=by omega
  have k:9007199254740992*((iV (sL p (neg q))).natAbs:Int)<=((iV (fsum p (neg q))).natAbs:Int):=by
    have:=u.2
    rw [el]
    omega
  refine ⟨⟨sL_rng hp.1 n1,f2,?_,?_⟩,by omega,k⟩
  . rw [el]
    exact Int.dvd_sub (Int.dvd_sub hp.2.2.1 hq.2.2.1) s.d
  . have:=s.b
    omega
theorem t_c {x w y:Int} (hw:0<=w) (hx:x=81129638414606681695789005144064*562949953421312*w) (hy:y=5066549580791812*w):9*x<=81129638414606681695789005144064*y:=by
  subst hx hy
  omega
theorem t_k {x w y:Int} (hw:0<=w) (hx:x=9007199254740992*2251799813685248*w) (hy:y=6755399441055746*w):3*x<=9007199254740992*y:=by
  subst hx hy
  omega
theorem t_nn {T M:Int} (h:Un T M) (t:0<=T):0<=M:=by
  have:=g_low h t
  omega
theorem tlT {u1 v1 u2 v2 e1 f1 e2 f2:Int} (h1:Fx 872 1226 u1) (h2:Fx 872 1226 v1) (h3:Fx 872 1226 u2) (h4:Fx 872 1226 v2) (g1:Fx 872 1226 e1) (g2:Fx 872 1226 f1) (g3:Fx 872 1226 e2) (g4:Fx 872 1226 f2)
    (a1:9007199254740992*((iV e1).natAbs:Int)<=((iV u1).natAbs:Int)) (b1:9007199254740992*((iV f1).natAbs:Int)<=((iV v1).natAbs:Int)) (a2:9007199254740992*((iV e2).natAbs:Int)<=((iV u2).natAbs:Int)) (b2:9007199254740992*((iV f2).natAbs:Int)<=((iV v2).natAbs:Int)) {T:Int}
    (eT:T=fsum (fsum (fprod u1 f2) (fprod v2 e1)) (neg (fsum (fprod v1 e2) (fprod u2 f1)))) :
    Fx 670 1383 T∧100*(81129638414606681695789005144064*((((iV u1+iV e1)*(iV v2+iV f2)-(iV v1+iV f1)*(iV u2+iV e2))-((iV u1*iV v2-iV v1*iV u2)+2^1074*iV T)).natAbs:Int))<=703*(((iV u1*iV v2).natAbs:Int)+((iV v1*iV u2).natAbs:Int)):=by
  obtain ⟨p1,p1u,_⟩:=h1.prod g4 (by decide) (by decide) (by decide)
  obtain ⟨p2',p2u,_⟩:=h4.prod g1 (by decide) (by decide) (by decide)
  obtain ⟨q1,q1u,_⟩:=h2.prod g3 (by decide) (by decide) (by decide)
  obtain ⟨q2,q2u,_⟩:=h3.prod g2 (by decide) (by decide) (by decide)
  obtain ⟨l,lu⟩:=p1.sum p2' (by decide)
  obtain ⟨r,ru⟩:=q1.sum q2 (by decide)
  obtain ⟨nr,ne⟩:=r.neg
  obtain ⟨t,tu⟩:=l.sum nr (by decide)
  have q0:=Int.le_of_lt (p2 1074)
  have lu':=lu.scale q0
  have ru':=ru.scale q0
  rw [Int.mul_add] at lu' ru'
  have tu':=tu.scale q0
  rw [ne,<- Int.sub_eq_add_neg,Int.mul_sub] at tu'
  rw [eT]
  exact ⟨t,dev_tails a1 b1 a2 b2 p1u p2u q1u q2u lu' ru' tu'⟩
theorem tls_pat {ax ay bx by' cx cy:Int} (hax:Mz ax) (hay:Mz ay) (hbx:Mz bx) (hby:Mz by') (hcx:Mz cx) (hcy:Mz cy) {u1 v1 u2 v2 L R S h T d:Int} (e1:u1=fsum ax (neg cx)) (e2:v1=fsum ay (neg cy)) (e3:u2=fsum bx (neg cx)) (e4:v2=fsum by' (neg cy))
    (eL:L=fprod u1 v2) (eR:R=fprod v1 u2) (eS:S=fsum (rg L) (rg R)) (fh:Fx 670 1383 h) (hh:Un (iV u1*iV v2-iV v1*iV u2) (2^1074*iV h))
    (eT:T=fsum (fsum (fprod u1 (sL by' (neg cy))) (fprod v2 (sL ax (neg cx)))) (neg (fsum (fprod v1 (sL bx (neg cx))) (fprod u2 (sL ay (neg cy)))))) (ed:d=fsum h T) (hS:0<iV S)
    (hE:iV (fsum (fprod oC S) (fprod oK (rg h)))<=((iV d).natAbs:Int)) :
    (0<(iV ax-iV cx)*(iV by'-iV cy)-(iV ay-iV cy)*(iV bx-iV cx) ↔ 0<iV d)∧((iV ax-iV cx)*(iV by'-iV cy)-(iV ay-iV cy)*(iV bx-iV cx)<0 ↔ iV d<0):=by
  obtain ⟨F,a0,s0,s1,_⟩:=flt_dev hax hay hbx hby hcx hcy e1 e2 e3 e4 eL eR eS
  obtain ⟨l1,x1,k1⟩:=hax.lost hcx
  obtain ⟨l2,x2,k2⟩:=hay.lost hcy
  obtain ⟨l3,x3,k3⟩:=hbx.lost hcx
  obtain ⟨l4,x4,k4⟩:=hby.lost hcy
  have f1:=(hax.diff hcx).1
  have f2:=(hay.diff hcy).1
  have f3:=(hbx.diff hcx).1
  have f4:=(hby.diff hcy).1
  rw [<- e1] at f1 x1 k1
  rw [<- e2] at f2 x2 k2
  rw [<- e3] at f3 x3 k3
  rw [<- e4] at f4 x4 k4
  obtain ⟨fT,hX⟩:=tlT f1 f2 f3 f4 l1 l2 l3 l4 k1 k2 k3 k4 eT
  rw [<- x1,<- x2,<- x3,<- x4] at hX
  have q:=p2 1074
  have q0:=Int.le_of_lt q
  have fS:Fx 670 1381 S:=by rw [eS,eL,eR]; exact F.s
  obtain ⟨fa,fe⟩:=fh.abs
  obtain ⟨c1,_,T1,hT1,uT1⟩:=fx_oC.prod fS (by decide) (by decide) (by decide)
  obtain ⟨c2,_,T2,hT2,uT2⟩:=fx_oK.prod fa (by decide) (by decide) (by decide)
  obtain ⟨_,uE⟩:=(c1.up (b':=1400) (by decide)).sum ((c2.dn (a':=919+670-1074) (by decide)).up (by decide)) (by decide)
  obtain ⟨_,ud⟩:=fh.sum fT (by decide)
  rw [<- ed] at ud
  have hc:9*(2^1074*iV S)<=81129638414606681695789005144064*(2^1074*T1):=by
    refine t_c (w:=2^919*iV S) (Int.mul_nonneg (Int.le_of_lt (p2 919)) (by omega)) ?_ ?_
    . rw [<- Int.mul_assoc,show (81129638414606681695789005144064*562949953421312:Int)=2^155 by decide,<- Int.pow_add]
    . rw [hT1,iV_oC,Int.mul_assoc]
  have hk:3*((2^1074*iV h).natAbs:Int)<=9007199254740992*(2^1074*T2):=by
    refine t_k (w:=2^970*((iV h).natAbs:Int)) (Int.mul_nonneg (Int.le_of_lt (p2 970)) (by omega)) ?_ ?_
    . rw [sc_abs q0,<- Int.mul_assoc,show (9007199254740992*2251799813685248:Int)=2^104 by decide,<- Int.pow_add]
    . rw [hT2,iV_oK,fe,Int.mul_assoc]
  have sp:0<2^1074*iV S:=Int.mul_pos q hS
  have t1:0<=2^1074*T1:=Int.le_of_lt (kf_pos (by decide) (by decide) hc sp)
  have t2:0<=2^1074*T2:=by
    generalize 2^1074*T2=z at *
    clear hX a0 s0 hc
    omega
  have uc:=uT1.scale q0
  have uk:=uT2.scale q0
  have uE':=uE.scale q0
  rw [Int.mul_add] at uE'
  have ud':=ud.scale q0
  rw [Int.mul_add] at ud'
  have hE':2^1074*iV (fsum (fprod oC S) (fprod oK (rg h)))<=((2^1074*iV d).natAbs:Int):=by
    rw [sc_abs q0]
    exact Int.mul_le_mul_of_nonneg_left hE q0
  obtain ⟨r1,r2⟩:=tls_sign hX a0 s0 (Int.add_nonneg (Int.natCast_nonneg _) (Int.natCast_nonneg _)) sp hh ud' hc hk t1 t2 uc uk (t_nn uc t1) (t_nn uk t2) uE' hE'
  rw [r1,r2]
  exact sc_sgn q
end Go.Proofs.YtmmnoneehiibiaaGreatDoor
namespace Go.Proofs.YtmmnoneehiibiaaGreatDoor.M
open Go Ieee
def nn (p:Int):Prop:=rng p∧¬ cls p=4
def minP (a b:Int):Int:=if key a<key b then a else if key b<key a then b else if a=b then a else -9223372036854775808
def maxP (a b:Int):Int:=if key a<key b then b else if key b<key a then a else if a=b then a else 0
theorem key_zeros {a b:Int} (ha:rng a) (hb:rng b) (h:key a=key b) (hn:¬ a=b):(a=0∧b=-9223372036854775808)∨(a=-9223372036854775808∧b=0):=by
  unfold key rng at *
  split at h <;> split at h <;> omega
theorem nn0:nn 0∧nn (-9223372036854775808):=by refine ⟨⟨?_,by decide⟩,⟨?_,by decide⟩⟩ <;> (unfold rng; omega)
theorem minP_nn {a b:Int} (ha:nn a) (hb:nn b):nn (minP a b)∧key (minP a b)<=key a∧key (minP a b)<=key b∧(key (minP a b)=key a∨key (minP a b)=key b):=by
  unfold minP
  split
  . exact ⟨ha,by omega,by omega,.inl rfl⟩
  . split
    . exact ⟨hb,by omega,by omega,.inr rfl⟩
    . split
      . exact ⟨ha,by omega,by omega,.inl rfl⟩
      . have e:key a=key b:=by omega
        have e0:key (-9223372036854775808)=0:=by decide
        have e1:key 0=0:=by decide
        rcases key_zeros ha.1 hb.1 e (by assumption) with ⟨rfl,rfl⟩ | ⟨rfl,rfl⟩
        . exact ⟨nn0.2,by omega,by omega,.inr rfl⟩
        . exact ⟨nn0.2,by omega,by omega,.inl rfl⟩
theorem maxP_nn {a b:Int} (ha:nn a) (hb:nn b):nn (maxP a b)∧key a<=key (maxP a b)∧key b<=key (maxP a b)∧(key (maxP a b)=key a∨key (maxP a b)=key b):=by
  unfold maxP
  split
  . exact ⟨hb,by omega,by omega,.inr rfl⟩
  . split
    . exact ⟨ha,by omega,by omega,.inl rfl⟩
    . split
      . exact ⟨ha,by omega,by omega,.inl rfl⟩
      . have e:key a=key b:=by omega
        have e0:key (-9223372036854775808)=0:=by decide
        have e1:key 0=0:=by decide
        rcases key_zeros ha.1 hb.1 e (by assumption) with ⟨rfl,rfl⟩ | ⟨rfl,rfl⟩
        . exact ⟨nn0.1,by omega,by omega,.inl rfl⟩
        . exact ⟨nn0.1,by omega,by omega,.inr rfl⟩
def vld (lo hi:Int):Bool:=decide (¬ cls lo=4∧¬ cls hi=4∧key lo<=key hi∧key lo<9218868437227405312∧-9218868437227405312<key hi)
theorem vld_iff {lo hi:Int}:vld lo hi=true ↔ ¬ cls lo=4∧¬ cls hi=4∧key lo<=key hi∧key lo<9218868437227405312∧-9218868437227405312<key hi:=by unfold vld; exact decide_eq_true_iff
theorem key_canon {p:Int} (h:nn p):key (canon p)=key p∧nn (canon p):=by
  have h0:=cls0 h.1
  unfold canon
  rw [if_neg h.2]
  split
  . rename_i hz
    rcases h0.1 hz with rfl | rfl
    . exact ⟨rfl,nn0.1⟩
    . exact ⟨by decide,nn0.1⟩
  . exact ⟨rfl,h⟩
end Go.Proofs.YtmmnoneehiibiaaGreatDoor.M
namespace Go.Proofs.YtmmnoneehiibiaaGreatDoor
open Go Go.RowKit Go.Proofs.YtmmnoneehiibiaaGreatDoor.M
theorem q_coord {b:Int} (hb:rng b) (w:World) :
    Calls Tryz.prog 25 #[.int .i64 b] w fun e w'=>e=.returned (.bool (pok b))∧w'=w:=by
  have hb':=hb
  unfold rng at hb'
  have hm:bits .and .i64 (b/4503599627370496) 2047=fld b:=and_i64_mask (b/4503599627370496) 11 (by omega)
  go_enter Tryz.func25,Tryz.ntmps25
  go_wp2
  go_ret
  exact ⟨b_ret_bool (by unfold pok; by_cases h:fld b=2047 <;> simp [h]),rfl⟩
theorem q_refFinite {x y:Int} (hx:rng x) (hy:rng y) (w:World) :
    Calls Tryz.prog 14 #[.agg #[.int .i64 x,.int .i64 y]] w fun e w'=>e=.returned (.bool (pok x && pok y))∧Below w.heap.size w w':=by
  cases h1:pok x <;> cases h2:pok y
  all_goals
    go_enter Tryz.func14,Tryz.ntmps14
    go_wp2_with fail
    refine (q_coord hx _).mono ?_
    rintro _ _ ⟨rfl,rfl⟩
    go_wp2_with fail
    refine (q_coord hy _).mono ?_
    rintro _ _ ⟨rfl,rfl⟩
    go_wp2
    go_ret
    exact ⟨rfl,bel_alloc _ _⟩
theorem q_rank {b:Int} (hb:rng b) (w:World) :
    Calls Tryz.prog 28 #[.int .i64 b] w fun e w'=>e=.returned (.int .i64 (key b))∧w'=w:=by
  unfold rng at hb
  by_cases h:b<0
  . have hr:key b=-(b+9223372036854775808):=by unfold key; rw [if_pos h]
    go_enter Tryz.func28,Tryz.ntmps28
    go_wp2
    go_ret
    exact ⟨b_ret_int (by first | rfl | omega | (rw [hr]; omega)),rfl⟩
  . have hr:key b=b:=by unfold key; rw [if_neg h]
    go_enter Tryz.func28,Tryz.ntmps28
    go_wp2
    go_ret
    exact ⟨b_ret_int (by first | rfl | exact hr.symm),rfl⟩
set_option maxRecDepth 100000 in
theorem q_refCmp {ax ay bx by':Int} (hax:rng ax) (hay:rng ay) (hbx:rng bx) (hby:rng by') (w:World) :
    Calls Tryz.prog 16 #[.agg #[.int .i64 ax,.int .i64 ay],.agg #[.int .i64 bx,.int .i64 by']] w fun e w'=>e=.returned (.int .i64 (pcmp ax ay bx by'))∧Below w.heap.size w w':=by
  have C1:Hid (∀ W,Calls Tryz.prog 28 #[.int .i64 ax] W fun e w'=>e=.returned (.int .i64 (key ax))∧w'=W):=fun W=>q_rank hax W
  have C2:Hid (∀ W,Calls Tryz.prog 28 #[.int .i64 bx] W fun e w'=>e=.returned (.int .i64 (key bx))∧w'=W):=fun W=>q_rank hbx W
  have C3:Hid (∀ W,Calls Tryz.prog 28 #[.int .i64 ay] W fun e w'=>e=.returned (.int .i64 (key ay))∧w'=W):=fun W=>q_rank hay W
  have C4:Hid (∀ W,Calls Tryz.prog 28 #[.int .i64 by'] W fun e w'=>e=.returned (.int .i64 (key by'))∧w'=W):=fun W=>q_rank hby W
  have r1:=rng_key hax
  have r2:=rng_key hay
  have r3:=rng_key hbx
  have r4:=rng_key hby
  unfold pcmp
  clear hax hay hbx hby
  generalize key ax=A at *
  generalize key bx=B at *
  generalize key ay=C at *
  generalize key by'=D at *
  have hbe:=bel_alloc2 w (.cells #[.int .i64 ax,.int .i64 ay] 23) (.cells #[.int .i64 bx,.int .i64 by'] 23)
  by_cases h:A=B
  . subst h
    rw [if_pos rfl]
    rcases Int.lt_trichotomy C D with k | k | k
    . have e:cmp C D=-1:=by unfold cmp; rw [if_pos k]
      go_enter Tryz.func16,Tryz.ntmps16
      go_wp2_with fail
      refine (C1.out _).mono ?_
      rintro _ _ ⟨rfl,rfl⟩
      go_wp2_with fail
      refine (C2.out _).mono ?_
      rintro _ _ ⟨rfl,rfl⟩
      go_wp2_with fail
      refine (C3.out _).mono ?_
      rintro _ _ ⟨rfl,rfl⟩
      go_wp2_with fail
      refine (C4.out _).mono ?_
      rintro _ _ ⟨rfl,rfl⟩
      go_wp2
      go_ret
      exact ⟨b_ret_int e.symm,hbe⟩
    . have e:cmp C D=0:=by unfold cmp; rw [if_neg (by omega),if_neg (by omega)]
      have k2:¬ C<D:=by omega
      have k3:¬ D<C:=by omega
      go_enter Tryz.func16,Tryz.ntmps16
      go_wp2_with fail
      refine (C1.out _).mono ?_
      rintro _ _ ⟨rfl,rfl⟩
      go_wp2_with fail
      refine (C2.out _).mono ?_
      rintro _ _ ⟨rfl,rfl⟩
      go_wp2_with fail
      refine (C3.out _).mono ?_
      rintro _ _ ⟨rfl,rfl⟩
      go_wp2_with fail
      refine (C4.out _).mono ?_
      rintro _ _ ⟨rfl,rfl⟩
      clear k
      go_wp2
      go_ret
      exact ⟨b_ret_int e.symm,hbe⟩
    . have e:cmp C D=1:=by unfold cmp; rw [if_neg (by omega),if_pos k]
      have k2:¬ C<D:=by omega
      go_enter Tryz.func16,Tryz.ntmps16
      go_wp2_with fail
      refine (C1.out _).mono ?_
      rintro _ _ ⟨rfl,rfl⟩
      go_wp2_with fail
      refine (C2.out _).mono ?_
      rintro _ _ ⟨rfl,rfl⟩
      go_wp2_with fail
      refine (C3.out _).mono ?_
      rintro _ _ ⟨rfl,rfl⟩
      go_wp2_with fail
      refine (C4.out _).mono ?_
      rintro _ _ ⟨rfl,rfl⟩
      go_wp2
      go_ret
      exact ⟨b_ret_int e.symm,hbe⟩
  . rw [if_neg h]
    rcases Int.lt_trichotomy A B with k | k | k
    . have e:cmp A B=-1:=by unfold cmp; rw [if_pos k]
      go_enter Tryz.func16,Tryz.ntmps16
      go_wp2_with fail
      refine (C1.out _).mono ?_
      rintro _ _ ⟨rfl,rfl⟩
      go_wp2_with fail
      refine (C2.out _).mono ?_
      rintro _ _ ⟨rfl,rfl⟩
      go_wp2
      go_ret
      exact ⟨b_ret_int e.symm,hbe⟩
    . omega
    . have e:cmp A B=1:=by unfold cmp; rw [if_neg (by omega),if_pos k]
      have k2:¬ A<B:=by omega
      go_enter Tryz.func16,Tryz.ntmps16
      go_wp2_with fail
      refine (C1.out _).mono ?_
      rintro _ _ ⟨rfl,rfl⟩
      go_wp2_with fail
      refine (C2.out _).mono ?_
      rintro _ _ ⟨rfl,rfl⟩
      go_wp2
      go_ret
      exact ⟨b_ret_int e.symm,hbe⟩
theorem q_cell {w w':World} {p:Addr} {v:Value} (h:w.cell? p=some v) (hb:Below w.heap.size w w'):w'.cell? p=some v :=
  (hb.cell (World.block_lt_of_cell? w _ h)).trans h
theorem Q4.keeps {a b:Nat} {x0 x1 x2 x3:Value} {W W':World} (h:W.cell? ⟨a,0,none⟩=some x0∧W.cell? ⟨a,1,none⟩=some x1∧W.cell? ⟨b,0,none⟩=some x2∧W.cell? ⟨b,1,none⟩=some x3) (hb:Below W.heap.size W W') :
    W'.cell? ⟨a,0,none⟩=some x0∧W'.cell? ⟨a,1,none⟩=some x1∧W'.cell? ⟨b,0,none⟩=some x2∧W'.cell? ⟨b,1,none⟩=some x3 :=
  ⟨q_cell h.1 hb,q_cell h.2.1 hb,q_cell h.2.2.1 hb,q_cell h.2.2.2 hb⟩
def cmpF (ok:Bool) (c:Int):Int:=if ok then c else 0
set_option maxRecDepth 100000 in
theorem pointCmp {ax ay bx by':Int} (hax:rng ax) (hay:rng ay) (hbx:rng bx) (hby:rng by') (w:World) :
    Calls Tryz.prog 12 #[.agg #[.int .i64 ax,.int .i64 ay],.agg #[.int .i64 bx,.int .i64 by']] w fun e w'=>e=.returned (.tuple #[.int .i64 (cmpF ((pok ax && pok ay) && (pok bx && pok by')) (pcmp ax ay bx by')),.int .i64 (errF ((pok ax && pok ay) && (pok bx && pok by')))])∧Below w.heap.size w w':=by
  have CA:Hid (∀ W,Calls Tryz.prog 18 #[.agg #[.int .i64 ax,.int .i64 ay]] W fun e w'=>e=.returned (.int .i64 (errF (pok ax && pok ay)))∧Below W.heap.size W w'):=fun W=>pointCheck hax hay W
  have CB:Hid (∀ W,Calls Tryz.prog 18 #[.agg #[.int .i64 bx,.int .i64 by']] W fun e w'=>e=.returned (.int .i64 (errF (pok bx && pok by')))∧Below W.heap.size W w'):=fun W=>pointCheck hbx hby W
  have hb2:=bel_alloc2 w (.cells #[.int .i64 ax,.int .i64 ay] 23) (.cells #[.int .i64 bx,.int .i64 by'] 23)
  have p0:=heap_a2 w (.cells #[.int .i64 ax,.int .i64 ay] 23) (.cells #[.int .i64 bx,.int .i64 by'] 23)
  have p1:=heap_b2 w (.cells #[.int .i64 ax,.int .i64 ay] 23) (.cells #[.int .i64 bx,.int .i64 by'] 23)
  have CO:Hid ((pok ax && pok ay)=true->(pok bx && pok by')=true->∀ W,Calls Tryz.prog 20 #[.agg #[.float .f64 (wd ax),.float .f64 (wd ay)],.agg #[.float .f64 (wd bx),.float .f64 (wd by')]] W fun e w'=>e=.returned (.int .i64 (pcmp ax ay bx by'))∧Below W.heap.size W w'):=fun h1 h2 W=>by
    obtain ⟨pax,pay⟩:=Bool.and_eq_true_iff.1 h1
    obtain ⟨pbx,pby⟩:=Bool.and_eq_true_iff.1 h2
    exact place_order hax hay hbx hby pax pay pbx pby W
  have e0:errF true=0:=rfl
  have e1:errF false=10:=rfl
  have CP:=fun W=>place_of ax ay W
  have CQ:=fun W=>place_of bx by' W
  clear hax hay hbx hby
  generalize (pok ax && pok ay)=P at *
  generalize (pok bx && pok by')=Q at *
  generalize pcmp ax ay bx by'=R at *
  cases P
  . rw [e1] at CA
    go_enter Tryz.func12,Tryz.ntmps12
    go_wp2_with fail
    generalize (w.alloc (.cells #[.int .i64 ax,.int .i64 ay] 23)).alloc (.cells #[.int .i64 bx,.int .i64 by'] 23)=wx at *
    refine (CA.out _).mono ?_
    rintro _ w1 ⟨rfl,hb3⟩
    go_wp2
    refine bodyPost_ret (v:=.tuple #[.int .i64 0,.int .i64 10]) (by simp [results,Tryz.results12,go_sem]) rfl ⟨rfl,bel_trans hb2 hb3⟩
  cases Q
  . rw [e0] at CA
    rw [e1] at CB
    go_enter Tryz.func12,Tryz.ntmps12
    go_wp2_with fail
    generalize (w.alloc (.cells #[.int .i64 ax,.int .i64 ay] 23)).alloc (.cells #[.int .i64 bx,.int .i64 by'] 23)=wx at *
    refine (CA.out _).mono ?_
    rintro _ w1 ⟨rfl,hb3⟩
    have p11:=(hb3.block _ (Array.getElem?_eq_some_iff.1 p1).1).trans p1
    have k0:=blkC p11 0 rfl
    have k1:=blkC p11 1 rfl
    go_wp2_with fail
    refine (CB.out _).mono ?_
    rintro _ w2 ⟨rfl,hb4⟩
    go_wp2
    refine bodyPost_ret (v:=.tuple #[.int .i64 0,.int .i64 10]) (by simp [results,Tryz.results12,go_sem]) rfl ⟨rfl,bel_trans hb2 (bel_trans hb3 hb4)⟩
  have CO':Hid (∀ W,Calls Tryz.prog 20 #[.agg #[.float .f64 (wd ax),.float .f64 (wd ay)],.agg #[.float .f64 (wd bx),.float .f64 (wd by')]] W fun e w'=>e=.returned (.int .i64 R)∧Below W.heap.size W w'):=CO.out rfl rfl
  rw [e0] at CA CB
  go_enter Tryz.func12,Tryz.ntmps12
  go_wp2_with fail
  generalize (w.alloc (.cells #[.int .i64 ax,.int .i64 ay] 23)).alloc (.cells #[.int .i64 bx,.int .i64 by'] 23)=wx at *
  refine (CA.out _).mono ?_
  rintro _ w1 ⟨rfl,hb3⟩
  have p01:=(hb3.block _ (Array.getElem?_eq_some_iff.1 p0).1).trans p0
  have p11:=(hb3.block _ (Array.getElem?_eq_some_iff.1 p1).1).trans p1
  have k0:=blkC p11 0 rfl
  have k1:=blkC p11 1 rfl
  go_wp2_with fail
  refine (CB.out _).mono ?_
  rintro _ w2 ⟨rfl,hb4⟩
  have p02:=(hb4.block _ (Array.getElem?_eq_some_iff.1 p01).1).trans p01
  have p12:=(hb4.block _ (Array.getElem?_eq_some_iff.1 p11).1).trans p11
  have c0:=blkC p02 0 rfl
  have c1:=blkC p02 1 rfl
  have c2:=blkC p12 0 rfl
  have c3:=blkC p12 1 rfl
  have hbw:=bel_trans hb2 (bel_trans hb3 hb4)
  clear CA CB p0 p1 p01 p11 k0 k1 hb2 hb3 hb4
  have kk:w2.cell? ⟨w.heap.size,0,none⟩=some (.int .i64 ax)∧w2.cell? ⟨w.heap.size,1,none⟩=some (.int .i64 ay)∧w2.cell? ⟨w.heap.size+1,0,none⟩=some (.int .i64 bx)∧w2.cell? ⟨w.heap.size+1,1,none⟩=some (.int .i64 by'):=⟨c0,c1,c2,c3⟩
  have hdr:Below w2.heap.size w2 w2.drew:=(bel_refl w2).drew
  have kd:=Q4.keeps kk hdr
  clear CO
  go_wp2_with fail
  go_region_held3 (fun W=>W.cell? ⟨w.heap.size,0,none⟩=some (.int .i64 ax)∧W.cell? ⟨w.heap.size,1,none⟩=some (.int .i64 ay)∧W.cell? ⟨w.heap.size+1,0,none⟩=some (.int .i64 bx)∧W.cell? ⟨w.heap.size+1,1,none⟩=some (.int .i64 by'))
    (first | assumption | exact kd | exact kk1 | exact kk2 | exact kk3)
    (first
      | (go_at_call 20; refine (CO'.out _).mono ?_; rintro _ w5 ⟨rfl,hb5⟩; have kk3:=Q4.keeps kk2 hb5)
      | (go_at_call 19; have _t:=hb3; refine (CQ _).mono ?_; rintro _ w4 ⟨rfl,hb4⟩; have kk2:=Q4.keeps kk1 hb4)
      | (go_at_call 19; refine (CP _).mono ?_; rintro _ w3 ⟨rfl,hb3⟩; have kk1:=Q4.keeps kd hb3))
  go_wp2
  refine bodyPost_ret (v:=.tuple #[.int .i64 R,.int .i64 0]) (by simp [results,Tryz.results12,go_sem]) rfl ⟨rfl,bel_trans hbw (bel_trans hdr (bel_trans hb3 (bel_trans hb4 hb5)))⟩
def ivl (lo hi:Int):Value:=.agg #[.float .f64 (wd lo),.float .f64 (wd hi)]
def spn (lo hi:Int):Value:=.agg #[.int .i64 lo,.int .i64 hi]
set_option maxRecDepth 100000 in
theorem spanReadX (x y:Int) (w:World) :
    Calls Tryz.prog 72 #[spn x y] w fun e w'=>e=.returned (ivl x y)∧w'=((w.alloc (.cells #[.int .i64 x,.int .i64 y] 77)).alloc (.cells #[.float .f64 (wd x),.float .f64 (wd y)] 103)).drew:=by
  unfold spn ivl
  have hx:Hid ((((w.alloc (.cells #[.int .i64 x,.int .i64 y] 77)).alloc (.cells #[.float .f64 0,.float .f64 0] 103)).setCell ⟨w.heap.size+1,0,none⟩ (.float .f64 (wd x))).setCell ⟨w.heap.size+1,1,none⟩ (.float .f64 (wd y))=(w.alloc (.cells #[.int .i64 x,.int .i64 y] 77)).alloc (.cells #[.float .f64 (wd x),.float .f64 (wd y)] 103)):=by
    unfold Hid
    rw [World.setCell_alloc_at _ _ _ _ _ (by simp),World.setCell_alloc_at _ _ _ _ _ (by simp)]
    rfl
  have hb2:=bel_alloc2 w (.cells #[.int .i64 x,.int .i64 y] 77) (.cells #[.float .f64 0,.float .f64 0] 103)
  have q0:=heap_a2 w (.cells #[.int .i64 x,.int .i64 y] 77) (.cells #[.float .f64 0,.float .f64 0] 103)
  have q1:=heap_b2 w (.cells #[.int .i64 x,.int .i64 y] 77) (.cells #[.float .f64 0,.float .f64 0] 103)
  have hs:=size2 w (.cells #[.int .i64 x,.int .i64 y] 77) (.cells #[.float .f64 0,.float .f64 0] 103)
  have k0:=blkC q0 0 rfl
  have k1:=blkC q0 1 rfl
  go_enter Tryz.func72,Tryz.ntmps72
  go_wp2_with fail
  generalize hwx:(w.alloc (.cells #[.int .i64 x,.int .i64 y] 77)).alloc (.cells #[.float .f64 0,.float .f64 0] 103)=wx at hb2 q0 q1 hs k0 k1 hx ⊢
  clear hwx
  have hc:w.heap.size<w.heap.size+1∧w.heap.size+1<=wx.drew.heap.size∧wx.drew.cell? ⟨w.heap.size,0,none⟩=some (.int .i64 x)∧wx.drew.cell? ⟨w.heap.size,1,none⟩=some (.int .i64 y):=⟨by omega,by show _<=wx.heap.size; omega,k0,k1⟩
  have d1:wx.drew.heap[w.heap.size+1]?=some (.cells #[.float .f64 0,.float .f64 0] 103 (0,0)):=q1
  have d2:((wx.setCell ⟨w.heap.size+1,0,none⟩ (.float .f64 (wd x))).drew).heap[w.heap.size+1]?=some (.cells #[.float .f64 (wd x),.float .f64 0] 103 (0,0)):=q_heap_set d1 0 (.float .f64 (wd x))
  have d3:(((wx.setCell ⟨w.heap.size+1,0,none⟩ (.float .f64 (wd x))).setCell ⟨w.heap.size+1,1,none⟩ (.float .f64 (wd y))).drew).heap[w.heap.size+1]?=some (.cells #[.float .f64 (wd x),.float .f64 (wd y)] 103 (0,0)):=q_heap_set d2 1 (.float .f64 (wd y))
  have f0:=blkC d1 0 rfl
  have z0:=blkF d1 0
  have f1:=blkC d2 1 rfl
  have z1:=blkF d2 1
  have s0:(store ⟨w.heap.size+1,0,none⟩ (.float .f64 (wd x))).run Tryz.prog wx.drew=.ok () ((wx.setCell ⟨w.heap.size+1,0,none⟩ (.float .f64 (wd x))).drew):=by rw [run_store _ _ _ _ _ rfl,f0]; simp only [z0]; rfl
  have s1:(store ⟨w.heap.size+1,1,none⟩ (.float .f64 (wd y))).run Tryz.prog ((wx.setCell ⟨w.heap.size+1,0,none⟩ (.float .f64 (wd x))).drew)=.ok () (((wx.setCell ⟨w.heap.size+1,0,none⟩ (.float .f64 (wd x))).setCell ⟨w.heap.size+1,1,none⟩ (.float .f64 (wd y))).drew):=by rw [run_store _ _ _ _ _ rfl,f1]; simp only [z1]; rfl
  go_region_held3 (fun W=>w.heap.size<w.heap.size+1∧w.heap.size+1<=W.heap.size∧W.cell? ⟨w.heap.size,0,none⟩=some (.int .i64 x)∧W.cell? ⟨w.heap.size,1,none⟩=some (.int .i64 y))
    (first | assumption | (repeat (first | exact hc | refine q_two_set (by omega) ?_)))
    ((go_at_call 32; refine (bitsFloat _ _).mono ?_; rintro _ _ ⟨rfl,rfl⟩))
  have e0:=blkC d3 0 rfl
  have e1:=blkC d3 1 rfl
  clear s0 s1 f0 f1 z0 z1 d1 d2 d3
  generalize (wx.setCell ⟨w.heap.size+1,0,none⟩ (.float .f64 (wd x))).setCell ⟨w.heap.size+1,1,none⟩ (.float .f64 (wd y))=wy at *
  go_wp2
  refine bodyPost_ret (v:=.agg #[.float .f64 (wd x),.float .f64 (wd y)]) (by simp [results,Tryz.results72,go_sem,e0,e1]) rfl ⟨rfl,by rw [hx.out]⟩
theorem spanRead (x y:Int) (w:World) :
    Calls Tryz.prog 72 #[spn x y] w fun e w'=>e=.returned (ivl x y)∧Below w.heap.size w w' :=
  (spanReadX x y w).mono fun _ _ ⟨h1,h2⟩=>⟨h1,by rw [h2]; exact (bel_alloc2 w _ _).drew⟩
theorem isInf_up {p:Int} (h:nn p) (w:World) :
    Calls Tryz.prog 103 #[.float .f64 (wd p),.int .i64 1] w fun e w'=>e=.returned (.bool (decide (9218868437227405312<=key p)))∧w'=w:=by
  have r:rng 9218868437227405311:=by unfold rng; omega
  have c:¬ cls 9218868437227405311=4:=by decide
  have k:key 9218868437227405311=9218868437227405311:=by decide
  have e:wd 9218868437227405311=9218868437227405311:=by decide
  rcases Int.lt_trichotomy (key p) 9218868437227405311 with g | g | g
  . have o:=q_lt h.1 r h.2 c (by rw [k]; exact g)
    rw [e] at o
    rw [decide_eq_false (by omega)]
    go_enter Tryz.func103,Tryz.ntmps103
    go_wp2
    go_ret
    exact ⟨rfl,rfl⟩
  . have o:=q_eq h.1 r h.2 c (by rw [k]; exact g)
    rw [e] at o
    rw [decide_eq_false (by omega)]
    go_enter Tryz.func103,Tryz.ntmps103
    go_wp2
    go_ret
    exact ⟨rfl,rfl⟩
  . have o:=q_gt h.1 r h.2 c (by rw [k]; exact g)
    rw [e] at o
    rw [decide_eq_true (by omega)]
    go_enter Tryz.func103,Tryz.ntmps103
    go_wp2
    go_ret
    exact ⟨rfl,rfl⟩
theorem neg_wd {p:Int} (h:nn p):Op.negFloat .f64 (wd p)=wd (neg p):=by
  have hr:=h.1
  unfold Op.negFloat
  show wd p ^^^ 2^63=_
  unfold neg
  rw [if_neg h.2]
  unfold rng at hr
  by_cases h0:p<0
  . rw [if_pos h0]
    have e:wd p=2^63+wd (p+9223372036854775808):=by unfold wd; omega
    rw [e,xor_top' 63 _ (by unfold wd; omega)]
  . rw [if_neg h0,Nat.xor_comm,xor_top 63 _ (by unfold wd; omega)]
    unfold wd; omega
theorem run_negF {P:Program} {p:Int} (h:nn p) (w:World):(Op.unary UnOp.neg (.float .f64 (wd p))).run P w=.ok (.float .f64 (wd (neg p))) w:=by
  show (pure (Value.float .f64 (Op.negFloat .f64 (wd p))):Sem Value).run P w=_
  rw [neg_wd h]
  rfl
theorem nn_neg {p:Int} (h:nn p):nn (neg p)∧key (neg p)=- key p:=by
  obtain ⟨a,b⟩:=key_neg h.1 h.2
  exact ⟨⟨rng_neg h.1,b⟩,a⟩
theorem isInf_down {p:Int} (h:nn p) (w:World) :
    Calls Tryz.prog 103 #[.float .f64 (wd p),.int .i64 (-1)] w fun e w'=>e=.returned (.bool (decide (key p <= -9218868437227405312)))∧w'=w:=by
  have r:rng 9218868437227405311:=by unfold rng; omega
  have c:¬ cls 9218868437227405311=4:=by decide
  have k:key 9218868437227405311=9218868437227405311:=by decide
  have e:wd 9218868437227405311=9218868437227405311:=by decide
  have hN:=fun W=>run_negF (P:=Tryz.prog) h W
  obtain ⟨g0,g1⟩:=nn_neg h
  rcases Int.lt_trichotomy (key (neg p)) 9218868437227405311 with g | g | g
  . have o:=q_lt g0.1 r g0.2 c (by rw [k]; exact g)
    rw [e] at o
    rw [decide_eq_false (by omega)]
    clear g1 g
    go_enter Tryz.func103,Tryz.ntmps103
    go_wp2
    go_ret
    exact ⟨rfl,rfl⟩
  . have o:=q_eq g0.1 r g0.2 c (by rw [k]; exact g)
    rw [e] at o
    rw [decide_eq_false (by omega)]
    clear g1 g
    go_enter Tryz.func103,Tryz.ntmps103
    go_wp2
    go_ret
    exact ⟨rfl,rfl⟩
  . have o:=q_gt g0.1 r g0.2 c (by rw [k]; exact g)
    rw [e] at o
    rw [decide_eq_true (by omega)]
    clear g1 g
    go_enter Tryz.func103,Tryz.ntmps103
    go_wp2
    go_ret
    exact ⟨rfl,rfl⟩
set_option maxRecDepth 100000 in
theorem ivlValid {lo hi:Int} (hl:rng lo) (hh:rng hi) (w:World) :
    Calls Tryz.prog 73 #[ivl lo hi] w fun e w'=>e=.returned (.bool (vld lo hi))∧Below w.heap.size w w':=by
  unfold ivl
  by_cases h4:cls lo=4∨cls hi=4
  . have o:=order64_nan hl hh h4
    rw [show vld lo hi=false from decide_eq_false (fun h=>by rcases h4 with g | g; exact h.1 g; exact h.2.1 g)]
    go_enter Tryz.func73,Tryz.ntmps73
    go_wp2
    go_ret
    exact ⟨rfl,bel_alloc _ _⟩
  have h1:¬ cls lo=4:=fun h=>h4 (.inl h)
  have h2:¬ cls hi=4:=fun h=>h4 (.inr h)
  have CU:Hid (∀ W,Calls Tryz.prog 103 #[.float .f64 (wd lo),.int .i64 1] W fun e w'=>e=.returned (.bool (decide (9218868437227405312<=key lo)))∧w'=W):=fun W=>isInf_up ⟨hl,h1⟩ W
  have CD:Hid (∀ W,Calls Tryz.prog 103 #[.float .f64 (wd hi),.int .i64 (-1)] W fun e w'=>e=.returned (.bool (decide (key hi <= -9218868437227405312)))∧w'=W):=fun W=>isInf_down ⟨hh,h2⟩ W
  have q0:(w.alloc (.cells #[.float .f64 (wd lo),.float .f64 (wd hi)] 103)).heap[w.heap.size]?=some (.cells #[.float .f64 (wd lo),.float .f64 (wd hi)] 103 (0,0)):=by show (w.heap.push _)[w.heap.size]?=_; simp
  have k0:=blkC q0 0 rfl
  have k1:=blkC q0 1 rfl
  have hb:=bel_alloc w (.cells #[.float .f64 (wd lo),.float .f64 (wd hi)] 103)
  by_cases g:key hi<key lo
  . have o:=q_gt hl hh h1 h2 g
    rw [show vld lo hi=false from decide_eq_false (fun h=>by omega)]
    clear CU CD
    go_enter Tryz.func73,Tryz.ntmps73
    go_wp2
    go_ret
    exact ⟨rfl,bel_alloc _ _⟩
  have o:FloatKind.f64.format.order (wd lo) (wd hi)=some .lt∨FloatKind.f64.format.order (wd lo) (wd hi)=some .eq:=by
    by_cases e:key lo=key hi
    . exact .inr (q_eq hl hh h1 h2 e)
    . exact .inl (q_lt hl hh h1 h2 (by omega))
  by_cases a:9218868437227405312<=key lo
  . rw [show vld lo hi=false from decide_eq_false (fun h=>by omega)]
    rw [decide_eq_true a] at CU
    clear h4 g a CD q0 k0 k1
    rcases o with o | o
    all_goals
      go_enter Tryz.func73,Tryz.ntmps73
      go_wp2_with (go_at_call 103; refine (CU.out _).mono ?_; rintro _ _ ⟨rfl,rfl⟩)
      go_ret
      exact ⟨rfl,hb⟩
  rw [decide_eq_false a] at CU
  by_cases b:key hi <= -9218868437227405312
  . rw [show vld lo hi=false from decide_eq_false (fun h=>by omega)]
    rw [decide_eq_true b] at CD
    clear h4 g a b q0 k0 k1
    rcases o with o | o
    all_goals
      go_enter Tryz.func73,Tryz.ntmps73
      go_wp2_with fail
      refine (CU.out _).mono ?_
      rintro _ _ ⟨rfl,rfl⟩
      go_wp2_with fail
      refine (CD.out _).mono ?_
      rintro _ _ ⟨rfl,rfl⟩
      go_wp2
      go_ret
      exact ⟨rfl,hb⟩
  . rw [show vld lo hi=true from decide_eq_true ⟨h1,h2,by omega,by omega,by omega⟩]
    rw [decide_eq_false b] at CD
    clear h4 g a b q0 k0 k1
    rcases o with o | o
    all_goals
      go_enter Tryz.func73,Tryz.ntmps73
      go_wp2_with fail
      refine (CU.out _).mono ?_
      rintro _ _ ⟨rfl,rfl⟩
      go_wp2_with fail
      refine (CD.out _).mono ?_
      rintro _ _ ⟨rfl,rfl⟩
      go_wp2
      go_ret
      exact ⟨rfl,hb⟩
theorem eq_neg {a b:Int} (ha:nn a) (hb:nn b) (h:key a=key b):(if (FloatKind.f64.decode (wd a)).neg then wd a else wd b)=wd (if a=b then a else -9223372036854775808):=by
  by_cases e:a=b
  . subst e; rw [if_pos rfl]; split <;> rfl
  . rw [if_neg e]
    rcases key_zeros ha.1 hb.1 h e with ⟨rfl,rfl⟩ | ⟨rfl,rfl⟩
    . rfl
    . rfl
theorem eq_pos {a b:Int} (ha:nn a) (hb:nn b) (h:key a=key b):(if (FloatKind.f64.decode (wd a)).neg then wd b else wd a)=wd (if a=b then a else 0):=by
  by_cases e:a=b
  . subst e; rw [if_pos rfl]; split <;> rfl
  . rw [if_neg e]
    rcases key_zeros ha.1 hb.1 h e with ⟨rfl,rfl⟩ | ⟨rfl,rfl⟩
    . rfl
    . rfl
theorem run_minF {P:Program} {a b:Int} (ha:nn a) (hb:nn b) (ts:Array TypeId) (t:TypeId) (w:World):(Builtin.min_ ts t #[.float .f64 (wd a),.float .f64 (wd b)]).run P w=.ok (.float .f64 (wd (minP a b))) w:=by
  have hf:(Builtin.min_ ts t #[.float .f64 (wd a),.float .f64 (wd b)])=(Builtin.min2 (.float .f64 (wd a)) (.float .f64 (wd b))):=by simp [Builtin.min_]
  rw [hf]
  unfold Builtin.min2 minP
  rcases Int.lt_trichotomy (key a) (key b) with h | h | h
  . rw [if_pos h]
    simp only [q_lt ha.1 hb.1 ha.2 hb.2 h]
    rfl
  . rw [if_neg (by omega),if_neg (by omega)]
    simp only [q_eq ha.1 hb.1 ha.2 hb.2 h]
    rw [eq_neg ha hb h]
    rfl
  . rw [if_neg (by omega),if_pos h]
    simp only [q_gt ha.1 hb.1 ha.2 hb.2 h]
    rfl
theorem run_maxF {P:Program} {a b:Int} (ha:nn a) (hb:nn b) (ts:Array TypeId) (t:TypeId) (w:World):(Builtin.max_ ts t #[.float .f64 (wd a),.float .f64 (wd b)]).run P w=.ok (.float .f64 (wd (maxP a b))) w:=by
  have hf:(Builtin.max_ ts t #[.float .f64 (wd a),.float .f64 (wd b)])=(Builtin.max2 (.float .f64 (wd a)) (.float .f64 (wd b))):=by simp [Builtin.max_]
  rw [hf]
  unfold Builtin.max2 maxP
  rcases Int.lt_trichotomy (key a) (key b) with h | h | h
  . rw [if_pos h]
    simp only [q_lt ha.1 hb.1 ha.2 hb.2 h]
    rfl
  . rw [if_neg (by omega),if_neg (by omega)]
    simp only [q_eq ha.1 hb.1 ha.2 hb.2 h]
    rw [eq_pos ha hb h]
    rfl
  . rw [if_neg (by omega),if_pos h]
    simp only [q_gt ha.1 hb.1 ha.2 hb.2 h]
    rfl
theorem s4_set {a b B g o:Nat} {v x0 x1 x2 x3:Value} {W:World} (hg:B<=g) (h:(a<B∧b<B∧B<=W.heap.size)∧W.cell? ⟨a,0,none⟩=some x0∧W.cell? ⟨a,1,none⟩=some x1∧W.cell? ⟨b,0,none⟩=some x2∧W.cell? ⟨b,1,none⟩=some x3) :
    (a<B∧b<B∧B<=(W.setCell ⟨g,o,none⟩ v).heap.size)∧(W.setCell ⟨g,o,none⟩ v).cell? ⟨a,0,none⟩=some x0∧(W.setCell ⟨g,o,none⟩ v).cell? ⟨a,1,none⟩=some x1∧(W.setCell ⟨g,o,none⟩ v).cell? ⟨b,0,none⟩=some x2∧(W.setCell ⟨g,o,none⟩ v).cell? ⟨b,1,none⟩=some x3:=by
  have hw:Wr g W (W.setCell ⟨g,o,none⟩ v):=(Wr.refl g W).setCell o v
  obtain ⟨⟨h1,h2,h3⟩,a0,a1,a2,a3⟩:=h
  exact ⟨⟨h1,h2,Nat.le_trans h3 hw.size⟩,(hw.cell (show a<W.heap.size by omega) (show a≠g by omega)).trans a0,(hw.cell (show a<W.heap.size by omega) (show a≠g by omega)).trans a1,(hw.cell (show b<W.heap.size by omega) (show b≠g by omega)).trans a2,(hw.cell (show b<W.heap.size by omega) (show b≠g by omega)).trans a3⟩
theorem heap3 (w:World) (a b c:Obj):(((w.alloc a).alloc b).alloc c).heap[w.heap.size]?=some a∧(((w.alloc a).alloc b).alloc c).heap[w.heap.size+1]?=some b∧(((w.alloc a).alloc b).alloc c).heap[w.heap.size+2]?=some c∧(((w.alloc a).alloc b).alloc c).heap.size=w.heap.size+3∧Below w.heap.size w (((w.alloc a).alloc b).alloc c):=by
  have h:(((w.alloc a).alloc b).alloc c).heap=((w.heap.push a).push b).push c:=rfl
  rw [h]
  refine ⟨?_,?_,?_,by simp,bel_trans (bel_alloc2 w a b) (bel_alloc _ _)⟩
  . simp [Array.getElem?_push]
    omega
  . rw [Array.getElem?_push,if_neg (by simp),Array.getElem?_push,if_pos (by simp)]
  . rw [Array.getElem?_push,if_pos (by simp)]
set_option maxRecDepth 100000 in
theorem ivlJoined {a b c d:Int} (ha:nn a) (hb:nn b) (hc:nn c) (hd:nn d) (w:World) :
    Calls Tryz.prog 99 #[ivl a b,ivl c d] w fun e w'=>e=.returned (ivl (minP a c) (maxP b d))∧Below w.heap.size w w':=by
  unfold ivl
  have RM:=fun ts t W=>run_minF (P:=Tryz.prog) ha hc ts t W
  have RX:=fun ts t W=>run_maxF (P:=Tryz.prog) hb hd ts t W
  generalize wd (minP a c)=X at *
  generalize wd (maxP b d)=Y at *
  generalize wd a=A at *
  generalize wd b=B at *
  generalize wd c=C at *
  generalize wd d=D at *
  obtain ⟨q0,q1,q2,hs,hb3⟩:=heap3 w (.cells #[.float .f64 A,.float .f64 B] 103) (.cells #[.float .f64 C,.float .f64 D] 103) (.cells #[.float .f64 0,.float .f64 0] 103)
  have k0:=blkC q0 0 rfl
  have k1:=blkC q0 1 rfl
  have k2:=blkC q1 0 rfl
  have k3:=blkC q1 1 rfl
  replace q2:(((w.alloc (.cells #[.float .f64 A,.float .f64 B] 103)).alloc (.cells #[.float .f64 C,.float .f64 D] 103)).alloc (.cells #[.float .f64 0,.float .f64 0] 103)).heap[w.heap.size+1+1]?=some (.cells #[.float .f64 0,.float .f64 0] 103 (0,0)):=q2
  go_enter Tryz.func99,Tryz.ntmps99
  go_wp2_with fail
  clear q0 q1 k0 k1 k2 k3 hs RM RX
  generalize ((w.alloc (.cells #[.float .f64 A,.float .f64 B] 103)).alloc (.cells #[.float .f64 C,.float .f64 D] 103)).alloc (.cells #[.float .f64 0,.float .f64 0] 103)=wx at *
  obtain ⟨g,hg⟩:∃ g,w.heap.size+1+1=g:=⟨_,rfl⟩
  have hwg:w.heap.size<=g:=by omega
  rw [hg] at q2
  simp only [hg]
  clear hg
  have d2:=q_heap_set q2 0 (.float .f64 X)
  have d3:=q_heap_set d2 1 (.float .f64 Y)
  have f0:=blkC q2 0 rfl
  have z0:=blkF q2 0
  have f1:=blkC d2 1 rfl
  have z1:=blkF d2 1
  have hbe:=(hb3.setCell (p:=⟨g,0,none⟩) hwg (.float .f64 X)).setCell (p:=⟨g,1,none⟩) hwg (.float .f64 Y)
  have s0:(store ⟨g,0,none⟩ (.float .f64 X)).run Tryz.prog wx=.ok () (wx.setCell ⟨g,0,none⟩ (.float .f64 X)):=by rw [run_store _ _ _ _ _ rfl,f0]; simp only [z0]; rfl
  have s1:(store ⟨g,1,none⟩ (.float .f64 Y)).run Tryz.prog (wx.setCell ⟨g,0,none⟩ (.float .f64 X))=.ok () ((wx.setCell ⟨g,0,none⟩ (.float .f64 X)).setCell ⟨g,1,none⟩ (.float .f64 Y)):=by rw [run_store _ _ _ _ _ rfl,f1]; simp only [z1]; rfl
  have e0:=blkC d3 0 rfl
  have e1:=blkC d3 1 rfl
  clear f0 z0 f1 z1 d2 d3 q2
  simp only [s0,s1,Result.andThen]
  go_wp2
  refine bodyPost_ret (v:=.agg #[.float .f64 X,.float .f64 Y]) (by simp [results,Tryz.results99,go_sem,e0,e1]) rfl ⟨rfl,hbe⟩
theorem isNaN_no {p:Int} (h:nn p) (w:World) :
    Calls Tryz.prog 197 #[.float .f64 (wd p)] w fun e w'=>e=.returned (.bool false)∧w'=w:=by
  have n0:=no64 h.1
  rw [decide_eq_false h.2] at n0
  go_enter Tryz.func197,Tryz.ntmps197
  go_wp2
  go_ret
  exact ⟨rfl,rfl⟩
theorem infUp (w:World) :
    Calls Tryz.prog 179 #[.int .i64 1] w fun e w'=>e=.returned (.float .f64 9218868437227405312)∧w'=w:=by
  have hd:=run_from64
  go_enter Tryz.func179,Tryz.ntmps179
  go_wp2
  go_ret
  exact ⟨rfl,rfl⟩
theorem infDown (w:World) :
    Calls Tryz.prog 179 #[.int .i64 (-1)] w fun e w'=>e=.returned (.float .f64 18442240474082181120)∧w'=w:=by
  have hd:=run_from64
  go_enter Tryz.func179,Tryz.ntmps179
  go_wp2
  go_ret
  exact ⟨rfl,rfl⟩
theorem copyUp (w:World) :
    Calls Tryz.prog 199 #[.float .f64 1,.float .f64 9218868437227405312] w fun e w'=>e=.returned (.float .f64 1)∧w'=w:=by
  have hd:=run_from64
  have hb:=run_bits64
  have e1:bits .andNot .u64 1 9223372036854775808=1:=by decide
  have e2:bits .and .u64 9218868437227405312 9223372036854775808=0:=by decide
  have e3:bits .or .u64 1 0=1:=by decide
  go_enter Tryz.func199,Tryz.ntmps199
  go_wp2
  go_ret
  exact ⟨rfl,rfl⟩
theorem copyDown (w:World) :
    Calls Tryz.prog 199 #[.float .f64 1,.float .f64 18442240474082181120] w fun e w'=>e=.returned (.float .f64 9223372036854775809)∧w'=w:=by
  have hd:=run_from64
  have hb:=run_bits64
  have e1:bits .andNot .u64 1 9223372036854775808=1:=by decide
  have e2:bits .and .u64 18442240474082181120 9223372036854775808=9223372036854775808:=by decide
  have e3:bits .or .u64 1 9223372036854775808=9223372036854775809:=by decide
  go_enter Tryz.func199,Tryz.ntmps199
  go_wp2
  go_ret
  exact ⟨rfl,rfl⟩
set_option maxRecDepth 100000 in
theorem nextUp {p:Int} (h:nn p) (w:World) :
    Calls Tryz.prog 178 #[.float .f64 (wd p),.float .f64 9218868437227405312] w fun e w'=>e=.returned (.float .f64 (wd (next p)))∧w'=w:=by
  have hd:=run_from64
  have hbt:=run_bits64
  have ey:wd 9218868437227405312=9218868437227405312:=by decide
  have ny:nn 9218868437227405312:=⟨by unfold rng; omega,by decide⟩
  have ky:key 9218868437227405312=9218868437227405312:=by decide
  have n0:nn 0:=nn0.1
  have k0:key 0=0:=by decide
  have e0:wd 0=0:=by decide
  have hr:=h.1
  unfold rng at hr
  have CX:Hid (∀ W,Calls Tryz.prog 197 #[.float .f64 (wd p)] W fun e w'=>e=.returned (.bool false)∧w'=W):=fun W=>isNaN_no h W
  have CY:Hid (∀ W,Calls Tryz.prog 197 #[.float .f64 9218868437227405312] W fun e w'=>e=.returned (.bool false)∧w'=W):=fun W=>by rw [<- ey]; exact isNaN_no ny W
  have hw:=q_wdlt p
  by_cases a1:p=9218868437227405312
  . subst a1
    have o1:=q_eq h.1 ny.1 h.2 ny.2 rfl
    rw [ey] at o1 CX ⊢
    clear hr
    go_enter Tryz.func178,Tryz.ntmps178
    go_wp2_with fail
    refine (CX.out _).mono ?_
    rintro _ _ ⟨rfl,rfl⟩
    go_wp2_with fail
    refine (CY.out _).mono ?_
    rintro _ _ ⟨rfl,rfl⟩
    go_wp2
    go_ret
    exact ⟨ret_float (by first | rfl | (rw [next_inf,ey]) | (rw [next_inf]; exact ey.symm)),rfl⟩
  have kp:key p<9218868437227405312:=by
    have h4:=cls4_not h.2
    unfold key fld frc at *
    split <;> omega
  have o1:=q_lt h.1 ny.1 h.2 ny.2 (by rw [ky]; exact kp)
  have o2:=q_gt ny.1 h.1 ny.2 h.2 (by rw [ky]; exact kp)
  rw [ey] at o1 o2
  rcases Int.lt_trichotomy (key p) 0 with g | g | g
  . have o3:=q_lt h.1 n0.1 h.2 n0.2 (by rw [k0]; exact g)
    rw [e0] at o3
    have hp:p<0∧p ≠ -9223372036854775808:=by unfold key at g; split at g <;> omega
    have hn:next p=p-1:=by unfold next; rw [if_neg h.2,if_neg a1,if_neg hp.2,if_pos hp.1]
    have hv:wd (p-1)=wd p-1∧1<=wd p:=by unfold wd; omega
    clear hr
    go_enter Tryz.func178,Tryz.ntmps178
    go_wp2_with fail
    refine (CX.out _).mono ?_
    rintro _ _ ⟨rfl,rfl⟩
    go_wp2_with fail
    refine (CY.out _).mono ?_
    rintro _ _ ⟨rfl,rfl⟩
    go_wp2
    go_ret
    exact ⟨ret_float (by rw [hn,hv.1]),rfl⟩
  . have o3:=q_eq h.1 n0.1 h.2 n0.2 (by rw [k0]; exact g)
    rw [e0] at o3
    have hp:p=0∨p=-9223372036854775808:=by unfold key at g; split at g <;> omega
    have hn:next p=1:=by rcases hp with rfl | rfl <;> decide
    have e1:wd 1=1:=by decide
    clear hr
    go_enter Tryz.func178,Tryz.ntmps178
    go_wp2_with fail
    refine (CX.out _).mono ?_
    rintro _ _ ⟨rfl,rfl⟩
    go_wp2_with fail
    refine (CY.out _).mono ?_
    rintro _ _ ⟨rfl,rfl⟩
    go_wp2_with (go_at_call 199; refine (copyUp _).mono ?_; rintro _ _ ⟨rfl,rfl⟩)
    go_ret
    exact ⟨ret_float (by rw [hn]; exact e1.symm),rfl⟩
  . have o3:=q_gt h.1 n0.1 h.2 n0.2 (by rw [k0]; exact g)
    rw [e0] at o3
    have hp:0<p:=by unfold key at g; split at g <;> omega
    have hn:next p=p+1:=by unfold next; rw [if_neg h.2,if_neg a1,if_neg (by omega),if_neg (by omega)]
    have hv:wd (p+1)=wd p+1∧wd p<9223372036854775808:=by unfold wd; unfold key at kp; split at kp <;> omega
    clear hr
    go_enter Tryz.func178,Tryz.ntmps178
    go_wp2_with fail
    refine (CX.out _).mono ?_
    rintro _ _ ⟨rfl,rfl⟩
    go_wp2_with fail
    refine (CY.out _).mono ?_
    rintro _ _ ⟨rfl,rfl⟩
    go_wp2
    go_ret
    exact ⟨ret_float (by rw [hn,hv.1]),rfl⟩
theorem prev_down {p:Int} (h:nn p) (a1:¬ p=-4503599627370496):prev p=if p=0∨p=-9223372036854775808 then -9223372036854775807 else if p<0 then p+1 else p-1:=by
  have hr:=h.1
  have h4:=cls4_not h.2
  unfold rng at hr
  by_cases z:p=0∨p=-9223372036854775808
  . rw [if_pos z]; rcases z with rfl | rfl <;> decide
  rw [if_neg z]
  obtain ⟨n1,k1⟩:=nn_neg h
  have e1:neg p=if p<0 then p+9223372036854775808 else p-9223372036854775808:=by unfold neg; rw [if_neg h.2]
  have i1:¬ neg p=9218868437227405312:=by rw [e1]; split <;> omega
  obtain ⟨_,n2,_,_⟩:=key_next n1.1 n1.2 i1
  have e2:next (neg p)=if neg p<0 then neg p-1 else neg p+1:=by unfold next; rw [if_neg n1.2,if_neg i1,if_neg (by rw [e1]; split <;> omega)]
  unfold prev
  unfold neg
  rw [if_neg (by exact n2)]
  show (if next (neg p)<0 then next (neg p)+9223372036854775808 else next (neg p)-9223372036854775808)=_
  rw [e2,e1]
  unfold fld frc at h4
  repeat' split
  all_goals omega
set_option maxRecDepth 100000 in
theorem nextDown {p:Int} (h:nn p) (w:World) :
    Calls Tryz.prog 178 #[.float .f64 (wd p),.float .f64 18442240474082181120] w fun e w'=>e=.returned (.float .f64 (wd (prev p)))∧w'=w:=by
  have hd:=run_from64
  have hbt:=run_bits64
  have ey:wd (-4503599627370496)=18442240474082181120:=by decide
  have ny:nn (-4503599627370496):=⟨by unfold rng; omega,by decide⟩
  have ky:key (-4503599627370496)=-9218868437227405312:=by decide
  have n0:nn 0:=nn0.1
  have k0:key 0=0:=by decide
  have e0:wd 0=0:=by decide
  have hr:=h.1
  unfold rng at hr
  have CX:Hid (∀ W,Calls Tryz.prog 197 #[.float .f64 (wd p)] W fun e w'=>e=.returned (.bool false)∧w'=W):=fun W=>isNaN_no h W
  have CY:Hid (∀ W,Calls Tryz.prog 197 #[.float .f64 18442240474082181120] W fun e w'=>e=.returned (.bool false)∧w'=W):=fun W=>by rw [<- ey]; exact isNaN_no ny W
  have hw:=q_wdlt p
  by_cases a1:p=-4503599627370496
  . subst a1
    have o1:=q_eq h.1 ny.1 h.2 ny.2 rfl
    rw [ey] at o1 CX ⊢
    clear hr
    go_enter Tryz.func178,Tryz.ntmps178
    go_wp2_with fail
    refine (CX.out _).mono ?_
    rintro _ _ ⟨rfl,rfl⟩
    go_wp2_with fail
    refine (CY.out _).mono ?_
    rintro _ _ ⟨rfl,rfl⟩
    go_wp2
    go_ret
    exact ⟨ret_float (by rw [show prev (-4503599627370496)=-4503599627370496 by decide]; exact ey.symm),rfl⟩
  have kp:-9218868437227405312<key p:=by
    have h4:=cls4_not h.2
    unfold key fld frc at *
    split <;> omega
  have o1:=q_gt h.1 ny.1 h.2 ny.2 (by rw [ky]; exact kp)
  have o2:=q_lt ny.1 h.1 ny.2 h.2 (by rw [ky]; exact kp)
  rw [ey] at o1 o2
  rcases Int.lt_trichotomy (key p) 0 with g | g | g
  . have o3:=q_lt h.1 n0.1 h.2 n0.2 (by rw [k0]; exact g)
    rw [e0] at o3
    have hp:p<0∧p ≠ -9223372036854775808:=by unfold key at g; split at g <;> omega
    have hn:prev p=p+1:=by have:=key_prev h.1 h.2 a1; have hq:=prev_down h a1; rw [hq,if_neg (by omega),if_pos hp.1]
    have hv:wd (p+1)=wd p+1∧wd p<18446744073709551615:=by unfold wd; unfold key at kp; split at kp <;> omega
    clear hr
    go_enter Tryz.func178,Tryz.ntmps178
    go_wp2_with fail
    refine (CX.out _).mono ?_
    rintro _ _ ⟨rfl,rfl⟩
    go_wp2_with fail
    refine (CY.out _).mono ?_
    rintro _ _ ⟨rfl,rfl⟩
    go_wp2
    go_ret
    exact ⟨ret_float (by rw [hn,hv.1]),rfl⟩
  . have o3:=q_eq h.1 n0.1 h.2 n0.2 (by rw [k0]; exact g)
    rw [e0] at o3
    have hp:p=0∨p=-9223372036854775808:=by unfold key at g; split at g <;> omega
    have hn:prev p=-9223372036854775807:=by rcases hp with rfl | rfl <;> decide
    have e1:wd (-9223372036854775807)=9223372036854775809:=by decide
    clear hr
    go_enter Tryz.func178,Tryz.ntmps178
    go_wp2_with fail
    refine (CX.out _).mono ?_
    rintro _ _ ⟨rfl,rfl⟩
    go_wp2_with fail
    refine (CY.out _).mono ?_
    rintro _ _ ⟨rfl,rfl⟩
    go_wp2_with (go_at_call 199; refine (copyDown _).mono ?_; rintro _ _ ⟨rfl,rfl⟩)
    go_ret
    exact ⟨ret_float (by rw [hn]; exact e1.symm),rfl⟩
  . have o3:=q_gt h.1 n0.1 h.2 n0.2 (by rw [k0]; exact g)
    rw [e0] at o3
    have hp:0<p:=by unfold key at g; split at g <;> omega
    have hn:prev p=p-1:=by rw [prev_down h a1,if_neg (by omega),if_neg (by omega)]
    have hv:wd (p-1)=wd p-1∧1<=wd p:=by unfold wd; omega
    clear hr
    go_enter Tryz.func178,Tryz.ntmps178
    go_wp2_with fail
    refine (CX.out _).mono ?_
    rintro _ _ ⟨rfl,rfl⟩
    go_wp2_with fail
    refine (CY.out _).mono ?_
    rintro _ _ ⟨rfl,rfl⟩
    go_wp2
    go_ret
    exact ⟨ret_float (by rw [hn,hv.1]),rfl⟩
set_option maxRecDepth 100000 in
theorem besideDown {p:Int} (h:nn p) (l:Nat) (o:FloatKind.f64.format.order l 0=some .lt) (w:World) :
    Calls Tryz.prog 140 #[.float .f64 (wd p),.float .f64 l] w fun e w'=>e=.returned (.agg #[.float .f64 (wd (prev p)),.float .f64 (wd p)])∧w'=w.alloc (.cells #[.float .f64 (wd (prev p)),.float .f64 (wd p)] 103):=by
  have hst:∀ (p:Addr) (n:Nat) (m:Mode) (w:World),(store p (.float .f64 n) m).run Tryz.prog w=stored Tryz.prog w p (.float .f64 n) m:=fun p n m w=>run_store _ w p _ m rfl
  have CI:Hid (∀ W,Calls Tryz.prog 179 #[.int .i64 (-1)] W fun e w'=>e=.returned (.float .f64 18442240474082181120)∧w'=W):=fun W=>infDown W
  have CN:Hid (∀ W,Calls Tryz.prog 178 #[.float .f64 (wd p),.float .f64 18442240474082181120] W fun e w'=>e=.returned (.float .f64 (wd (prev p)))∧w'=W):=fun W=>nextDown h W
  have hg:(w.alloc (.cells #[.float .f64 (wd (prev p)),.float .f64 (wd p)] 103)).heap[w.heap.size]?=some (.cells #[.float .f64 (wd (prev p)),.float .f64 (wd p)] 103 (0,0)):=by show (w.heap.push _)[w.heap.size]?=_; simp
  have e0:=blkC hg 0 rfl
  have e1:=blkC hg 1 rfl
  clear h
  go_enter Tryz.func140,Tryz.ntmps140
  go_wp2_with fail
  refine (CI.out _).mono ?_
  rintro _ _ ⟨rfl,rfl⟩
  go_wp2_with fail
  refine (CN.out _).mono ?_
  rintro _ _ ⟨rfl,rfl⟩
  go_wp2
  refine bodyPost_ret (v:=.agg #[.float .f64 (wd (prev p)),.float .f64 (wd p)]) (by simp [results,Tryz.results140,go_sem,e0,e1]) rfl ⟨rfl,rfl⟩
set_option maxRecDepth 100000 in
theorem besideUp {p:Int} (h:nn p) (l:Nat) (o:FloatKind.f64.format.order l 0=some .gt) (w:World) :
    Calls Tryz.prog 140 #[.float .f64 (wd p),.float .f64 l] w fun e w'=>e=.returned (.agg #[.float .f64 (wd p),.float .f64 (wd (next p))])∧w'=w.alloc (.cells #[.float .f64 (wd p),.float .f64 (wd (next p))] 103):=by
  have hst:∀ (p:Addr) (n:Nat) (m:Mode) (w:World),(store p (.float .f64 n) m).run Tryz.prog w=stored Tryz.prog w p (.float .f64 n) m:=fun p n m w=>run_store _ w p _ m rfl
  have CI:Hid (∀ W,Calls Tryz.prog 179 #[.int .i64 1] W fun e w'=>e=.returned (.float .f64 9218868437227405312)∧w'=W):=fun W=>infUp W
  have CN:Hid (∀ W,Calls Tryz.prog 178 #[.float .f64 (wd p),.float .f64 9218868437227405312] W fun e w'=>e=.returned (.float .f64 (wd (next p)))∧w'=W):=fun W=>nextUp h W
  have hg:(w.alloc (.cells #[.float .f64 (wd p),.float .f64 (wd (next p))] 103)).heap[w.heap.size]?=some (.cells #[.float .f64 (wd p),.float .f64 (wd (next p))] 103 (0,0)):=by show (w.heap.push _)[w.heap.size]?=_; simp
  have e0:=blkC hg 0 rfl
  have e1:=blkC hg 1 rfl
  clear h
  go_enter Tryz.func140,Tryz.ntmps140
  go_wp2_with fail
  refine (CI.out _).mono ?_
  rintro _ _ ⟨rfl,rfl⟩
  go_wp2_with fail
  refine (CN.out _).mono ?_
  rintro _ _ ⟨rfl,rfl⟩
  go_wp2
  refine bodyPost_ret (v:=.agg #[.float .f64 (wd p),.float .f64 (wd (next p))]) (by simp [results,Tryz.results140,go_sem,e0,e1]) rfl ⟨rfl,rfl⟩
set_option maxRecDepth 100000 in
theorem besideSame (p l:Nat) (o:FloatKind.f64.format.order l 0=some .eq∨FloatKind.f64.format.order l 0=none) (w:World) :
    Calls Tryz.prog 140 #[.float .f64 p,.float .f64 l] w fun e w'=>e=.returned (.agg #[.float .f64 p,.float .f64 p])∧w'=w.alloc (.cells #[.float .f64 p,.float .f64 p] 103):=by
  have hst:∀ (p:Addr) (n:Nat) (m:Mode) (w:World),(store p (.float .f64 n) m).run Tryz.prog w=stored Tryz.prog w p (.float .f64 n) m:=fun p n m w=>run_store _ w p _ m rfl
  have hg:(w.alloc (.cells #[.float .f64 p,.float .f64 p] 103)).heap[w.heap.size]?=some (.cells #[.float .f64 p,.float .f64 p] 103 (0,0)):=by show (w.heap.push _)[w.heap.size]?=_; simp
  have e0:=blkC hg 0 rfl
  have e1:=blkC hg 1 rfl
  rcases o with o | o
  all_goals
    go_enter Tryz.func140,Tryz.ntmps140
    go_wp2
    refine bodyPost_ret (v:=.agg #[.float .f64 p,.float .f64 p]) (by simp [results,Tryz.results140,go_sem,e0,e1]) rfl ⟨rfl,rfl⟩
theorem run_sumN {P:Program} (t:TypeId) {p q:Int} {x y:Nat} (hx:FW p x) (hy:FW q y) (h:cls (fsum p q)≠4) (w:World) :
    (binOp .add t (.float .f64 x) (.float .f64 y)).run P w=.ok (.float .f64 (wd (fsum p q))) w:=by
  obtain ⟨z,w',hr,hz⟩:=run_farith (P:=P) .add (.inl rfl) t x y w
  have hf:floatBits .add .f64 x y=Ieee.double.add x y:=rfl
  rw [hf] at hz
  rcases add_FW hx hy with ⟨z',e1,e2⟩ | ⟨e1,e2⟩
  . rcases hz with ⟨h1,h2⟩ | ⟨h1,_⟩
    . rw [e1] at h1; cases h1
      rw [hr,h2,(e2.of h).2.1]
    . rw [e1] at h1; cases h1
  . exact absurd (by rw [e2]; exact nan_canon) h
theorem run_diffN {P:Program} (t:TypeId) {p q:Int} {x y:Nat} (hx:FW p x) (hy:FW q y) (h:cls (fsum p (neg q))≠4) (w:World) :
    (binOp .sub t (.float .f64 x) (.float .f64 y)).run P w=.ok (.float .f64 (wd (fsum p (neg q)))) w:=by
  obtain ⟨z,w',hr,hz⟩:=run_farith (P:=P) .sub (.inr (.inl rfl)) t x y w
  have hf:floatBits .sub .f64 x y=Ieee.double.sub x y:=rfl
  rw [hf] at hz
  rcases sub_FW hx hy with ⟨z',e1,e2⟩ | ⟨e1,e2⟩
  . rcases hz with ⟨h1,h2⟩ | ⟨h1,_⟩
    . rw [e1] at h1; cases h1
      rw [hr,h2,(e2.of h).2.1]
    . rw [e1] at h1; cases h1
  . exact absurd (by rw [e2]; exact nan_canon) h
theorem fw_order {l:Int} {L:Nat} (h:FW l L):(less l 0=true->FloatKind.f64.format.order L 0=some .lt)∧(less 0 l=true->FloatKind.f64.format.order L 0=some .gt)∧(less l 0=false->less 0 l=false->FloatKind.f64.format.order L 0=some .eq∨FloatKind.f64.format.order L 0=none):=by
  have n0:=nn0.1
  have k0:key 0=0:=by decide
  have e0:wd 0=0:=by decide
  have c0:¬ cls 0=4:=by decide
  by_cases h4:cls l=4
  . have ho:FloatKind.f64.format.order L 0=none:=by
      rcases h with ⟨a,_,_⟩ | ⟨rfl,hN⟩
      . exact absurd h4 a
      . exact order_nan Ieee.double dOk L 0 (.inl (by rw [dInf,dSign]; exact hN.2))
    have l1:less l 0=false:=by unfold less; simp [h4]
    have l2:less 0 l=false:=by unfold less; simp [h4]
    exact ⟨fun h=>by (rw [l1] at h; cases h),fun h=>by (rw [l2] at h; cases h),fun _ _=>.inr ho⟩
  . obtain ⟨hr,rfl,_,_⟩:=h.of h4
    have l1:less l 0=decide (key l<0):=by unfold less; simp [h4,c0,k0]
    have l2:less 0 l=decide (0<key l):=by unfold less; simp [h4,c0,k0]
    rw [l1,l2]
    refine ⟨fun g=>?_,fun g=>?_,fun g1 g2=>?_⟩
    . have:=q_lt hr n0.1 h4 n0.2 (by rw [k0]; exact of_decide_eq_true g)
      rwa [e0] at this
    . have:=q_gt hr n0.1 h4 n0.2 (by rw [k0]; exact of_decide_eq_true g)
      rwa [e0] at this
    . have g1':=of_decide_eq_false g1
      have g2':=of_decide_eq_false g2
      have:=q_eq hr n0.1 h4 n0.2 (by rw [k0]; omega)
      rw [e0] at this
      exact .inl this
def beLo (n l:Int):Int:=if less l 0 then prev n else n
def beHi (n l:Int):Int:=if less l 0 then n else if less 0 l then next n else n
theorem beside_any {n l:Int} {L:Nat} (hn:nn n) (hl:FW l L) (w:World) :
    Calls Tryz.prog 140 #[.float .f64 (wd n),.float .f64 L] w fun e w'=>e=.returned (.agg #[.float .f64 (wd (beLo n l)),.float .f64 (wd (beHi n l))])∧Below w.heap.size w w':=by
  obtain ⟨o1,o2,o3⟩:=fw_order hl
  unfold beLo beHi
  cases h1:less l 0
  . cases h2:less 0 l
    . exact (besideSame (wd n) L (o3 h1 h2) w).mono fun _ _ ⟨a,b⟩=>⟨a,by rw [b]; exact bel_alloc _ _⟩
    . exact (besideUp hn L (o2 h2) w).mono fun _ _ ⟨a,b⟩=>⟨a,by rw [b]; exact bel_alloc _ _⟩
  . exact (besideDown hn L (o1 h1) w).mono fun _ _ ⟨a,b⟩=>⟨a,by rw [b]; exact bel_alloc _ _⟩
theorem q_heap_last (w:World) (o:Obj):(w.alloc o).heap[w.heap.size]?=some o:=by
  show (w.heap.push o)[w.heap.size]?=_
  simp
def hiM (p q:Int):Int:=if rg p<rg q then q else p
def loM (p q:Int):Int:=if rg p<rg q then p else q
def suN (p q:Int):Int:=fsum (hiM p q) (loM p q)
def suL (p q:Int):Int:=fsum (loM p q) (neg (fsum (suN p q) (neg (hiM p q))))
set_option maxRecDepth 100000 in
set_option maxHeartbeats 1000000 in
theorem sum_core {p q x y n l:Int} (hp:nn p) (hq:nn q) (hx:nn x) (hy:nn y) (hn:nn n) (en:n=fsum x y) (el:l=fsum y (neg (fsum n (neg x)))) (w:World)
    (hsw:(FloatKind.f64.format.order (wd (rg p)) (wd (rg q))=some .lt∧x=q∧y=p)∨((FloatKind.f64.format.order (wd (rg p)) (wd (rg q))=some .gt∨FloatKind.f64.format.order (wd (rg p)) (wd (rg q))=some .eq)∧x=p∧y=q)) :
    Calls Tryz.prog 143 #[.float .f64 (wd p),.float .f64 (wd q)] w fun e w'=>e=.returned (.agg #[.float .f64 (wd (beLo n l)),.float .f64 (wd (beHi n l))])∧Below w.heap.size w w':=by
  have CP:Hid (∀ W,Calls Tryz.prog 34 #[.float .f64 (wd p)] W fun e w'=>e=.returned (.float .f64 (wd (rg p)))∧w'=W):=fun W=>mathAbs hp.1 W
  have CQ:Hid (∀ W,Calls Tryz.prog 34 #[.float .f64 (wd q)] W fun e w'=>e=.returned (.float .f64 (wd (rg q)))∧w'=W):=fun W=>mathAbs hq.1 W
  have fx:FW x (wd x):=.inl ⟨hx.2,hx.1,rfl⟩
  have fy:FW y (wd y):=.inl ⟨hy.2,hy.1,rfl⟩
  have fn:FW n (wd n):=.inl ⟨hn.2,hn.1,rfl⟩
  have h1:∀ W,(binOp .add 50 (.float .f64 (wd x)) (.float .f64 (wd y))).run Tryz.prog W=.ok (.float .f64 (wd n)) W:=fun W=>by rw [en]; exact run_sumN _ fx fy (by rw [<- en]; exact hn.2) W
  have hg:=q_heap_last w (.cells #[.float .f64 0,.float .f64 0] 103)
  have hba:=bel_alloc w (.cells #[.float .f64 0,.float .f64 0] 103)
  obtain ⟨D,W1,r1,fD,hW1⟩:=run_fdiff (P:=Tryz.prog) 50 fn fx (w.alloc (.cells #[.float .f64 0,.float .f64 0] 103))
  obtain ⟨L,W2,r2,fL,hW2⟩:=run_fdiff (P:=Tryz.prog) 50 fy fD W1
  rw [<- el] at fL
  have b1:Below (w.alloc (.cells #[.float .f64 0,.float .f64 0] 103)).heap.size (w.alloc (.cells #[.float .f64 0,.float .f64 0] 103)) W1:=by
    rcases hW1 with rfl | rfl
    . exact bel_refl _
    . exact (bel_refl _).drew
  have b2:Below W1.heap.size W1 W2:=by
    rcases hW2 with rfl | rfl
    . exact bel_refl _
    . exact (bel_refl _).drew
  have CB:Hid (∀ W,Calls Tryz.prog 140 #[.float .f64 (wd n),.float .f64 L] W fun e w'=>e=.returned (.agg #[.float .f64 (wd (beLo n l)),.float .f64 (wd (beHi n l))])∧Below W.heap.size W w'):=fun W=>beside_any hn fL W
  generalize wd (beLo n l)=U at *
  generalize wd (beHi n l)=V at *
  clear fx fy fn fD fL hW1 hW2 en el hx hy hn hp hq
  have fin:∀ (w3:World),Below W2.heap.size W2 w3->(store ⟨w.heap.size,0,none⟩ (.float .f64 U)).run Tryz.prog w3=.ok () (w3.setCell ⟨w.heap.size,0,none⟩ (.float .f64 U))∧(store ⟨w.heap.size,1,none⟩ (.float .f64 V)).run Tryz.prog (w3.setCell ⟨w.heap.size,0,none⟩ (.float .f64 U))=.ok () ((w3.setCell ⟨w.heap.size,0,none⟩ (.float .f64 U)).setCell ⟨w.heap.size,1,none⟩ (.float .f64 V))∧((w3.setCell ⟨w.heap.size,0,none⟩ (.float .f64 U)).setCell ⟨w.heap.size,1,none⟩ (.float .f64 V)).cell? ⟨w.heap.size,0,none⟩=some (.float .f64 U)∧((w3.setCell ⟨w.heap.size,0,none⟩ (.float .f64 U)).setCell ⟨w.heap.size,1,none⟩ (.float .f64 V)).cell? ⟨w.heap.size,1,none⟩=some (.float .f64 V)∧Below w.heap.size w ((w3.setCell ⟨w.heap.size,0,none⟩ (.float .f64 U)).setCell ⟨w.heap.size,1,none⟩ (.float .f64 V)):=by
    intro w3 hb3
    have hbb:=bel_trans b1 (bel_trans b2 hb3)
    have d2:=(hbb.block _ (Array.getElem?_eq_some_iff.1 hg).1).trans hg
    have d3:=q_heap_set d2 0 (.float .f64 U)
    have d4:=q_heap_set d3 1 (.float .f64 V)
    have f0:=blkC d2 0 rfl
    have z0:=blkF d2 0
    have f1:=blkC d3 1 rfl
    have z1:=blkF d3 1
    refine ⟨?_,?_,blkC d4 0 rfl,blkC d4 1 rfl,?_⟩
    . rw [run_store _ _ _ _ _ rfl,f0]; simp only [z0]; rfl
    . rw [run_store _ _ _ _ _ rfl,f1]; simp only [z1]; rfl
    . exact ((bel_trans hba hbb).setCell (p:=⟨w.heap.size,0,none⟩) (Nat.le_refl _) _).setCell (p:=⟨w.heap.size,1,none⟩) (Nat.le_refl _) _
  have FIN:=hideIt fin
  clear fin b1 b2 hba hg
  rcases hsw with ⟨o,rfl,rfl⟩ | ⟨o | o,rfl,rfl⟩
  all_goals
    go_enter Tryz.func143,Tryz.ntmps143
    go_wp2_with fail
    refine (CP.out _).mono ?_
    rintro _ _ ⟨rfl,rfl⟩
    go_wp2_with fail
    refine (CQ.out _).mono ?_
    rintro _ _ ⟨rfl,rfl⟩
    go_wp2_with fail
    refine (CB.out _).mono ?_
    rintro _ w3 ⟨rfl,hb3⟩
    obtain ⟨s0,s1,e0,e1,hbe⟩:=FIN.out w3 hb3
    go_wp2
    refine bodyPost_ret (v:=.agg #[.float .f64 U,.float .f64 V]) (by simp [results,Tryz.results143,go_sem,e0,e1]) rfl ⟨rfl,hbe⟩
theorem spanSum {p q:Int} (hp:nn p) (hq:nn q) (hn:nn (suN p q)) (w:World) :
    Calls Tryz.prog 143 #[.float .f64 (wd p),.float .f64 (wd q)] w fun e w'=>e=.returned (ivl (beLo (suN p q) (suL p q)) (beHi (suN p q) (suL p q)))∧Below w.heap.size w w':=by
  obtain ⟨a1,a2⟩:=q_rg hp.1
  obtain ⟨b1,b2⟩:=q_rg hq.1
  have ca:¬ cls (rg p)=4:=by rw [q_cls hp.1]; exact hp.2
  have cb:¬ cls (rg q)=4:=by rw [q_cls hq.1]; exact hq.2
  have ka:=q_key a2
  have kb:=q_key b2
  by_cases h:rg p<rg q
  . have ex:hiM p q=q:=if_pos h
    have ey:loM p q=p:=if_pos h
    refine sum_core hp hq hq hp hn (by unfold suN; rw [ex,ey]) (by unfold suL; rw [ex,ey]) w (.inl ⟨q_lt a1 b1 ca cb (by rw [ka,kb]; exact h),rfl,rfl⟩)
  . have ex:hiM p q=p:=if_neg h
    have ey:loM p q=q:=if_neg h
    refine sum_core hp hq hp hq hn (by unfold suN; rw [ex,ey]) (by unfold suL; rw [ex,ey]) w (.inr ⟨?_,rfl,rfl⟩)
    by_cases e:rg p=rg q
    . exact .inr (q_eq a1 b1 ca cb (by rw [ka,kb]; exact e))
    . exact .inl (q_gt a1 b1 ca cb (by rw [ka,kb]; omega))
end Go.Proofs.YtmmnoneehiibiaaGreatDoor
