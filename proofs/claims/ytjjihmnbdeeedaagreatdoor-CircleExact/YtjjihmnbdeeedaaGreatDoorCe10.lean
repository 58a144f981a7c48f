/- Parts of the proof. -/
import Derived.Test.YtjjihmnbdeeedaaGreatDoorCe9
import Derived.Test.YtjjihmnbdeeedaaGreatDoorCe6
import Derived.Test.YtjjihmnbdeeedaaGreatDoorCe2
import Derived.Test.YtjjihmnbdeeedaaGreatDoorCe3
import Derived.Deep.RegionHeld3
import Derived.Test.YtjjihmnbdeeedaaGreatDoorCe7
import Derived.Test.YtjjihmnbdeeedaaGreatDoorCe5
set_option linter.unusedVariables false
set_option linter.unusedSimpArgs false
namespace Go.Proofs.YtjjihmnbdeeedaaGreatDoor
open Go Go.RowKit Go.Proofs.YtjjihmnbdeeedaaGreatDoor.M
theorem mathAbs {b:Int} (hb:rng b) (w:World) :
    Calls Tryz.prog 34 #[.float .f64 (wd b)] w fun e w'=>e=.returned (.float .f64 (wd (rg b)))∧w'=w:=by
  have h1:=run_bits64
  have h2:=run_from64
  go_enter Tryz.func34,Tryz.ntmps34
  go_wp2
  go_ret
  exact ⟨ret_float (q_abs hb),rfl⟩
theorem q_finite {b:Int} (hb:rng b) (w:World) :
    Calls Tryz.prog 186 #[.float .f64 (wd b)] w fun e w'=>e=.returned (.bool (pok b))∧w'=w:=by
  have n0:=no64 hb
  obtain ⟨r1,r2⟩:=q_rg hb
  by_cases h4:cls b=4
  . have n1:(FloatKind.f64.format.order (wd b) (wd b) != some .eq)=true:=by rw [n0]; simp [h4]
    have hp:pok b=false:=by
      cases h:pok b
      . rfl
      . exact absurd h4 (q_fin h)
    clear n0
    go_enter Tryz.func186,Tryz.ntmps186
    go_wp2
    go_ret
    exact ⟨b_ret_bool hp.symm,rfl⟩
  . have n1:(FloatKind.f64.format.order (wd b) (wd b) != some .eq)=false:=by rw [n0]; simp [h4]
    have c1:¬ cls (rg b)=4:=by rw [q_cls hb]; exact h4
    have c2:¬ cls 9218868437227405311=4:=by decide
    have r3:rng 9218868437227405311:=by unfold rng; omega
    have k1:=q_key r2
    have k2:key 9218868437227405311=9218868437227405311:=by decide
    have e2:wd 9218868437227405311=9218868437227405311:=by decide
    have hp:=pok_rg' hb
    clear n0
    rcases Int.lt_trichotomy (rg b) 9218868437227405311 with h | h | h
    . have o:=q_lt r1 r3 c1 c2 (by rw [k1,k2]; exact h)
      rw [e2] at o
      have hp':pok b=true:=by rw [hp]; simp; omega
      clear hp
      go_enter Tryz.func186,Tryz.ntmps186
      go_wp2_with (go_at_call 34; refine (mathAbs hb _).mono ?_; rintro _ _ ⟨rfl,rfl⟩)
      go_ret
      exact ⟨b_ret_bool hp'.symm,rfl⟩
    . have o:=q_eq r1 r3 c1 c2 (by rw [k1,k2]; exact h)
      rw [e2] at o
      have hp':pok b=true:=by rw [hp]; simp; omega
      clear hp
      go_enter Tryz.func186,Tryz.ntmps186
      go_wp2_with (go_at_call 34; refine (mathAbs hb _).mono ?_; rintro _ _ ⟨rfl,rfl⟩)
      go_ret
      exact ⟨b_ret_bool hp'.symm,rfl⟩
    . have o:=q_gt r1 r3 c1 c2 (by rw [k1,k2]; exact h)
      rw [e2] at o
      have hp':pok b=false:=by rw [hp]; simp; omega
      clear hp
      go_enter Tryz.func186,Tryz.ntmps186
      go_wp2_with (go_at_call 34; refine (mathAbs hb _).mono ?_; rintro _ _ ⟨rfl,rfl⟩)
      go_ret
      exact ⟨b_ret_bool hp'.symm,rfl⟩
theorem pointTame {b:Int} (hb:rng b) (w:World) :
    Calls Tryz.prog 57 #[.int .i64 b] w fun e w'=>e=.returned (.bool (tame b))∧w'=w:=by
  obtain ⟨r1,r2⟩:=q_rg hb
  have k1:=q_key r2
  have z1:wd 0=0:=by decide
  have z2:wd 3931642474694443008=3931642474694443008:=by decide
  have z3:wd 5282722362905591808=5282722362905591808:=by decide
  have s1:=same_order r1 (show rng 0 by unfold rng; omega)
  have s2:=less_order r1 (show rng 5282722362905591808 by unfold rng; omega)
  have o0:=@order64_nan
  by_cases h4:cls (rg b)=4
  . have o1:=order64_nan r1 (show rng 0 by unfold rng; omega) (.inl h4)
    have o2:=order64_nan (show rng 3931642474694443008 by unfold rng; omega) r1 (.inr h4)
    rw [z1] at o1
    rw [z2] at o2
    have ht:tame b=false:=by
      have h5:cls b=4:=by rw [<- q_cls hb]; exact h4
      have h6:fld b=2047:=by
        unfold cls at h5; split at h5
        . assumption
        . split at h5
          . split at h5 <;> omega
          . omega
      have:=rg_parts hb
      have h7:0<=frc b∧frc b<4503599627370496:=by unfold frc; omega
      rw [tame_fld hb,h6]
      simp
      omega
    clear s1 s2 o0
    go_enter Tryz.func57,Tryz.ntmps57
    go_wp2_with (first
      | (go_at_call 58; refine (bitsFloat _ _).mono ?_; rintro _ _ ⟨rfl,rfl⟩)
      | (go_at_call 34; refine (mathAbs hb _).mono ?_; rintro _ _ ⟨rfl,rfl⟩))
    go_ret
    exact ⟨b_ret_bool ht.symm,rfl⟩
  . have c0:¬ cls 0=4:=by decide
    have c2:¬ cls 3931642474694443008=4:=by decide
    have c3:¬ cls 5282722362905591808=4:=by decide
    have y0:rng 0:=by unfold rng; omega
    have y2:rng 3931642474694443008:=by unfold rng; omega
    have y3:rng 5282722362905591808:=by unfold rng; omega
    have m0:key 0=0:=by decide
    have m2:key 3931642474694443008=3931642474694443008:=by decide
    have m3:key 5282722362905591808=5282722362905591808:=by decide
    clear s1 s2 o0
    by_cases e0:rg b=0
    . have o1:=q_eq r1 y0 h4 c0 (by rw [k1,m0]; exact e0)
      rw [z1] at o1
      have ht:tame b=true:=by unfold tame; simp [e0]
      go_enter Tryz.func57,Tryz.ntmps57
      go_wp2_with (first
        | (go_at_call 58; refine (bitsFloat _ _).mono ?_; rintro _ _ ⟨rfl,rfl⟩)
        | (go_at_call 34; refine (mathAbs hb _).mono ?_; rintro _ _ ⟨rfl,rfl⟩))
      go_ret
      exact ⟨b_ret_bool ht.symm,rfl⟩
    have o1:=q_gt r1 y0 h4 c0 (by rw [k1,m0]; omega)
    rw [z1] at o1
    by_cases e1:rg b<3931642474694443008
    . have o2:=q_gt y2 r1 c2 h4 (by rw [k1,m2]; exact e1)
      rw [z2] at o2
      have ht:tame b=false:=by unfold tame; simp [e0]; omega
      go_enter Tryz.func57,Tryz.ntmps57
      go_wp2_with (first
        | (go_at_call 58; refine (bitsFloat _ _).mono ?_; rintro _ _ ⟨rfl,rfl⟩)
        | (go_at_call 34; refine (mathAbs hb _).mono ?_; rintro _ _ ⟨rfl,rfl⟩))
      go_ret
      exact ⟨b_ret_bool ht.symm,rfl⟩
    by_cases e2:rg b=3931642474694443008
    . have o2:=q_eq y2 r1 c2 h4 (by rw [k1,m2]; exact e2.symm)
      have o3:=q_lt r1 y3 h4 c3 (by rw [k1,m3]; omega)
      rw [z2] at o2
      rw [z3] at o3
      have ht:tame b=true:=by unfold tame; simp [e2]
      go_enter Tryz.func57,Tryz.ntmps57
      go_wp2_with (first
        | (go_at_call 58; refine (bitsFloat _ _).mono ?_; rintro _ _ ⟨rfl,rfl⟩)
        | (go_at_call 34; refine (mathAbs hb _).mono ?_; rintro _ _ ⟨rfl,rfl⟩))
      go_ret
      exact ⟨b_ret_bool ht.symm,rfl⟩
    have o2:=q_lt y2 r1 c2 h4 (by rw [k1,m2]; omega)
    rw [z2] at o2
    rcases Int.lt_trichotomy (rg b) 5282722362905591808 with h | h | h
    . have o3:=q_lt r1 y3 h4 c3 (by rw [k1,m3]; omega)
      rw [z3] at o3
      have ht:tame b=true:=by unfold tame; simp [e0]; omega
      go_enter Tryz.func57,Tryz.ntmps57
      go_wp2_with (first
        | (go_at_call 58; refine (bitsFloat _ _).mono ?_; rintro _ _ ⟨rfl,rfl⟩)
        | (go_at_call 34; refine (mathAbs hb _).mono ?_; rintro _ _ ⟨rfl,rfl⟩))
      go_ret
      exact ⟨b_ret_bool ht.symm,rfl⟩
    . have o3:=q_eq r1 y3 h4 c3 (by rw [k1,m3]; omega)
      rw [z3] at o3
      have ht:tame b=false:=by unfold tame; simp [e0]; omega
      go_enter Tryz.func57,Tryz.ntmps57
      go_wp2_with (first
        | (go_at_call 58; refine (bitsFloat _ _).mono ?_; rintro _ _ ⟨rfl,rfl⟩)
        | (go_at_call 34; refine (mathAbs hb _).mono ?_; rintro _ _ ⟨rfl,rfl⟩))
      go_ret
      exact ⟨b_ret_bool ht.symm,rfl⟩
    . have o3:=q_gt r1 y3 h4 c3 (by rw [k1,m3]; omega)
      rw [z3] at o3
      have ht:tame b=false:=by unfold tame; simp [e0]; omega
      go_enter Tryz.func57,Tryz.ntmps57
      go_wp2_with (first
        | (go_at_call 58; refine (bitsFloat _ _).mono ?_; rintro _ _ ⟨rfl,rfl⟩)
        | (go_at_call 34; refine (mathAbs hb _).mono ?_; rintro _ _ ⟨rfl,rfl⟩))
      go_ret
      exact ⟨b_ret_bool ht.symm,rfl⟩
def errF (b:Bool):Int:=if b then 0 else 10
def allFin (d:Nat->Int) (n:Nat):Bool:=decide (∀ i,i<n->pok (d i)=true)
set_option maxRecDepth 100000 in
theorem q_checked (ao:Option Addr) (n cap:Nat) (d:Nat->Int) (w:World) (h:Row w ao n cap d) (hd:∀ i,i<n->rng (d i)) :
    Calls Tryz.prog 128 #[.slice ao n cap] w fun e w'=>e=.returned (.int .i64 (errF (allFin d n)))∧w'=w:=by
  have hl:=h.le
  have hm:=h.max
  go_enter Tryz.func128,Tryz.ntmps128
  go_wp2_with fail
  go_loop [7] (fun i=>∃ k:Nat,k<=n∧i=.int .i64 k∧Hid (∀ j,j<k->pok (d j)=true)) (fun i=>n-(intOf i).toNat)
  case atStart=>exact ⟨0,Nat.zero_le _,rfl,fun j hj=>by omega⟩
  case round=>
    obtain ⟨k,hk,rfl,HO⟩:=hrel
    by_cases hlt:k<n
    . obtain ⟨b,off,rfl,hb,hc⟩:=h.spot (by omega)
      have c0:=hc k hlt
      have hr:=hd k hlt
      by_cases hok:pok (d k)=true
      . go_wp2_with (first
          | (go_at_call 58; refine (bitsFloat _ _).mono ?_; rintro _ _ ⟨rfl,rfl⟩)
          | (go_at_call 186; refine (q_finite hr _).mono ?_; rintro _ _ ⟨rfl,rfl⟩))
        go_round
        case rel=>exact ⟨k+1,by omega,by go_num,fun j hj=>by
            by_cases e:j=k
            . subst e; exact hok
            . exact HO.out j (by omega)⟩
        case measure=>simp [intOf]; omega
      . have hok':pok (d k)=false:=by simpa using hok
        go_wp2_with (first
          | (go_at_call 58; refine (bitsFloat _ _).mono ?_; rintro _ _ ⟨rfl,rfl⟩)
          | (go_at_call 186; refine (q_finite hr _).mono ?_; rintro _ _ ⟨rfl,rfl⟩))
        go_ret
        exact ⟨b_ret_int (by
          unfold errF
          rw [if_neg]
          intro hx
          exact hok (of_decide_eq_true hx k hlt)),rfl⟩
    . obtain rfl:k=n:=by omega
      go_wp2
      go_ret
      exact ⟨b_ret_int (by unfold errF; rw [if_pos (show allFin d k=true from decide_eq_true HO.out)]),rfl⟩
theorem allFin2 (x y:Int):allFin (fun i=>if i=0 then x else y) 2=(pok x && pok y):=by
  unfold allFin
  rw [Bool.eq_iff_iff]
  simp
  constructor
  . intro h
    exact ⟨by simpa using h 0 (by omega),by simpa using h 1 (by omega)⟩
  . rintro ⟨h1,h2⟩ i hi
    split
    . exact h1
    . exact h2
theorem q_row2 (w:World) (o:Obj) (x y:Int) (t:TypeId):Row ((w.alloc o).alloc (.cells #[.int .i64 x,.int .i64 y] t)) (some ⟨w.heap.size+1,0,none⟩) 2 2 (fun i=>if i=0 then x else y) :=
  ⟨by omega,by omega,(fun h=>by cases h),fun _=>⟨_,_,rfl,by simp,fun i hi=>by
    have e:((w.alloc o).alloc (.cells #[.int .i64 x,.int .i64 y] t)).heap[w.heap.size+1]?=some (.cells #[.int .i64 x,.int .i64 y] t):=heap_b2 w o _
    unfold World.cell?
    rw [show ((⟨w.heap.size+1,0+i,none⟩:Addr)).block=w.heap.size+1 from rfl,e]
    match i,hi with
    | 0,_=>rfl
    | 1,_=>rfl⟩⟩
set_option maxRecDepth 100000 in
theorem pointCheck {x y:Int} (hx:rng x) (hy:rng y) (w:World) :
    Calls Tryz.prog 65 #[.agg #[.int .i64 x,.int .i64 y]] w fun e w'=>e=.returned (.int .i64 (errF (pok x && pok y)))∧Below w.heap.size w w':=by
  have hr:=q_row2 w (.cells #[.int .i64 x,.int .i64 y] 33) x y 3
  have e2:=allFin2 x y
  go_enter Tryz.func65,Tryz.ntmps65
  go_wp2_with fail
  refine (q_checked _ _ _ _ _ hr (fun i _=>by show rng (if i=0 then x else y); split <;> assumption)).mono ?_
  rintro _ _ ⟨rfl,rfl⟩
  go_wp2
  go_ret
  exact ⟨b_ret_int (by rw [<- e2]),bel_alloc2 _ _ _⟩
theorem q_coord {b:Int} (hb:rng b) (w:World) :
    Calls Tryz.prog 79 #[.int .i64 b] w fun e w'=>e=.returned (.bool (pok b))∧w'=w:=by
  have hb':=hb
  unfold rng at hb'
  have hm:bits .and .i64 (b/4503599627370496) 2047=fld b:=and_i64_mask (b/4503599627370496) 11 (by omega)
  go_enter Tryz.func79,Tryz.ntmps79
  go_wp2
  go_ret
  exact ⟨b_ret_bool (by unfold pok; by_cases h:fld b=2047 <;> simp [h]),rfl⟩
theorem q_refFinite {x y:Int} (hx:rng x) (hy:rng y) (w:World) :
    Calls Tryz.prog 28 #[.agg #[.int .i64 x,.int .i64 y]] w fun e w'=>e=.returned (.bool (pok x && pok y))∧Below w.heap.size w w':=by
  cases h1:pok x <;> cases h2:pok y
  all_goals
    go_enter Tryz.func28,Tryz.ntmps28
    go_wp2_with fail
    refine (q_coord hx _).mono ?_
    rintro _ _ ⟨rfl,rfl⟩
    go_wp2_with fail
    refine (q_coord hy _).mono ?_
    rintro _ _ ⟨rfl,rfl⟩
    go_wp2
    go_ret
    exact ⟨rfl,bel_alloc _ _⟩
def q0 (b:Int):Int:=if b=-9223372036854775808 then 0 else b
theorem q_cell {w w':World} {p:Addr} {v:Value} (h:w.cell? p=some v) (hb:Below w.heap.size w w'):w'.cell? p=some v :=
  (hb.cell (World.block_lt_of_cell? w _ h)).trans h
theorem Q4.keeps {a b:Nat} {x0 x1 x2 x3:Value} {W W':World} (h:W.cell? ⟨a,0,none⟩=some x0∧W.cell? ⟨a,1,none⟩=some x1∧W.cell? ⟨b,0,none⟩=some x2∧W.cell? ⟨b,1,none⟩=some x3) (hb:Below W.heap.size W W') :
    W'.cell? ⟨a,0,none⟩=some x0∧W'.cell? ⟨a,1,none⟩=some x1∧W'.cell? ⟨b,0,none⟩=some x2∧W'.cell? ⟨b,1,none⟩=some x3 :=
  ⟨q_cell h.1 hb,q_cell h.2.1 hb,q_cell h.2.2.1 hb,q_cell h.2.2.2 hb⟩
def NumR.opp (x:NumR):NumR:=⟨if x.n=0 then x.ng else !x.ng,x.ao,x.n,x.cap,x.d,x.e⟩
set_option maxRecDepth 100000 in
theorem rneg3_any (x:NumR) (w:World) (hm:x.n<=9223372036854775807) :
    Calls Tryz.prog 180 #[x.v] w fun r w'=>r=.returned x.opp.v∧Below w.heap.size w w':=by
  obtain ⟨ng,ao,n,cap,d,e⟩:=x
  unfold NumR.v NumR.opp
  simp only at *
  by_cases h0:n=0
  . subst h0
    go_enter Tryz.func180,Tryz.ntmps180
    go_wp2
    refine bodyPost_ret (v:=.agg #[.bool ng,.slice ao 0 cap,.int .i64 e]) (by simp [results,Tryz.results180,go_sem]) rfl ⟨rfl,?_⟩
    exact bel_alloc2 _ _ _
  . have hn0:(0:Int)<n:=by omega
    rw [if_neg h0]
    go_enter Tryz.func180,Tryz.ntmps180
    go_wp2
    refine bodyPost_ret (v:=.agg #[.bool (!ng),.slice ao n cap,.int .i64 e]) (by simp [results,Tryz.results180,go_sem]) rfl ⟨rfl,?_⟩
    exact bel_alloc2 _ _ _
def RFit (w w':World) (V:Int) (v:Value) (er:Int):Prop:=DFit w w' V v er
theorem RFit.shape {w w':World} {V er:Int} {v:Value} (h:RFit w w' V v er):∃ ng so sn sc e,v=.agg #[.bool ng,.slice so sn sc,.int .i64 e]:=by
  exact DFit.shape h
set_option maxRecDepth 100000 in
set_option maxHeartbeats 4000000 in
theorem rmul3_any (x y:NumR) (w:World) (hx:Row w x.ao x.n x.cap x.d) (hy:Row w y.ao y.n y.cap y.d) (sx:Sane x) (sy:Sane y) :
    Calls Tryz.prog 151 #[x.v,y.v] w fun r w'=>∃ v,r=.returned v∧DAns w w' (mulV x y) v:=by
  have hV:mulV x y=sg (x.ng != y.ng) (val x.d x.n*val y.d y.n)*pw (x.e+y.e):=rfl
  have he:-4194304<=x.e+y.e∧x.e+y.e<=4194304:=by have:=sx.2.2.1; have:=sy.2.2.1; have:=sx.2.2.2; have:=sy.2.2.2; omega
  have hlen:val x.d x.n*val y.d y.n<P 10000:=by
    have a1:=val_lt sx.1.1
    have a2:=val_lt sy.1.1
    have b1:=val_nonneg sx.1.1
    have b2:=val_nonneg sy.1.1
    have c1:val x.d x.n*val y.d y.n<=P x.n*val y.d y.n:=Int.mul_le_mul_of_nonneg_right (by omega) b2
    have c2:P x.n*val y.d y.n<P x.n*P y.n:=Int.mul_lt_mul_of_pos_left a2 (P_pos _)
    rw [<- P_add] at c2
    have:=P_le (show x.n+y.n<=10000 by have:=sx.2.1; have:=sy.2.1; omega)
    omega
  obtain ⟨an,ao,n,ca,a,e⟩:=x
  obtain ⟨bn,bo,m,cb,b,f⟩:=y
  obtain ⟨s1,s2,s3,s4⟩:=sx
  obtain ⟨t1,t2,t3,t4⟩:=sy
  unfold NumR.v
  simp only at *
  rw [hV]
  clear hV
  generalize hVV:sg (an != bn) (val a n*val b m)*pw (e+f)=V
  have HVV:Hid (sg (an != bn) (val a n*val b m)*pw (e+f)=V):=hVV
  clear hVV
  have hw:IntKind.i64.wrap (e+f)=e+f:=by rw [wrap_i64_eq]; omega
  have hb3:=bel_a3 w (.cells #[.bool an,.slice ao n ca,.int .i64 e] 40) (.cells #[.bool bn,.slice bo m cb,.int .i64 f] 40) (.cells #[.bool false,.slice none 0 0,.int .i64 0] 40)
  have g0:=h3_0 w (.cells #[.bool an,.slice ao n ca,.int .i64 e] 40) (.cells #[.bool bn,.slice bo m cb,.int .i64 f] 40) (.cells #[.bool false,.slice none 0 0,.int .i64 0] 40)
  have g1:=h3_1 w (.cells #[.bool an,.slice ao n ca,.int .i64 e] 40) (.cells #[.bool bn,.slice bo m cb,.int .i64 f] 40) (.cells #[.bool false,.slice none 0 0,.int .i64 0] 40)
  have g2:=h3_2 w (.cells #[.bool an,.slice ao n ca,.int .i64 e] 40) (.cells #[.bool bn,.slice bo m cb,.int .i64 f] 40) (.cells #[.bool false,.slice none 0 0,.int .i64 0] 40)
  have hs3:=size3 w (.cells #[.bool an,.slice ao n ca,.int .i64 e] 40) (.cells #[.bool bn,.slice bo m cb,.int .i64 f] 40) (.cells #[.bool false,.slice none 0 0,.int .i64 0] 40)
  go_enter Tryz.func151,Tryz.ntmps151
  go_wp2_with fail
  have HX:=hx.keeps hb3
  have HY:=hy.keeps hb3
  generalize ((w.alloc (.cells #[.bool an,.slice ao n ca,.int .i64 e] 40)).alloc (.cells #[.bool bn,.slice bo m cb,.int .i64 f] 40)).alloc (.cells #[.bool false,.slice none 0 0,.int .i64 0] 40)=wx at hb3 g0 g1 g2 hs3 HX HY ⊢
  have k0:=blkC g0 0 rfl
  have k1:=blkC g0 1 rfl
  have k2:=blkC g0 2 rfl
  have j0:=blkC g1 0 rfl
  have j1:=blkC g1 1 rfl
  have j2:=blkC g1 2 rfl
  have hb1:=bel_refl wx
  have C1:∀ W,Below wx.heap.size wx W->Calls Tryz.prog 203 #[.slice ao n ca,.slice bo m cb] W fun r w'=>∃ so sn sc,r=.returned (.slice so sn sc)∧Ans W w' (val a n*val b m) (.slice so sn sc)∧Below W.heap.size W w':=fun W h=>by
    refine (rmul_any ao bo n m ca cb a b W (HX.keeps h) (HY.keeps h) s1 t1 (by omega) (by omega)).mono ?_
    rintro r w' ⟨v,rfl,hA⟩
    obtain ⟨so,sn,sc,rfl⟩:=hA.num.shape
    exact ⟨so,sn,sc,rfl,hA,hA.below⟩
  have C2:∀ W so sn sc,Num W (.slice so sn sc) (val a n*val b m)->Calls Tryz.prog 202 #[.bool (!(an == bn)),.slice so sn sc,.int .i64 (e+f)] W fun r w'=>∃ ng s1 s2 s3 e1,r=.returned (.agg #[.bool ng,.slice s1 s2 s3,.int .i64 e1])∧DAns W w' V (.agg #[.bool ng,.slice s1 s2 s3,.int .i64 e1])∧Below W.heap.size W w':=fun W so sn sc hN=>by
    have hsn:sn<=10000:=hN.len hlen
    obtain ⟨ao',n',ca',d,e1,hR,h2,h3⟩:=hN
    simp only [Value.slice.injEq] at e1
    obtain ⟨rfl,rfl,rfl⟩:=e1
    refine (rnorm_any (an != bn) _ _ _ d (e+f) W hR h2.1 (by omega) (by omega) (by omega)).mono ?_
    rw [h3,HVV.out]
    rintro r w' ⟨v,rfl,hD⟩
    obtain ⟨ng,s,m',e1,rfl,_,hA⟩:=id hD
    obtain ⟨q1,q2,q3,rfl⟩:=hA.num.shape
    exact ⟨ng,q1,q2,q3,e1,rfl,hD,hD.below⟩
  clear hlen
  go_region_held3 (fun W=>(W.cell? ⟨w.heap.size,0,none⟩=some (.bool an)∧W.cell? ⟨w.heap.size,1,none⟩=some (.slice ao n ca)∧W.cell? ⟨w.heap.size,2,none⟩=some (.int .i64 e))∧W.cell? ⟨w.heap.size+1,0,none⟩=some (.bool bn)∧W.cell? ⟨w.heap.size+1,1,none⟩=some (.slice bo m cb)∧W.cell? ⟨w.heap.size+1,2,none⟩=some (.int .i64 f))
    (first | assumption | exact ⟨⟨k0,k1,k2⟩,j0,j1,j2⟩ | exact keep66 (W:=wx.drew) hbv1 ⟨⟨k0,k1,k2⟩,j0,j1,j2⟩ | exact keep66 hbv2 (keep66 (W:=wx.drew) hbv1 ⟨⟨k0,k1,k2⟩,j0,j1,j2⟩) | exact ⟨keepS (keep66 hbv2 (keep66 (W:=wx.drew) hbv1 ⟨⟨k0,k1,k2⟩,j0,j1,j2⟩)).1 (by omega) _ _ _,keepS (keep66 hbv2 (keep66 (W:=wx.drew) hbv1 ⟨⟨k0,k1,k2⟩,j0,j1,j2⟩)).2 (by omega) _ _ _⟩)
    (first | (go_at_call 202; refine (C2 _ _ _ _ hv1.num).mono ?_; rintro y w4 ⟨ng4,o4,n4,c4,e4,rfl,hv2,hbv2⟩; have q0:=((bel_trans hbv1 hbv2).block (w.heap.size+2) (by show _<wx.heap.size; omega)).trans g2; have x0:=blkC q0 0 rfl; have x1:=blkC q0 1 rfl; have x2:=blkC q0 2 rfl; have z0:=blkF q0 0; have z1:=blkF q0 1; have z2:=blkF q0 2) | (go_at_call 203; refine (C1 _ hb1.drew).mono ?_; rintro y w3 ⟨so,sn,sc,rfl,hv1,hbv1⟩))
  all_goals go_wp2
  all_goals
    refine bodyPost_ret (v:=.agg #[.bool ng4,.slice o4 n4 c4,.int .i64 e4]) (by simp [results,Tryz.results151,go_sem,x0,x1,x2]) rfl ⟨_,rfl,?_⟩
    exact dans_res3 (g:=w.heap.size+2) hv2 (bel_trans hb3 (bel_trans hb1.drew hbv1)) (by omega) (Nat.lt_of_lt_of_le (show _<wx.heap.size by omega) hbv1.size) _ _ _
theorem bd_form {K:Nat} {A:Int} {ng:Bool} {m e:Int} (h:Bd K A) (hy:Dy A ng m e) (hK:K<=4194304) (h0:0<m):-(K:Int)<=e∧e<=K∧m*2^(e+K).toNat<2^(2*K):=by
  obtain ⟨c,hc,c1,c2⟩:=h
  have key:∀ (b:Bool) (C:Int),0<C->C<2^(2*K)->A=sg b C*pw (-(K:Int))->-(K:Int)<=e∧e<=K∧m*2^(e+K).toNat<2^(2*K):=fun b C hC hlt hA=>by
    obtain ⟨l,hl⟩:=isLow_ex hC
    have hy2:=Dy.of b hl hC (show -4194304 <= -(K:Int) by omega)
    rw [<- hA] at hy2
    obtain ⟨_,rfl,rfl⟩:=hy.unique hy2
    obtain ⟨d1,d2,d3⟩:=isLow_odd hl hC
    have hl2:l<2*K:=by
      have h3:(1:Int)*2^l<=C/2^l*2^l:=Int.mul_le_mul_of_nonneg_right (by omega) (Int.le_of_lt (two_pos l))
      rw [d3] at h3
      exact two_lt_iff (by omega)
    refine ⟨by omega,by omega,?_⟩
    rw [show (-(K:Int)+l+K).toNat=l by omega,d3]
    exact hlt
  by_cases hz:c=0
  . exfalso
    rw [hz,Int.zero_mul] at hc
    have:=hy.eq_zero.1 hc
    omega
  . by_cases hp:0<c
    . exact key false c hp c2 (by simpa [sg] using hc)
    . exact key true (-c) (by omega) (by omega) (by simpa [sg] using hc)
theorem bd_shift {K:Nat} {A:Int} {ng:Bool} {m e low:Int} (h:Bd K A) (hy:Dy A ng m e) (hK:K<=4194304) (h0:0<m) (h1:-(K:Int)<=low) (h2:low<=e):m*2^(e-low).toNat<2^(2*K):=by
  obtain ⟨a,b,c⟩:=bd_form h hy hK h0
  have h3:(2:Int)^(e-low).toNat<=2^(e+K).toNat:=two_le (by omega)
  have h4:m*2^(e-low).toNat<=m*2^(e+K).toNat:=Int.mul_le_mul_of_nonneg_left h3 (by omega)
  omega
theorem bd_self {K:Nat} {A:Int} {ng:Bool} {m e:Int} (h:Bd K A) (hy:Dy A ng m e) (hK:K<=4194304) (h0:0<m):m<2^(2*K):=by
  obtain ⟨a,b,c⟩:=bd_form h hy hK h0
  have h3:(1:Int)<=2^(e+K).toNat:=two_pos _
  have h4:m*1<=m*2^(e+K).toNat:=Int.mul_le_mul_of_nonneg_left h3 (by omega)
  omega
theorem bd_digits {K:Nat} {d:Nat->Int} {n:Nat} (hK:K<=560000) (hN:Nrm d n) (h:val d n<2^(2*K)):n<=37400:=by
  by_cases h1:n<=37400
  . exact h1
  . exfalso
    have a:=val_top hN.1 (by omega) hN.2
    have b:=P_le (show 37400<=n-1 by omega)
    have c:(2:Int)^(2*K)<=2^(30*37400):=two_le (by omega)
    rw [<- P_two] at c
    generalize P 37400=Y at *
    omega
def RSum (w w':World) (A B:Int) (x y v:Value):Prop:=Below w.heap.size w w'∧(DAns w w' (A+B) v∨(A=0∧v=y)∨(B=0∧v=x))
theorem RSum.num {w w':World} {A B:Int} {x y v:Value} (h:RSum w w' A B x y v) (hx:DNum w x A) (hy:DNum w y B):DNum w' v (A+B):=by
  rcases h.2 with h1 | ⟨rfl,rfl⟩ | ⟨rfl,rfl⟩
  . exact h1.num
  . rw [Int.zero_add]; exact hy.keeps h.1
  . rw [Int.add_zero]; exact hx.keeps h.1
set_option maxRecDepth 100000 in
set_option maxHeartbeats 2000000 in
theorem radd3_left (x y:NumR) (w:World) (hm:x.n<=9223372036854775807) (hm':y.n<=9223372036854775807) (h:x.n=0) :
    Calls Tryz.prog 152 #[x.v,y.v] w fun r w'=>r=.returned y.v∧Below w.heap.size w w':=by
  obtain ⟨an,ao,n,ca,a,e⟩:=x
  obtain ⟨bn,bo,m,cb,b,f⟩:=y
  unfold NumR.v at *
  simp only at *
  subst h
  go_enter Tryz.func152,Tryz.ntmps152
  go_wp2
  refine bodyPost_ret (v:=.agg #[.bool bn,.slice bo m cb,.int .i64 f]) (by simp [results,Tryz.results152,go_sem]) rfl ⟨rfl,?_⟩
  exact bel_a3 _ _ _ _
set_option maxRecDepth 100000 in
set_option maxHeartbeats 2000000 in
theorem radd3_right (x y:NumR) (w:World) (hm:x.n<=9223372036854775807) (hm':y.n<=9223372036854775807) (h0:0<x.n) (h:y.n=0) :
    Calls Tryz.prog 152 #[x.v,y.v] w fun r w'=>r=.returned x.v∧Below w.heap.size w w':=by
  obtain ⟨an,ao,n,ca,a,e⟩:=x
  obtain ⟨bn,bo,m,cb,b,f⟩:=y
  unfold NumR.v at *
  simp only at *
  have hn0:((n:Int) == 0)=false:=by simp; omega
  subst h
  go_enter Tryz.func152,Tryz.ntmps152
  go_wp2
  refine bodyPost_ret (v:=.agg #[.bool an,.slice ao n ca,.int .i64 e]) (by simp [results,Tryz.results152,go_sem]) rfl ⟨rfl,?_⟩
  exact bel_a3 _ _ _ _
set_option maxRecDepth 100000 in
set_option maxHeartbeats 2000000 in
theorem radd3_walk (x y:NumR) (w:World) (hx:Row w x.ao x.n x.cap x.d) (hy:Row w y.ao y.n y.cap y.d) (n0:0<x.n) (m0:0<y.n) (low A B V:Int)
    (hlow:low=min x.e y.e) (hl0:-600000<=low) (he:x.e<=600000) (hf:y.e<=600000)
    (H1:∀ W,Below w.heap.size w W->Calls Tryz.prog 204 #[.slice x.ao x.n x.cap,.int .i64 (x.e-low)] W fun r w'=>∃ so sn sc,r=.returned (.slice so sn sc)∧Num w' (.slice so sn sc) A∧Below W.heap.size W w')
    (H2:∀ W,Below w.heap.size w W->Calls Tryz.prog 204 #[.slice y.ao y.n y.cap,.int .i64 (y.e-low)] W fun r w'=>∃ so sn sc,r=.returned (.slice so sn sc)∧Num w' (.slice so sn sc) B∧Below W.heap.size W w')
    (H3:∀ W p q,Num W p A->Num W q B->Calls Tryz.prog 205 #[p,q] W fun r w'=>∃ so sn sc,r=.returned (.slice so sn sc)∧Num w' (.slice so sn sc) (A+B)∧Below W.heap.size W w')
    (H4:∀ W p q,Num W p A->Num W q B->Calls Tryz.prog 206 #[p,q] W fun r w'=>r=.returned (.int .i64 (ord A B))∧Below W.heap.size W w')
    (H5:∀ W p q,Num W p A->Num W q B->B<=A->Calls Tryz.prog 207 #[p,q] W fun r w'=>∃ so sn sc,r=.returned (.slice so sn sc)∧Num w' (.slice so sn sc) (A-B)∧Below W.heap.size W w')
    (H6:∀ W p q,Num W p A->Num W q B->A<=B->Calls Tryz.prog 207 #[q,p] W fun r w'=>∃ so sn sc,r=.returned (.slice so sn sc)∧Num w' (.slice so sn sc) (B-A)∧Below W.heap.size W w')
    (H7:∀ W ng s M,Num W s M->((x.ng=y.ng∧ng=x.ng∧M=A+B)∨(x.ng≠y.ng∧B<=A∧ng=x.ng∧M=A-B)∨(x.ng≠y.ng∧A<B∧ng=y.ng∧M=B-A))->Calls Tryz.prog 202 #[.bool ng,s,.int .i64 low] W fun r w'=>∃ ng s1 s2 s3 e1,r=.returned (.agg #[.bool ng,.slice s1 s2 s3,.int .i64 e1])∧DAns W w' V (.agg #[.bool ng,.slice s1 s2 s3,.int .i64 e1])∧Below W.heap.size W w') :
    Calls Tryz.prog 152 #[x.v,y.v] w fun r w'=>∃ v,r=.returned v∧DAns w w' V v:=by
  have hmin:∀ (ts:Array TypeId) (t:TypeId) (w:World),(Builtin.min_ ts t #[.int .i64 x.e,.int .i64 y.e]).run Tryz.prog w=.ok (.int .i64 low) w:=fun ts t w=>by rw [run_min_int2,hlow]; congr 2; omega
  have hl1:low<=x.e:=by omega
  have hl2:low<=y.e:=by omega
  have HH7:Hid _:=H7
  have hm:=hx.max
  have hm':=hy.max
  clear hlow H7
  obtain ⟨an,ao,n,ca,a,e⟩:=x
  obtain ⟨bn,bo,m,cb,b,f⟩:=y
  unfold NumR.v
  simp only at *
  have hn0:((n:Int) == 0)=false:=by simp; omega
  have hm0:((m:Int) == 0)=false:=by simp; omega
  have hb3:Below w.heap.size w (((w.alloc (.cells #[.bool an,.slice ao n ca,.int .i64 e] 40)).alloc (.cells #[.bool bn,.slice bo m cb,.int .i64 f] 40)).alloc (.cells #[.bool false,.slice none 0 0,.int .i64 0] 40)):=bel_a3 _ _ _ _
  have g0:=h3_0 w (.cells #[.bool an,.slice ao n ca,.int .i64 e] 40) (.cells #[.bool bn,.slice bo m cb,.int .i64 f] 40) (.cells #[.bool false,.slice none 0 0,.int .i64 0] 40)
  have g1:=h3_1 w (.cells #[.bool an,.slice ao n ca,.int .i64 e] 40) (.cells #[.bool bn,.slice bo m cb,.int .i64 f] 40) (.cells #[.bool false,.slice none 0 0,.int .i64 0] 40)
  have g2:=h3_2 w (.cells #[.bool an,.slice ao n ca,.int .i64 e] 40) (.cells #[.bool bn,.slice bo m cb,.int .i64 f] 40) (.cells #[.bool false,.slice none 0 0,.int .i64 0] 40)
  go_enter Tryz.func152,Tryz.ntmps152
  go_wp2_with fail
  generalize ((w.alloc (.cells #[.bool an,.slice ao n ca,.int .i64 e] 40)).alloc (.cells #[.bool bn,.slice bo m cb,.int .i64 f] 40)).alloc (.cells #[.bool false,.slice none 0 0,.int .i64 0] 40)=wx at hb3 g0 g1 g2 ⊢
  refine (H1 _ hb3).mono ?_
  rintro r w1 ⟨po,pn,pc,rfl,hP,hb1⟩
  have hbx1:=bel_trans hb3 hb1
  replace g0:=(hb1.block _ (Array.getElem?_eq_some_iff.1 g0).1).trans g0
  replace g1:=(hb1.block _ (Array.getElem?_eq_some_iff.1 g1).1).trans g1
  replace g2:=(hb1.block _ (Array.getElem?_eq_some_iff.1 g2).1).trans g2
  have j1:=blkC g1 1 rfl
  have j2:=blkC g1 2 rfl
  go_wp2_with fail
  clear j1 j2
  refine (H2 _ hbx1).mono ?_
  rintro r w2 ⟨qo,qn,qc,rfl,hQ,hb2⟩
  have hbx2:=bel_trans hbx1 hb2
  replace hP:=hP.keeps hb2
  replace g0:=(hb2.block _ (Array.getElem?_eq_some_iff.1 g0).1).trans g0
  replace g1:=(hb2.block _ (Array.getElem?_eq_some_iff.1 g1).1).trans g1
  replace g2:=(hb2.block _ (Array.getElem?_eq_some_iff.1 g2).1).trans g2
  have k0:=blkC g0 0 rfl
  have k1:=blkC g0 1 rfl
  have k2:=blkC g0 2 rfl
  have j0:=blkC g1 0 rfl
  have j1:=blkC g1 1 rfl
  have j2:=blkC g1 2 rfl
  by_cases hng:an=bn
  . subst hng
    have C1:∀ W,Below w2.heap.size w2 W->Calls Tryz.prog 205 #[.slice po pn pc,.slice qo qn qc] W fun r w'=>∃ so sn sc,r=.returned (.slice so sn sc)∧Num w' (.slice so sn sc) (A+B)∧Below W.heap.size W w':=fun W h=>H3 W _ _ (hP.keeps h) (hQ.keeps h)
    have C2:∀ W so sn sc,Num W (.slice so sn sc) (A+B)->Calls Tryz.prog 202 #[.bool an,.slice so sn sc,.int .i64 low] W fun r w'=>∃ ng s1 s2 s3 e1,r=.returned (.agg #[.bool ng,.slice s1 s2 s3,.int .i64 e1])∧DAns W w' V (.agg #[.bool ng,.slice s1 s2 s3,.int .i64 e1])∧Below W.heap.size W w':=fun W so sn sc hN=>HH7.out W an _ _ hN (.inl ⟨rfl,rfl,rfl⟩)
    clear H1 H2 H3 H4 H5 H6 HH7
    have hs3:=(Array.getElem?_eq_some_iff.1 g2).1
    go_wp2_with fail
    have hb1:=bel_refl w2
    go_region_held3 (fun W=>(W.cell? ⟨w.heap.size,0,none⟩=some (.bool an)∧W.cell? ⟨w.heap.size,1,none⟩=some (.slice ao n ca)∧W.cell? ⟨w.heap.size,2,none⟩=some (.int .i64 e))∧W.cell? ⟨w.heap.size+1,0,none⟩=some (.bool an)∧W.cell? ⟨w.heap.size+1,1,none⟩=some (.slice bo m cb)∧W.cell? ⟨w.heap.size+1,2,none⟩=some (.int .i64 f))
      (first | assumption | exact ⟨⟨k0,k1,k2⟩,j0,j1,j2⟩ | exact keep66 (W:=w2.drew) hbv1 ⟨⟨k0,k1,k2⟩,j0,j1,j2⟩ | exact keep66 hbv2 (keep66 (W:=w2.drew) hbv1 ⟨⟨k0,k1,k2⟩,j0,j1,j2⟩) | exact ⟨keepS (keep66 hbv2 (keep66 (W:=w2.drew) hbv1 ⟨⟨k0,k1,k2⟩,j0,j1,j2⟩)).1 (by omega) _ _ _,keepS (keep66 hbv2 (keep66 (W:=w2.drew) hbv1 ⟨⟨k0,k1,k2⟩,j0,j1,j2⟩)).2 (by omega) _ _ _⟩)
      (first | (go_at_call 202; refine (C2 _ _ _ _ hv1).mono ?_; rintro y w4 ⟨ng4,o4,n4,c4,e4,rfl,hv2,hbv2⟩; have q0:=((bel_trans hbv1 hbv2).block (w.heap.size+2) (by show _<w2.heap.size; omega)).trans g2; have x0:=blkC q0 0 rfl; have x1:=blkC q0 1 rfl; have x2:=blkC q0 2 rfl; have z0:=blkF q0 0; have z1:=blkF q0 1; have z2:=blkF q0 2) | (go_at_call 205; refine (C1 _ hb1.drew).mono ?_; rintro y w3 ⟨so,sn,sc,rfl,hv1,hbv1⟩))
    all_goals go_wp2
    all_goals
      refine bodyPost_ret (v:=.agg #[.bool ng4,.slice o4 n4 c4,.int .i64 e4]) (by simp [results,Tryz.results152,go_sem,x0,x1,x2]) rfl ⟨_,rfl,?_⟩
      exact dans_res3 (g:=w.heap.size+2) hv2 (bel_trans hbx2 (bel_trans hb1.drew hbv1)) (by omega) (Nat.lt_of_lt_of_le (show _<w2.heap.size by omega) hbv1.size) _ _ _
  . have hng':(an == bn)=false:=by simp [hng]
    go_wp2_with fail
    refine (H4 _ _ _ hP hQ).mono ?_
    rintro r w3 ⟨rfl,hb3'⟩
    have hbx3:=bel_trans hbx2 hb3'
    replace hP:=hP.keeps hb3'
    replace hQ:=hQ.keeps hb3'
    replace g0:=(hb3'.block _ (Array.getElem?_eq_some_iff.1 g0).1).trans g0
    replace g1:=(hb3'.block _ (Array.getElem?_eq_some_iff.1 g1).1).trans g1
    replace g2:=(hb3'.block _ (Array.getElem?_eq_some_iff.1 g2).1).trans g2
    replace k0:=blkC g0 0 rfl
    replace k1:=blkC g0 1 rfl
    replace k2:=blkC g0 2 rfl
    replace j0:=blkC g1 0 rfl
    replace j1:=blkC g1 1 rfl
    replace j2:=blkC g1 2 rfl
    have hs3:=(Array.getElem?_eq_some_iff.1 g2).1
    by_cases hAB:B<=A
    . have ho:(0:Int)<=ord A B:=by
        rcases Int.lt_trichotomy A B with h | h | h
        . omega
        . rw [ord_eq h]; decide
        . rw [ord_gt h]; decide
      have C1:∀ W,Below w3.heap.size w3 W->Calls Tryz.prog 207 #[.slice po pn pc,.slice qo qn qc] W fun r w'=>∃ so sn sc,r=.returned (.slice so sn sc)∧Num w' (.slice so sn sc) (A-B)∧Below W.heap.size W w':=fun W h=>H5 W _ _ (hP.keeps h) (hQ.keeps h) hAB
      have C2:∀ W so sn sc,Num W (.slice so sn sc) (A-B)->Calls Tryz.prog 202 #[.bool an,.slice so sn sc,.int .i64 low] W fun r w'=>∃ ng s1 s2 s3 e1,r=.returned (.agg #[.bool ng,.slice s1 s2 s3,.int .i64 e1])∧DAns W w' V (.agg #[.bool ng,.slice s1 s2 s3,.int .i64 e1])∧Below W.heap.size W w':=fun W so sn sc hN=>HH7.out W an _ _ hN (.inr (.inl ⟨hng,hAB,rfl,rfl⟩))
      generalize ord A B=oAB at ho ⊢
      clear H1 H2 H3 H4 H5 H6 HH7 hAB
      go_wp2_with fail
      have hb1:=bel_refl w3
      go_region_held3 (fun W=>(W.cell? ⟨w.heap.size,0,none⟩=some (.bool an)∧W.cell? ⟨w.heap.size,1,none⟩=some (.slice ao n ca)∧W.cell? ⟨w.heap.size,2,none⟩=some (.int .i64 e))∧W.cell? ⟨w.heap.size+1,0,none⟩=some (.bool bn)∧W.cell? ⟨w.heap.size+1,1,none⟩=some (.slice bo m cb)∧W.cell? ⟨w.heap.size+1,2,none⟩=some (.int .i64 f))
        (first | assumption | exact ⟨⟨k0,k1,k2⟩,j0,j1,j2⟩ | exact keep66 (W:=w3.drew) hbv1 ⟨⟨k0,k1,k2⟩,j0,j1,j2⟩ | exact keep66 hbv2 (keep66 (W:=w3.drew) hbv1 ⟨⟨k0,k1,k2⟩,j0,j1,j2⟩) | exact ⟨keepS (keep66 hbv2 (keep66 (W:=w3.drew) hbv1 ⟨⟨k0,k1,k2⟩,j0,j1,j2⟩)).1 (by omega) _ _ _,keepS (keep66 hbv2 (keep66 (W:=w3.drew) hbv1 ⟨⟨k0,k1,k2⟩,j0,j1,j2⟩)).2 (by omega) _ _ _⟩)
        (first | (go_at_call 202; refine (C2 _ _ _ _ hv1).mono ?_; rintro y w4 ⟨ng4,o4,n4,c4,e4,rfl,hv2,hbv2⟩; have q0:=((bel_trans hbv1 hbv2).block (w.heap.size+2) (by show _<w3.heap.size; omega)).trans g2; have x0:=blkC q0 0 rfl; have x1:=blkC q0 1 rfl; have x2:=blkC q0 2 rfl; have z0:=blkF q0 0; have z1:=blkF q0 1; have z2:=blkF q0 2) | (go_at_call 207; refine (C1 _ hb1.drew).mono ?_; rintro y w3' ⟨so,sn,sc,rfl,hv1,hbv1⟩))
      all_goals go_wp2
      all_goals
        refine bodyPost_ret (v:=.agg #[.bool ng4,.slice o4 n4 c4,.int .i64 e4]) (by simp [results,Tryz.results152,go_sem,x0,x1,x2]) rfl ⟨_,rfl,?_⟩
        exact dans_res3 (g:=w.heap.size+2) hv2 (bel_trans hbx3 (bel_trans hb1.drew hbv1)) (by omega) (Nat.lt_of_lt_of_le (show _<w3.heap.size by omega) hbv1.size) _ _ _
    . have ho:ord A B<(0:Int):=by rw [ord_lt (by omega)]; decide
      have C1:∀ W,Below w3.heap.size w3 W->Calls Tryz.prog 207 #[.slice qo qn qc,.slice po pn pc] W fun r w'=>∃ so sn sc,r=.returned (.slice so sn sc)∧Num w' (.slice so sn sc) (B-A)∧Below W.heap.size W w':=fun W h=>H6 W _ _ (hP.keeps h) (hQ.keeps h) (by omega)
      have C2:∀ W so sn sc,Num W (.slice so sn sc) (B-A)->Calls Tryz.prog 202 #[.bool bn,.slice so sn sc,.int .i64 low] W fun r w'=>∃ ng s1 s2 s3 e1,r=.returned (.agg #[.bool ng,.slice s1 s2 s3,.int .i64 e1])∧DAns W w' V (.agg #[.bool ng,.slice s1 s2 s3,.int .i64 e1])∧Below W.heap.size W w':=fun W so sn sc hN=>HH7.out W bn _ _ hN (.inr (.inr ⟨hng,by omega,rfl,rfl⟩))
      generalize ord A B=oAB at ho ⊢
      clear H1 H2 H3 H4 H5 H6 HH7 hAB
      go_wp2_with fail
      have hb1:=bel_refl w3
      go_region_held3 (fun W=>(W.cell? ⟨w.heap.size,0,none⟩=some (.bool an)∧W.cell? ⟨w.heap.size,1,none⟩=some (.slice ao n ca)∧W.cell? ⟨w.heap.size,2,none⟩=some (.int .i64 e))∧W.cell? ⟨w.heap.size+1,0,none⟩=some (.bool bn)∧W.cell? ⟨w.heap.size+1,1,none⟩=some (.slice bo m cb)∧W.cell? ⟨w.heap.size+1,2,none⟩=some (.int .i64 f))
        (first | assumption | exact ⟨⟨k0,k1,k2⟩,j0,j1,j2⟩ | exact keep66 (W:=w3.drew) hbv1 ⟨⟨k0,k1,k2⟩,j0,j1,j2⟩ | exact keep66 hbv2 (keep66 (W:=w3.drew) hbv1 ⟨⟨k0,k1,k2⟩,j0,j1,j2⟩) | exact ⟨keepS (keep66 hbv2 (keep66 (W:=w3.drew) hbv1 ⟨⟨k0,k1,k2⟩,j0,j1,j2⟩)).1 (by omega) _ _ _,keepS (keep66 hbv2 (keep66 (W:=w3.drew) hbv1 ⟨⟨k0,k1,k2⟩,j0,j1,j2⟩)).2 (by omega) _ _ _⟩)
        (first | (go_at_call 202; refine (C2 _ _ _ _ hv1).mono ?_; rintro y w4 ⟨ng4,o4,n4,c4,e4,rfl,hv2,hbv2⟩; have q0:=((bel_trans hbv1 hbv2).block (w.heap.size+2) (by show _<w3.heap.size; omega)).trans g2; have x0:=blkC q0 0 rfl; have x1:=blkC q0 1 rfl; have x2:=blkC q0 2 rfl; have z0:=blkF q0 0; have z1:=blkF q0 1; have z2:=blkF q0 2) | (go_at_call 207; refine (C1 _ hb1.drew).mono ?_; rintro y w3' ⟨so,sn,sc,rfl,hv1,hbv1⟩))
      all_goals go_wp2
      all_goals
        refine bodyPost_ret (v:=.agg #[.bool ng4,.slice o4 n4 c4,.int .i64 e4]) (by simp [results,Tryz.results152,go_sem,x0,x1,x2]) rfl ⟨_,rfl,?_⟩
        exact dans_res3 (g:=w.heap.size+2) hv2 (bel_trans hbx3 (bel_trans hb1.drew hbv1)) (by omega) (Nat.lt_of_lt_of_le (show _<w3.heap.size by omega) hbv1.size) _ _ _
theorem rsum_V {an bn:Bool} {A B low:Int} {ng:Bool} {M:Int} (h:(an=bn∧ng=an∧M=A+B)∨(an≠bn∧B<=A∧ng=an∧M=A-B)∨(an≠bn∧A<B∧ng=bn∧M=B-A)) :
    sg ng M*pw low=sg an A*pw low+sg bn B*pw low:=by
  rw [<- Int.add_mul]
  congr 1
  rcases h with ⟨rfl,rfl,rfl⟩ | ⟨h1,h2,rfl,rfl⟩ | ⟨h1,h2,rfl,rfl⟩
  . cases ng <;> simp [sg] <;> omega
  . cases ng <;> cases bn <;> simp [sg] at * <;> omega
  . cases an <;> cases ng <;> simp [sg] at * <;> omega
theorem Num.digits {w:World} {so:Option Addr} {sn sc:Nat} {M:Int} (h:Num w (.slice so sn sc) M) {K:Nat} (hK:K<=560000) (hM:M<2^(2*K)+2^(2*K)):∃ d,Row w so sn sc d∧Nrm d sn∧val d sn=M∧sn<=37500:=by
  obtain ⟨ao,n,ca,d,e,hR,hN,hv⟩:=h
  simp only [Value.slice.injEq] at e
  obtain ⟨rfl,rfl,rfl⟩:=e
  refine ⟨d,hR,hN,hv,?_⟩
  by_cases h1:sn<=37500
  . exact h1
  . exfalso
    have a:=val_top hN.1 (by omega) hN.2
    have b:=P_le (show 37500<=sn-1 by omega)
    have c:(2:Int)^(2*K)<=2^(30*37400):=two_le (by omega)
    have c2:(2:Int)^(30*37400)*2<=2^(30*37500):=by
      rw [<- Int.pow_succ]
      exact two_le (by omega)
    rw [<- P_two 37500] at c2
    generalize P 37500=Y at *
    generalize (2:Int)^(30*37400)=Z at *
    omega
theorem radd3_any (x y:NumR) (w:World) (hx:Row w x.ao x.n x.cap x.d) (hy:Row w y.ao y.n y.cap y.d) (dx:Dy x.V x.ng (val x.d x.n) x.e) (nx:Nrm x.d x.n) (dy:Dy y.V y.ng (val y.d y.n) y.e) (ny:Nrm y.d y.n) {K:Nat} (hK:K<=560000) (bx:Bd K x.V) (bY:Bd K y.V) :
    Calls Tryz.prog 152 #[x.v,y.v] w fun r w'=>∃ v,r=.returned v∧RSum w w' x.V y.V x.v y.v v:=by
  by_cases h0:x.n=0
  . refine (radd3_left x y w (Nat.le_trans hx.le hx.max) (Nat.le_trans hy.le hy.max) h0).mono ?_
    rintro r w' ⟨rfl,hb⟩
    exact ⟨_,rfl,hb,.inr (.inl ⟨dx.eq_zero.2 (by rw [h0]; rfl),rfl⟩)⟩
  . by_cases h1:y.n=0
    . refine (radd3_right x y w (Nat.le_trans hx.le hx.max) (Nat.le_trans hy.le hy.max) (by omega) h1).mono ?_
      rintro r w' ⟨rfl,hb⟩
      exact ⟨_,rfl,hb,.inr (.inr ⟨dy.eq_zero.2 (by rw [h1]; rfl),rfl⟩)⟩
    . have px:=val_pos nx (show 0<x.n by omega)
      have py:=val_pos ny (show 0<y.n by omega)
      obtain ⟨a1,a2,_⟩:=bd_form bx dx (by omega) px
      obtain ⟨b1,b2,_⟩:=bd_form bY dy (by omega) py
      obtain ⟨low,hlow⟩:∃ low:Int,low=min x.e y.e:=⟨_,rfl⟩
      have hl0:-(K:Int)<=low:=by omega
      have s1:=bd_shift bx dx (by omega) px hl0 (by omega)
      have s2:=bd_shift bY dy (by omega) py hl0 (by omega)
      have v1:=dx.at (low:=low) (by omega) (by omega)
      have v2:=dy.at (low:=low) (by omega) (by omega)
      have dgx:=bd_digits hK nx (bd_self bx dx (by omega) px)
      have dgy:=bd_digits hK ny (bd_self bY dy (by omega) py)
      have q1:0<=val x.d x.n*2^(x.e-low).toNat:=Int.mul_nonneg (by omega) (Int.le_of_lt (two_pos _))
      have q2:0<=val y.d y.n*2^(y.e-low).toNat:=Int.mul_nonneg (by omega) (Int.le_of_lt (two_pos _))
      have e1:x.e-low=((x.e-low).toNat:Int):=by omega
      have e2:y.e-low=((y.e-low).toNat:Int):=by omega
      have H1:∀ W,Below w.heap.size w W->Calls Tryz.prog 204 #[.slice x.ao x.n x.cap,.int .i64 (x.e-low)] W fun r w'=>∃ so sn sc,r=.returned (.slice so sn sc)∧Num w' (.slice so sn sc) (val x.d x.n*2^(x.e-low).toNat)∧Below W.heap.size W w':=fun W hb=>by
        rw [e1]
        refine (rshl_any x.ao x.n x.cap _ x.d W (hx.keeps hb) nx.1 (by omega) (by omega)).mono ?_
        rintro r w' ⟨v,rfl,hA⟩
        obtain ⟨so,sn,sc,rfl⟩:=hA.num.shape
        exact ⟨so,sn,sc,rfl,by rw [<- e1]; exact hA.num,hA.below⟩
      have H2:∀ W,Below w.heap.size w W->Calls Tryz.prog 204 #[.slice y.ao y.n y.cap,.int .i64 (y.e-low)] W fun r w'=>∃ so sn sc,r=.returned (.slice so sn sc)∧Num w' (.slice so sn sc) (val y.d y.n*2^(y.e-low).toNat)∧Below W.heap.size W w':=fun W hb=>by
        rw [e2]
        refine (rshl_any y.ao y.n y.cap _ y.d W (hy.keeps hb) ny.1 (by omega) (by omega)).mono ?_
        rintro r w' ⟨v,rfl,hA⟩
        obtain ⟨so,sn,sc,rfl⟩:=hA.num.shape
        exact ⟨so,sn,sc,rfl,by rw [<- e2]; exact hA.num,hA.below⟩
      generalize val x.d x.n*2^(x.e-low).toNat=A at *
      generalize val y.d y.n*2^(y.e-low).toNat=B at *
      have dg:=fun W so sn sc M (h:Num W (.slice so sn sc) M) hM=>h.digits hK hM
      have key:∀ W p M,Num W p M->M<2^(2*K)+2^(2*K)->∃ so sn sc d,p=.slice so sn sc∧Row W so sn sc d∧Nrm d sn∧val d sn=M∧sn<=37500:=fun W p M h hM=>by
        obtain ⟨so,sn,sc,rfl⟩:=h.shape
        obtain ⟨d,h1,h2,h3,h4⟩:=h.digits hK hM
        exact ⟨so,sn,sc,d,rfl,h1,h2,h3,h4⟩
      refine (radd3_walk x y w hx hy (by omega) (by omega) low A B (x.V+y.V) hlow (by omega) (by omega) (by omega) H1 H2 ?_ ?_ ?_ ?_ ?_).mono ?_
      . intro W p q hp hq
        obtain ⟨po,pn,pc,d,rfl,r1,r2,r3,r4⟩:=key W p A hp (by omega)
        obtain ⟨qo,qn,qc,d',rfl,u1,u2,u3,u4⟩:=key W q B hq (by omega)
        refine (radd_any _ _ _ _ _ _ d d' W r1 u1 r2 u2 (by omega) (by omega)).mono ?_
        rw [r3,u3]
        rintro r w' ⟨v,rfl,hA⟩
        obtain ⟨so,sn,sc,rfl⟩:=hA.num.shape
        exact ⟨so,sn,sc,rfl,hA.num,hA.below⟩
      . intro W p q hp hq
        obtain ⟨po,pn,pc,d,rfl,r1,r2,r3,r4⟩:=key W p A hp (by omega)
        obtain ⟨qo,qn,qc,d',rfl,u1,u2,u3,u4⟩:=key W q B hq (by omega)
        have:=rcmp_any po qo pn qn pc qc d d' W r1 u1 r2 u2
        rwa [r3,u3] at this
      . intro W p q hp hq hle
        obtain ⟨po,pn,pc,d,rfl,r1,r2,r3,r4⟩:=key W p A hp (by omega)
        obtain ⟨qo,qn,qc,d',rfl,u1,u2,u3,u4⟩:=key W q B hq (by omega)
        refine (rsub_any _ _ _ _ _ _ d d' W r1 u1 r2 u2 (by omega) (by rw [r3,u3]; exact hle)).mono ?_
        rw [r3,u3]
        rintro r w' ⟨v,rfl,hA⟩
        obtain ⟨so,sn,sc,rfl⟩:=hA.num.shape
        exact ⟨so,sn,sc,rfl,hA.num,hA.below⟩
      . intro W p q hp hq hle
        obtain ⟨po,pn,pc,d,rfl,r1,r2,r3,r4⟩:=key W p A hp (by omega)
        obtain ⟨qo,qn,qc,d',rfl,u1,u2,u3,u4⟩:=key W q B hq (by omega)
        refine (rsub_any _ _ _ _ _ _ d' d W u1 r1 u2 r2 (by omega) (by rw [r3,u3]; exact hle)).mono ?_
        rw [r3,u3]
        rintro r w' ⟨v,rfl,hA⟩
        obtain ⟨so,sn,sc,rfl⟩:=hA.num.shape
        exact ⟨so,sn,sc,rfl,hA.num,hA.below⟩
      . intro W ng s M hs hc
        have hM:M<2^(2*K)+2^(2*K):=by rcases hc with ⟨_,_,h⟩ | ⟨_,_,_,h⟩ | ⟨_,_,_,h⟩ <;> omega
        obtain ⟨po,pn,pc,d,rfl,r1,r2,r3,r4⟩:=key W s M hs hM
        have hV:=rsum_V (low:=low) hc
        rw [<- v1,<- v2] at hV
        refine (rnorm_any ng po pn pc d low W r1 r2.1 (by omega) (by omega) (by omega)).mono ?_
        rw [r3,hV]
        rintro r w' ⟨v,rfl,hD⟩
        obtain ⟨ng',s,m',e1,rfl,_,hA⟩:=id hD
        obtain ⟨q1,q2,q3,rfl⟩:=hA.num.shape
        exact ⟨ng',q1,q2,q3,e1,rfl,hD,hD.below⟩
      . rintro r w' ⟨v,rfl,hD⟩
        exact ⟨v,rfl,hD.below,.inl hD⟩
theorem radd_D {w:World} {x y:Value} {A B:Int} (hx:DNum w x A) (hy:DNum w y B) {K:Nat} (hK:K<=560000) (bx:Bd K A) (bY:Bd K B) :
    Calls Tryz.prog 152 #[x,y] w fun r w'=>∃ v,r=.returned v∧RSum w w' A B x y v:=by
  obtain ⟨ng,s,m,e,rfl,dx,ao,n,cap,d,rfl,hR,hN,rfl⟩:=hx
  obtain ⟨ng',s',m',e',rfl,dy,ao',n',cap',d',rfl,hR',hN',rfl⟩:=hy
  obtain rfl:A=(⟨ng,ao,n,cap,d,e⟩:NumR).V:=dx.val
  obtain rfl:B=(⟨ng',ao',n',cap',d',e'⟩:NumR).V:=dy.val
  exact radd3_any ⟨ng,ao,n,cap,d,e⟩ ⟨ng',ao',n',cap',d',e'⟩ w hR hR' dx hN dy hN' hK bx bY
def Lies (v:Value) (x y:Nat):Prop:=∀ g,v.ownBlock=some g->x<=g∧g<y
def DAn (B:Nat) (w:World) (V:Int) (v:Value):Prop:=∃ ng s m e,v=.agg #[.bool ng,s,.int .i64 e]∧Dy V ng m e∧An B w s m
def DFitA (B:Nat) (w:World) (V:Int) (v:Value) (er:Int):Prop:=(Dok V∧er=0∧DAn B w V v)∨(¬ Dok V∧er=2∧v=zeroV)
theorem DAns.dan {w w':World} {V:Int} {v:Value} (h:DAns w w' V v):DAn w.heap.size w' V v:=by
  obtain ⟨ng,s,m,e,h1,h2,h3⟩:=h
  exact ⟨ng,s,m,e,h1,h2,h3.an⟩
theorem An.wr {B:Nat} {w w':World} {v:Value} {V:Int} {g:Nat} (h:An B w v V) (hw:Wr g w w') (hg:g<B):An B w' v V:=by
  obtain ⟨t,d,h1,h2⟩:=h
  exact ⟨t,d,h1.of_block fun g' hg'=>hw.block g' (h1.ge hg').2 (by have:=(h1.ge hg').1; omega),h2⟩
theorem DAn.wr {B:Nat} {w w':World} {v:Value} {V:Int} {g:Nat} (h:DAn B w V v) (hw:Wr g w w') (hg:g<B):DAn B w' V v:=by
  obtain ⟨ng,s,m,e,h1,h2,h3⟩:=h
  exact ⟨ng,s,m,e,h1,h2,h3.wr hw hg⟩
theorem DAn.keeps {B:Nat} {w w':World} {v:Value} {V:Int} (h:DAn B w V v) (k:Below w.heap.size w w'):DAn B w' V v:=by
  obtain ⟨ng,s,m,e,h1,h2,h3⟩:=h
  exact ⟨ng,s,m,e,h1,h2,h3.keeps k⟩
theorem DAn.lower {B B':Nat} {w:World} {v:Value} {V:Int} (h:DAn B w V v) (hB:B'<=B):DAn B' w V v:=by
  obtain ⟨ng,s,m,e,h1,h2,h3⟩:=h
  exact ⟨ng,s,m,e,h1,h2,h3.lower hB⟩
theorem DAn.num {B:Nat} {w:World} {v:Value} {V:Int} (h:DAn B w V v):DNum w v V:=by
  obtain ⟨ng,s,m,e,h1,h2,h3⟩:=h
  exact ⟨ng,s,m,e,h1,h2,h3.num⟩
theorem DFitA.wr {B:Nat} {w w':World} {v:Value} {V er:Int} {g:Nat} (h:DFitA B w V v er) (hw:Wr g w w') (hg:g<B):DFitA B w' V v er:=by
  rcases h with ⟨h1,h2,h3⟩ | h
  . exact .inl ⟨h1,h2,h3.wr hw hg⟩
  . exact .inr h
theorem DFitA.keeps {B:Nat} {w w':World} {v:Value} {V er:Int} (h:DFitA B w V v er) (k:Below w.heap.size w w'):DFitA B w' V v er:=by
  rcases h with ⟨h1,h2,h3⟩ | h
  . exact .inl ⟨h1,h2,h3.keeps k⟩
  . exact .inr h
theorem DFitA.lower {B B':Nat} {w:World} {v:Value} {V er:Int} (h:DFitA B w V v er) (hB:B'<=B):DFitA B' w V v er:=by
  rcases h with ⟨h1,h2,h3⟩ | h
  . exact .inl ⟨h1,h2,h3.lower hB⟩
  . exact .inr h
theorem DFitA.shape {B:Nat} {w:World} {v:Value} {V er:Int} (h:DFitA B w V v er):∃ ng so sn sc e,v=.agg #[.bool ng,.slice so sn sc,.int .i64 e]:=by
  rcases h with ⟨_,_,ng,s,m,e,h1,_,h3⟩ | ⟨_,_,rfl⟩
  . obtain ⟨so,sn,sc,rfl⟩:=h3.shape
    exact ⟨_,_,_,_,_,h1⟩
  . exact ⟨_,_,_,_,_,rfl⟩
theorem DFitA.ge {B:Nat} {w:World} {ng:Bool} {so:Option Addr} {sn sc:Nat} {e V er:Int} (h:DFitA B w V (.agg #[.bool ng,.slice so sn sc,.int .i64 e]) er):Lies (.slice so sn sc) B w.heap.size:=by
  intro g hg
  rcases h with ⟨_,_,ng',s,m,e',h1,_,h3⟩ | ⟨_,_,h1⟩
  . simp only [Value.agg.injEq,Array.mk.injEq,List.cons.injEq,Value.bool.injEq,Value.int.injEq,and_true,true_and] at h1
    obtain ⟨_,h1,_⟩:=h1
    rw [<- h1] at h3
    exact h3.ge hg
  . simp only [zeroV,Value.agg.injEq,Array.mk.injEq,List.cons.injEq,Value.bool.injEq,Value.int.injEq,Value.slice.injEq,and_true,true_and] at h1
    obtain ⟨_,⟨rfl,_,_⟩,_⟩:=h1
    simp [Value.ownBlock] at hg
theorem DAn.parts {B:Nat} {w:World} {ng:Bool} {so:Option Addr} {sn sc:Nat} {e V:Int} (h:DAn B w V (.agg #[.bool ng,.slice so sn sc,.int .i64 e])):∃ m,Dy V ng m e∧An B w (.slice so sn sc) m:=by
  obtain ⟨ng',s,m,e',h1,h2,h3⟩:=h
  simp only [Value.agg.injEq,Array.mk.injEq,List.cons.injEq,Value.bool.injEq,Value.int.injEq,and_true,true_and] at h1
  obtain ⟨rfl,rfl,rfl⟩:=h1
  exact ⟨m,h2,h3⟩
end Go.Proofs.YtjjihmnbdeeedaaGreatDoor
