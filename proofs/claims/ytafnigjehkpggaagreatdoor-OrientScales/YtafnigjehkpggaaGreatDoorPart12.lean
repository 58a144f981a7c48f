/-
  Parts of the proof, one behind another.
-/
import Derived.Test.YtafnigjehkpggaaGreatDoorPart11
import Derived.Test.YtafnigjehkpggaaGreatDoorPart6
import Derived.Test.YtafnigjehkpggaaGreatDoorPart2
import Derived.Test.YtafnigjehkpggaaGreatDoorPart3
import Derived.Deep.RegionHeld3
import Derived.Test.YtafnigjehkpggaaGreatDoorPart4
import Derived.ArgAppend
import Derived.Test.YtafnigjehkpggaaGreatDoorPart5
namespace Go.Proofs.YtafnigjehkpggaaGreatDoor
open Go Go.RowKit Go.Proofs.YtafnigjehkpggaaGreatDoor.M
set_option linter.unusedSimpArgs false
set_option linter.unusedVariables false
theorem mathAbs {b:Int} (hb:rng b) (w:World) :
    Calls Tryz.prog 27 #[.float .f64 (wd b)] w fun e w'=>e=.returned (.float .f64 (wd (rg b)))∧w'=w:=by
  have h1:=run_bits64
  have h2:=run_from64
  go_enter Tryz.func27,Tryz.ntmps27
  go_wp2
  go_ret
  exact ⟨ret_float (q_abs hb),rfl⟩
theorem q_finite {b:Int} (hb:rng b) (w:World) :
    Calls Tryz.prog 81 #[.float .f64 (wd b)] w fun e w'=>e=.returned (.bool (pok b))∧w'=w:=by
  have n0:=no64 hb
  obtain ⟨r1,r2⟩:=q_rg hb
  by_cases h4:cls b=4
  . have n1:(FloatKind.f64.format.order (wd b) (wd b) != some .eq)=true:=by rw [n0]; simp [h4]
    have hp:pok b=false:=by
      cases h:pok b
      . rfl
      . exact absurd h4 (q_fin h)
    clear n0
    go_enter Tryz.func81,Tryz.ntmps81
    go_wp2
    go_ret
    exact ⟨b_ret_bool hp.symm,rfl⟩
  . have n1:(FloatKind.f64.format.order (wd b) (wd b) != some .eq)=false:=by rw [n0]; simp [h4]
    have c1:¬ cls (rg b)=4:=by rw [q_cls hb]; exact h4
    have c2:¬ cls 9218868437227405311=4:=by decide
    have r3:rng 9218868437227405311:=by unfold rng; omega
    have k1:=q_key r2
    have k2:key 9218868437227405311=9218868437227405311:=by decide
    have e2:wd 9218868437227405311=9218868437227405311:=by decide
    have hp:=pok_rg' hb
    clear n0
    rcases Int.lt_trichotomy (rg b) 9218868437227405311 with h | h | h
    . have o:=q_lt r1 r3 c1 c2 (by rw [k1,k2]; exact h)
      rw [e2] at o
      have hp':pok b=true:=by rw [hp]; simp; omega
      clear hp
      go_enter Tryz.func81,Tryz.ntmps81
      go_wp2_with (go_at_call 27; refine (mathAbs hb _).mono ?_; rintro _ _ ⟨rfl,rfl⟩)
      go_ret
      exact ⟨b_ret_bool hp'.symm,rfl⟩
    . have o:=q_eq r1 r3 c1 c2 (by rw [k1,k2]; exact h)
      rw [e2] at o
      have hp':pok b=true:=by rw [hp]; simp; omega
      clear hp
      go_enter Tryz.func81,Tryz.ntmps81
      go_wp2_with (go_at_call 27; refine (mathAbs hb _).mono ?_; rintro _ _ ⟨rfl,rfl⟩)
      go_ret
      exact ⟨b_ret_bool hp'.symm,rfl⟩
    . have o:=q_gt r1 r3 c1 c2 (by rw [k1,k2]; exact h)
      rw [e2] at o
      have hp':pok b=false:=by rw [hp]; simp; omega
      clear hp
      go_enter Tryz.func81,Tryz.ntmps81
      go_wp2_with (go_at_call 27; refine (mathAbs hb _).mono ?_; rintro _ _ ⟨rfl,rfl⟩)
      go_ret
      exact ⟨b_ret_bool hp'.symm,rfl⟩
theorem pointTame {b:Int} (hb:rng b) (w:World) :
    Calls Tryz.prog 25 #[.int .i64 b] w fun e w'=>e=.returned (.bool (tame b))∧w'=w:=by
  obtain ⟨r1,r2⟩:=q_rg hb
  have k1:=q_key r2
  have z1:wd 0=0:=by decide
  have z2:wd 3931642474694443008=3931642474694443008:=by decide
  have z3:wd 5282722362905591808=5282722362905591808:=by decide
  have s1:=same_order r1 (show rng 0 by unfold rng; omega)
  have s2:=less_order r1 (show rng 5282722362905591808 by unfold rng; omega)
  have o0:=@order64_nan
  by_cases h4:cls (rg b)=4
  . have o1:=order64_nan r1 (show rng 0 by unfold rng; omega) (.inl h4)
    have o2:=order64_nan (show rng 3931642474694443008 by unfold rng; omega) r1 (.inr h4)
    rw [z1] at o1
    rw [z2] at o2
    have ht:tame b=false:=by
      have h5:cls b=4:=by rw [<- q_cls hb]; exact h4
      have h6:fld b=2047:=by
        unfold cls at h5; split at h5
        . assumption
        . split at h5
          . split at h5 <;> omega
          . omega
      have:=rg_parts hb
      have h7:0 <= frc b∧frc b < 4503599627370496:=by unfold frc; omega
      rw [tame_fld hb,h6]
      simp
      omega
    clear s1 s2 o0
    go_enter Tryz.func25,Tryz.ntmps25
    go_wp2_with (first
      | (go_at_call 26; refine (bitsFloat _ _).mono ?_; rintro _ _ ⟨rfl,rfl⟩)
      | (go_at_call 27; refine (mathAbs hb _).mono ?_; rintro _ _ ⟨rfl,rfl⟩))
    go_ret
    exact ⟨b_ret_bool ht.symm,rfl⟩
  . have c0:¬ cls 0=4:=by decide
    have c2:¬ cls 3931642474694443008=4:=by decide
    have c3:¬ cls 5282722362905591808=4:=by decide
    have y0:rng 0:=by unfold rng; omega
    have y2:rng 3931642474694443008:=by unfold rng; omega
    have y3:rng 5282722362905591808:=by unfold rng; omega
    have m0:key 0=0:=by decide
    have m2:key 3931642474694443008=3931642474694443008:=by decide
    have m3:key 5282722362905591808=5282722362905591808:=by decide
    clear s1 s2 o0
    by_cases e0:rg b=0
    . have o1:=q_eq r1 y0 h4 c0 (by rw [k1,m0]; exact e0)
      rw [z1] at o1
      have ht:tame b=true:=by unfold tame; simp [e0]
      go_enter Tryz.func25,Tryz.ntmps25
      go_wp2_with (first
        | (go_at_call 26; refine (bitsFloat _ _).mono ?_; rintro _ _ ⟨rfl,rfl⟩)
        | (go_at_call 27; refine (mathAbs hb _).mono ?_; rintro _ _ ⟨rfl,rfl⟩))
      go_ret
      exact ⟨b_ret_bool ht.symm,rfl⟩
    have o1:=q_gt r1 y0 h4 c0 (by rw [k1,m0]; omega)
    rw [z1] at o1
    by_cases e1:rg b < 3931642474694443008
    . have o2:=q_gt y2 r1 c2 h4 (by rw [k1,m2]; exact e1)
      rw [z2] at o2
      have ht:tame b=false:=by unfold tame; simp [e0]; omega
      go_enter Tryz.func25,Tryz.ntmps25
      go_wp2_with (first
        | (go_at_call 26; refine (bitsFloat _ _).mono ?_; rintro _ _ ⟨rfl,rfl⟩)
        | (go_at_call 27; refine (mathAbs hb _).mono ?_; rintro _ _ ⟨rfl,rfl⟩))
      go_ret
      exact ⟨b_ret_bool ht.symm,rfl⟩
    by_cases e2:rg b=3931642474694443008
    . have o2:=q_eq y2 r1 c2 h4 (by rw [k1,m2]; exact e2.symm)
      have o3:=q_lt r1 y3 h4 c3 (by rw [k1,m3]; omega)
      rw [z2] at o2
      rw [z3] at o3
      have ht:tame b=true:=by unfold tame; simp [e2]
      go_enter Tryz.func25,Tryz.ntmps25
      go_wp2_with (first
        | (go_at_call 26; refine (bitsFloat _ _).mono ?_; rintro _ _ ⟨rfl,rfl⟩)
        | (go_at_call 27; refine (mathAbs hb _).mono ?_; rintro _ _ ⟨rfl,rfl⟩))
      go_ret
      exact ⟨b_ret_bool ht.symm,rfl⟩
    have o2:=q_lt y2 r1 c2 h4 (by rw [k1,m2]; omega)
    rw [z2] at o2
    rcases Int.lt_trichotomy (rg b) 5282722362905591808 with h | h | h
    . have o3:=q_lt r1 y3 h4 c3 (by rw [k1,m3]; omega)
      rw [z3] at o3
      have ht:tame b=true:=by unfold tame; simp [e0]; omega
      go_enter Tryz.func25,Tryz.ntmps25
      go_wp2_with (first
        | (go_at_call 26; refine (bitsFloat _ _).mono ?_; rintro _ _ ⟨rfl,rfl⟩)
        | (go_at_call 27; refine (mathAbs hb _).mono ?_; rintro _ _ ⟨rfl,rfl⟩))
      go_ret
      exact ⟨b_ret_bool ht.symm,rfl⟩
    . have o3:=q_eq r1 y3 h4 c3 (by rw [k1,m3]; omega)
      rw [z3] at o3
      have ht:tame b=false:=by unfold tame; simp [e0]; omega
      go_enter Tryz.func25,Tryz.ntmps25
      go_wp2_with (first
        | (go_at_call 26; refine (bitsFloat _ _).mono ?_; rintro _ _ ⟨rfl,rfl⟩)
        | (go_at_call 27; refine (mathAbs hb _).mono ?_; rintro _ _ ⟨rfl,rfl⟩))
      go_ret
      exact ⟨b_ret_bool ht.symm,rfl⟩
    . have o3:=q_gt r1 y3 h4 c3 (by rw [k1,m3]; omega)
      rw [z3] at o3
      have ht:tame b=false:=by unfold tame; simp [e0]; omega
      go_enter Tryz.func25,Tryz.ntmps25
      go_wp2_with (first
        | (go_at_call 26; refine (bitsFloat _ _).mono ?_; rintro _ _ ⟨rfl,rfl⟩)
        | (go_at_call 27; refine (mathAbs hb _).mono ?_; rintro _ _ ⟨rfl,rfl⟩))
      go_ret
      exact ⟨b_ret_bool ht.symm,rfl⟩
theorem q_two_set {p B g o:Nat} {v x0 x1:Value} {W:World} (hg:B <= g) (h:p < B∧B <= W.heap.size∧W.cell? ⟨p,0,none⟩=some x0∧W.cell? ⟨p,1,none⟩=some x1) :
    p < B∧B <= (W.setCell ⟨g,o,none⟩ v).heap.size∧(W.setCell ⟨g,o,none⟩ v).cell? ⟨p,0,none⟩=some x0∧(W.setCell ⟨g,o,none⟩ v).cell? ⟨p,1,none⟩=some x1:=by
  have hw:Wr g W (W.setCell ⟨g,o,none⟩ v):=(Wr.refl g W).setCell o v
  obtain ⟨h1,h2,a0,a1⟩:=h
  have hp:p < W.heap.size:=by omega
  have hne:p ≠ g:=by omega
  exact ⟨h1,Nat.le_trans h2 hw.size,(hw.cell hp hne).trans a0,(hw.cell hp hne).trans a1⟩
theorem q_heap_set {w:World} {g:Nat} {xs:Array Value} {t:TypeId} (h:w.heap[g]?=some (.cells xs t (0,0))) (i:Nat) (v:Value):(w.setCell ⟨g,i,none⟩ v).heap[g]?=some (.cells (xs.setIfInBounds i v) t (0,0)):=by
  simp [World.setCell,Array.getElem?_modify,h]
def errF (b:Bool):Int:=if b then 0 else 10
def allFin (d:Nat->Int) (n:Nat):Bool:=decide (∀ i,i < n->pok (d i)=true)
set_option maxRecDepth 100000 in
theorem q_checked (ao:Option Addr) (n cap:Nat) (d:Nat->Int) (w:World) (h:Row w ao n cap d) (hd:∀ i,i < n->rng (d i)) :
    Calls Tryz.prog 55 #[.slice ao n cap] w fun e w'=>e=.returned (.int .i64 (errF (allFin d n)))∧w'=w:=by
  have hl:=h.le
  have hm:=h.max
  go_enter Tryz.func55,Tryz.ntmps55
  go_wp2_with fail
  go_loop [7] (fun i=>∃ k:Nat,k <= n∧i=.int .i64 k∧Hid (∀ j,j < k->pok (d j)=true)) (fun i=>n - (intOf i).toNat)
  case atStart=>exact ⟨0,Nat.zero_le _,rfl,fun j hj=>by omega⟩
  case round=>
    obtain ⟨k,hk,rfl,HO⟩:=hrel
    by_cases hlt:k < n
    . obtain ⟨b,off,rfl,hb,hc⟩:=h.spot (by omega)
      have c0:=hc k hlt
      have hr:=hd k hlt
      by_cases hok:pok (d k)=true
      . go_wp2_with (first
          | (go_at_call 26; refine (bitsFloat _ _).mono ?_; rintro _ _ ⟨rfl,rfl⟩)
          | (go_at_call 81; refine (q_finite hr _).mono ?_; rintro _ _ ⟨rfl,rfl⟩))
        go_round
        case rel=>exact ⟨k + 1,by omega,by go_num,fun j hj=>by
            by_cases e:j=k
            . subst e; exact hok
            . exact HO.out j (by omega)⟩
        case measure=>simp [intOf]; omega
      . have hok':pok (d k)=false:=by simpa using hok
        go_wp2_with (first
          | (go_at_call 26; refine (bitsFloat _ _).mono ?_; rintro _ _ ⟨rfl,rfl⟩)
          | (go_at_call 81; refine (q_finite hr _).mono ?_; rintro _ _ ⟨rfl,rfl⟩))
        go_ret
        exact ⟨b_ret_int (by
          unfold errF
          rw [if_neg]
          intro hx
          exact hok (of_decide_eq_true hx k hlt)),rfl⟩
    . obtain rfl:k=n:=by omega
      go_wp2
      go_ret
      exact ⟨b_ret_int (by unfold errF; rw [if_pos (show allFin d k=true from decide_eq_true HO.out)]),rfl⟩
theorem allFin2 (x y:Int):allFin (fun i=>if i=0 then x else y) 2=(pok x && pok y):=by
  unfold allFin
  rw [Bool.eq_iff_iff]
  simp
  constructor
  . intro h
    exact ⟨by simpa using h 0 (by omega),by simpa using h 1 (by omega)⟩
  . rintro ⟨h1,h2⟩ i hi
    split
    . exact h1
    . exact h2
theorem q_row2 (w:World) (o:Obj) (x y:Int) (t:TypeId):Row ((w.alloc o).alloc (.cells #[.int .i64 x,.int .i64 y] t)) (some ⟨w.heap.size + 1,0,none⟩) 2 2 (fun i=>if i=0 then x else y) :=
  ⟨by omega,by omega,(fun h=>by cases h),fun _=>⟨_,_,rfl,by simp,fun i hi=>by
    have e:((w.alloc o).alloc (.cells #[.int .i64 x,.int .i64 y] t)).heap[w.heap.size + 1]?=some (.cells #[.int .i64 x,.int .i64 y] t):=heap_b2 w o _
    unfold World.cell?
    rw [show ((⟨w.heap.size + 1,0 + i,none⟩:Addr)).block=w.heap.size + 1 from rfl,e]
    match i,hi with
    | 0,_=>rfl
    | 1,_=>rfl⟩⟩
set_option maxRecDepth 100000 in
theorem pointCheck {x y:Int} (hx:rng x) (hy:rng y) (w:World) :
    Calls Tryz.prog 34 #[.agg #[.int .i64 x,.int .i64 y]] w fun e w'=>e=.returned (.int .i64 (errF (pok x && pok y)))∧Below w.heap.size w w':=by
  have hr:=q_row2 w (.cells #[.int .i64 x,.int .i64 y] 23) x y 3
  have e2:=allFin2 x y
  go_enter Tryz.func34,Tryz.ntmps34
  go_wp2_with fail
  refine (q_checked _ _ _ _ _ hr (fun i _=>by show rng (if i=0 then x else y); split <;> assumption)).mono ?_
  rintro _ _ ⟨rfl,rfl⟩
  go_wp2
  go_ret
  exact ⟨b_ret_int (by rw [<- e2]),bel_alloc2 _ _ _⟩
def gaveX:Ending:=.panicked [{ v:=.iface 27 (.int .i64 14),recovered:=false }]
theorem xnought {b:Int} (hb:rng b) (w:World) :
    Calls Tryz.prog 137 #[.int .i64 b] w fun e w'=>e=.returned (.bool (decide (rg b=0)))∧w'=w:=by
  have ho:=nought_order hb
  generalize decide (rg b=0)=Z at *
  go_enter Tryz.func137,Tryz.ntmps137
  go_wp2_with (go_at_call 26; refine (bitsFloat _ _).mono ?_; rintro _ _ ⟨rfl,rfl⟩)
  go_ret
  exact ⟨b_ret_bool (by first | rfl | simp [ho]),rfl⟩
theorem xsure_yes (h l:Int) (w:World) :
    Calls Tryz.prog 138 #[.int .i64 h,.int .i64 l,.bool true] w fun e w'=>e=.returned (.tuple #[.int .i64 h,.int .i64 l])∧w'=w:=by
  go_enter Tryz.func138,Tryz.ntmps138
  go_wp2
  refine bodyPost_ret (v:=.tuple #[.int .i64 h,.int .i64 l]) (by simp [results,Tryz.results138,go_sem]) rfl ⟨rfl,rfl⟩
theorem xsure_no (h l:Int) (w:World) :
    Calls Tryz.prog 138 #[.int .i64 h,.int .i64 l,.bool false] w fun e w'=>e=gaveX∧w'=w:=by
  go_enter Tryz.func138,Tryz.ntmps138
  go_wp2
  exact ⟨rfl,rfl,rfl⟩
structure Own (B:Nat) (w:World) (v:Value) (w':World) (v':Value) (s:Ls):Prop where
  out:Out B w' v' s.n s.d
  gr:w.grownBy w' v.ownBlock
  at':v'.ownBlock=v.ownBlock∨∀ k,v'.ownBlock=some k->w.heap.size <= k
theorem Own.refl {B:Nat} {w:World} {v:Value} {s:Ls} (h:Out B w v s.n s.d):Own B w v w v s:=⟨h,World.grownBy.refl _ _,.inl rfl⟩
theorem Own.below {B:Nat} {w w':World} {v v':Value} {s:Ls} (h:Own B w v w' v' s) (hO:∀ k,v.ownBlock=some k->B <= k) (hB:B <= w.heap.size):Below B w w' :=
  (Below.refl B w).grown h.gr hB hO
theorem grown_past {w w1:World} {o:Obj} {k:Option Nat} (h:(w.alloc o).grownBy w1 k):w.grownBy w1 k:=by
  have ha:=bel_alloc w o
  exact ⟨h.os.trans ha.os,h.tape.trans ha.tape,h.output.trans ha.output,Nat.le_trans ha.size h.size,fun k hk hne=>(h.block k (Nat.lt_of_lt_of_le hk ha.size) hne).trans (ha.block k hk)⟩
set_option maxRecDepth 100000 in
theorem xadd_any {B:Nat} {v:Value} {s:Ls} {b:Int} (w:World) (h:Out B w v s.n s.d) (hb:rng b) (hn:s.n <= 900000) (hB:B <= w.heap.size) :
    Calls Tryz.prog 139 #[v,.int .i64 b] w fun e w'=>∃ v',e=.returned v'∧Out B w' v' (s.add b).n (s.add b).d∧w.grownBy w' v.ownBlock:=by
  have hz:=fun W=>xnought hb W
  by_cases h0:rg b=0
  . have e:s.add b=s:=by unfold Ls.add; rw [if_pos h0]
    rw [decide_eq_true h0] at hz
    rw [e]
    go_enter Tryz.func139,Tryz.ntmps139
    go_wp2_with (go_at_call 137; refine (hz _).mono ?_; rintro _ _ ⟨rfl,rfl⟩)
    go_ret
    exact ⟨v,rfl,h,World.grownBy.refl _ _⟩
  . have e:s.add b=⟨s.n + 1,upd s.d s.n b⟩:=by unfold Ls.add; rw [if_neg h0]
    rw [decide_eq_false h0] at hz
    rw [e]
    go_enter Tryz.func139,Tryz.ntmps139
    go_wp2_with (first
      | (go_at_call 137; refine (hz _).mono ?_; rintro _ _ ⟨rfl,rfl⟩)
      | (at_builtin; refine wpList_app rfl _ _ rfl B _ s.n s.d rfl (h.stays (bel_alloc _ _)) _ 1 1 (fun _=>b) rfl (row1 _ _ rfl) (by omega) (by simp; omega) ?_; intro v' w1 hO1 hg1))
    go_ret
    refine ⟨v',rfl,hO1.congr fun i hi=>?_,?_⟩
    . by_cases e:i < s.n
      . simp [cat,e,upd_other s.d _ (show i ≠ s.n by omega)]
      . obtain rfl:i=s.n:=by omega
        simp [cat,upd_same]
    . exact grown_past hg1
def InB (w:World) (g cap N:Nat) (s:Ls):Prop:=∃ cur,w.heap[g]?=some (.cells cur 3 (0,0))∧cur.size=cap∧∀ i,i < N->cur[i]?=some (.int .i64 (s.d i))
theorem InB.keeps {w w':World} {g cap N:Nat} {s:Ls} (h:InB w g cap N s) (hb:Below w.heap.size w w'):InB w' g cap N s:=by
  obtain ⟨cur,h1,h2⟩:=h
  exact ⟨cur,(hb.block _ (Array.getElem?_eq_some_iff.1 h1).1).trans h1,h2⟩
theorem InB.out {w:World} {B g cap N:Nat} {s:Ls} (h:InB w g cap N s) (hn:s.n <= N) (hN:N <= cap) (hB:B <= g) (hm:cap <= 9223372036854775807):Out B w (.slice (some ⟨g,0,none⟩) s.n cap) s.n s.d:=by
  obtain ⟨cur,h1,h2,h3⟩:=h
  refine ⟨by rw [vals_length]; omega,.inr ⟨g,cap,cur,rfl,hB,h1,by omega,by unfold maxLen; omega,by omega,?_⟩⟩
  apply vals_ext (by simp; omega)
  intro i hi
  rw [List.getElem?_take,if_pos (by omega),Array.getElem?_toList]
  exact h3 i (by omega)
theorem Out.inB {B:Nat} {w:World} {g n cap:Nat} {d:Nat->Int} (h:Out B w (.slice (some ⟨g,0,none⟩) n cap) n d):InB w g cap n ⟨0,d⟩∧n <= cap∧cap <= 9223372036854775807∧B <= g:=by
  rcases h.2 with ⟨e,_⟩ | ⟨g',cap',cur,e,hb,hg,hn,hm,hs,ht⟩
  . simp at e
  . simp only [Value.slice.injEq,Option.some.injEq,Addr.mk.injEq,and_true,true_and] at e
    obtain ⟨rfl,rfl⟩:=e
    refine ⟨⟨cur,hg,by omega,fun i hi=>?_⟩,hn,by unfold maxLen at hm; exact hm,hb⟩
    have e:(cur.toList.take (n * 1))[i]?=(vals d n)[i]?:=by rw [ht]
    rw [List.getElem?_take,if_pos (by omega),vals_get d hi,Array.getElem?_toList] at e
    exact e
set_option maxRecDepth 100000 in
theorem wpList_appIn {w:World} {ops:Array Oper} {rest:List Oper} {o:Oper} {a:Act} {Q:Exit->Act->World->Prop} (hgd:o.guard=none) (s x:Operand)
    (ho:o.op=.call { callee:=.builtin .append,args:=#[s,x],argTypes:=#[30,30] }) (g m cap N:Nat) (r:Ls) (hs:a.eval s=.slice (some ⟨g,0,none⟩) m cap) (hI:InB w g cap N r) (hm:m < cap)
    (ad:Addr) (b:Int) (hx:a.eval x=.slice (some ad) 1 1) (hc:w.cell? ad=some (.int .i64 b))
    (h:∀ w',InB w' g cap N ⟨m + 1,upd r.d m b⟩->w.grownBy w' (some g)->wpList Tryz.prog ops Q rest (a.put o.dst (.slice (some ⟨g,0,none⟩) (m + 1) cap)) w'):wpList Tryz.prog ops Q (o :: rest) a w:=by
  obtain ⟨i0,hi,hz0,hz1,hz2⟩:=info_parts info_int
  obtain ⟨cur,hg,hs2,hr⟩:=hI
  refine wpList_plain hgd fun K hK'=>?_
  have hr2:=run_append_room (P:=Tryz.prog) w 30 o.type 3 i0 Tryz.underlying30 hi g m cap cur hg ad 1 1 [.int .i64 b] (by rw [hz1]; rfl) (by
    intro j u hu
    match j,hu with
    | 0,hu=>
      simp at hu
      subst hu
      rw [show ad.add 0=ad by unfold Addr.add; split <;> simp_all]
      exact hc) (by simp [Value.oneCell']) (by omega) (by rw [hz1]; simp; omega)
  unfold Oper.wp
  simp [execOp,ho,resolve,invoke,builtin,hs,hx,hr2,Result.andThen]
  refine hK' _ _ (h _ ?_ ?_)
  . refine ⟨_,setRow_heap w g cur _ _ _ hg,?_,fun i hi=>?_⟩
    . simp [hz1]; omega
    . rw [hz1]
      show (cur.toList.take (m * 1) ++ Value.int .i64 b :: cur.toList.drop (m * 1 + 1)).toArray[i]?=some (.int .i64 (upd r.d m b i))
      rw [Nat.mul_one]
      have hl:(cur.toList.take m).length=m:=by simp; omega
      rw [List.getElem?_toArray]
      by_cases e:i=m
      . subst e
        rw [upd_same,List.getElem?_append_right (by omega),hl]
        simp
      . rw [upd_other _ _ e,<- hr i hi]
        by_cases e2:i < m
        . rw [List.getElem?_append_left (by omega),List.getElem?_take,if_pos e2,Array.getElem?_toList]
        . rw [List.getElem?_append_right (by omega),hl]
          obtain ⟨j,hj⟩:∃ j,i - m=j + 1:=⟨i - m - 1,by omega⟩
          rw [hj,List.getElem?_cons_succ,List.getElem?_drop,Array.getElem?_toList]
          rw [show m + 1 + j=i by omega]
  . exact ⟨rfl,rfl,rfl,by simp,fun k _ hk=>setRow_other w g k _ (fun e=>hk (by simp [e]))⟩
set_option maxRecDepth 100000 in
theorem xadd_in {g cap N:Nat} {s:Ls} {b:Int} (w:World) (h:InB w g cap N s) (hb:rng b) (hn:s.n < cap) :
    Calls Tryz.prog 139 #[.slice (some ⟨g,0,none⟩) s.n cap,.int .i64 b] w fun e w'=>e=.returned (.slice (some ⟨g,0,none⟩) (s.add b).n cap)∧InB w' g cap N (s.add b)∧w.grownBy w' (some g):=by
  have hz:=fun W=>xnought hb W
  by_cases h0:rg b=0
  . have e:s.add b=s:=by unfold Ls.add; rw [if_pos h0]
    rw [decide_eq_true h0] at hz
    rw [e]
    go_enter Tryz.func139,Tryz.ntmps139
    go_wp2_with (go_at_call 137; refine (hz _).mono ?_; rintro _ _ ⟨rfl,rfl⟩)
    go_ret
    exact ⟨rfl,h,World.grownBy.refl _ _⟩
  . have e:s.add b=⟨s.n + 1,upd s.d s.n b⟩:=by unfold Ls.add; rw [if_neg h0]
    rw [decide_eq_false h0] at hz
    rw [e]
    have hr:=fun W:World=>row1 W b rfl
    go_enter Tryz.func139,Tryz.ntmps139
    go_wp2_with (first
      | (go_at_call 137; refine (hz _).mono ?_; rintro _ _ ⟨rfl,rfl⟩)
      | (at_builtin; refine wpList_appIn rfl _ _ rfl g s.n cap N s rfl (h.keeps (bel_alloc _ _)) hn _ b rfl (by obtain ⟨bb,off,e1,_,hc⟩:=(hr _).spot (by omega); simp only [Option.some.injEq] at e1; have:=hc 0 (by omega); rw [Nat.add_zero] at this; rw [<- e1] at this; exact this) ?_; intro w1 hI1 hg1))
    go_ret
    refine ⟨rfl,hI1,?_⟩
    exact grown_past hg1
theorem xtwoSum {p q:Int} (hp:rng p) (hq:rng q) (pp:pok p=true) (pq:pok q=true) (w:World) :
    Calls Tryz.prog 127 #[.int .i64 p,.int .i64 q] w fun e w'=>e=.returned (.tuple #[.int .i64 (fsum p q),.int .i64 (sL p q),.bool (pok (sL p q))])∧Below w.heap.size w w':=by
  have:=twoSum_any hp hq w
  rw [told_ok pp hp,told_ok pq hq] at this
  exact this
theorem grown_bel {B:Nat} {w w':World} {g:Nat} (h:w.grownBy w' (some g)) (hB:B <= g) (hw:B <= w.heap.size):Below B w w' :=
  (Below.refl B w).grown h hw (fun k hk=>by simp at hk; omega)
theorem grown_bel2 {w w1 w2:World} {o:Option Nat} (h:w.grownBy w1 o) (k:Below w1.heap.size w1 w2):w.grownBy w2 o :=
  ⟨k.os.trans h.os,k.tape.trans h.tape,k.output.trans h.output,Nat.le_trans h.size k.size,fun j hj hne=>(k.block j (Nat.lt_of_lt_of_le hj h.size)).trans (h.block j hj hne)⟩
theorem xgr_trans {w w1 w2:World} {o:Option Nat} (h:w.grownBy w1 o) (k:w1.grownBy w2 o):w.grownBy w2 o :=
  ⟨k.os.trans h.os,k.tape.trans h.tape,k.output.trans h.output,Nat.le_trans h.size k.size,fun j hj hne=>(k.block j (Nat.lt_of_lt_of_le hj h.size) hne).trans (h.block j hj hne)⟩
set_option maxRecDepth 100000 in
set_option maxHeartbeats 2000000 in
theorem xgrow_some {B g n cap:Nat} {d:Nat->Int} {q:Int} (w:World) (h:Out B w (.slice (some ⟨g,0,none⟩) n cap) n d) (hd:∀ i,i < n->rng (d i)∧pok (d i)=true) (hq:rng q) (pq:pok q=true) (hn:n <= 800000) (hB:B <= w.heap.size) :
    Calls Tryz.prog 141 #[.slice (some ⟨g,0,none⟩) n cap,.int .i64 q] w fun e w'=>(gx d q n=true∧∃ v',e=.returned v'∧Out B w' v' (grw n d q).n (grw n d q).d∧w.grownBy w' (some g))∨(gx d q n=false∧e=gaveX∧w.grownBy w' (some g)):=by
  obtain ⟨hI,hnc,hcm,hBg⟩:=h.inB
  have HQ:Hid (∀ k,k <= n->gx d q k=true->rng (gq d q k)∧pok (gq d q k)=true):=gq_fin hd hq pq
  have HDD:Hid (∀ i,i < n->rng (d i)∧pok (d i)=true):=hd
  have hgl:g < w.heap.size:=by obtain ⟨cur,h1,_⟩:=hI; exact (Array.getElem?_eq_some_iff.1 h1).1
  clear hd h hq pq
  go_enter Tryz.func141,Tryz.ntmps141
  go_wp2_with fail
  go_loopw [1,5,13] (fun qv gv iv wr=>∃ k:Nat,k <= n∧iv=.int .i64 k∧qv=.int .i64 (gq d q k)∧gv=.slice (some ⟨g,0,none⟩) (gs d q k).n cap∧Hid (gx d q k=true)∧Hid (InB wr g cap n (gs d q k))∧Hid (w.grownBy wr (some g))) (fun _ _ iv _=>n - (intOf iv).toNat)
  case atStart=>exact ⟨0,Nat.zero_le _,rfl,rfl,rfl,rfl,hI,World.grownBy.refl _ _⟩
  case round=>
    obtain ⟨k,hk,rfl,rfl,rfl,HX,HI,HG⟩:=hrel
    clear hI
    have hsn:=gs_le d q k
    by_cases hlt:k < n
    . obtain ⟨r1,r2⟩:=HQ.out k hk HX.out
      obtain ⟨d1,d2⟩:=HDD.out k hlt
      have c0:wr.cell? ⟨g,k,none⟩=some (.int .i64 (d k)):=by
        obtain ⟨cur,h1,h2,h3⟩:=HI.out
        rw [cell_of_row wr g k cur _ _ h1,h3 k hlt,gs_tail d q k k (Nat.le_refl _)]
      have CT:Hid (∀ W,Calls Tryz.prog 127 #[.int .i64 (gq d q k),.int .i64 (d k)] W fun e w'=>e=.returned (.tuple #[.int .i64 (gq d q (k + 1)),.int .i64 (gl d q k),.bool (pok (gl d q k))])∧Below W.heap.size W w'):=fun W=>xtwoSum r1 d1 r2 d2 W
      have rl:rng (gl d q k):=sL_rng r1 d1
      have i0:(0:Int) <= (k:Int):=by omega
      have i1:(k:Int) < (n:Int):=by omega
      have HS:Hid (gs d q (k + 1)=(gs d q k).add (gl d q k)):=rfl
      have HXS:Hid (gx d q (k + 1)=(gx d q k && pok (gl d q k))):=rfl
      have HNO:Hid (pok (gl d q k)=false->gx d q n=false):=fun hno=>by
        cases hx:gx d q n
        . rfl
        . have:=gx_mono (show k + 1 <= n by omega) hx
          rw [HXS.out,hno,Bool.and_false] at this
          cases this
      obtain ⟨q',hq'⟩:∃ q',gq d q (k + 1)=q':=⟨_,rfl⟩
      rw [hq'] at CT
      have HQ':Hid (gq d q (k + 1)=q'):=hq'
      clear hq'
      generalize gl d q k=l at *
      generalize gq d q k=q0 at *
      generalize hd0:d k=dk at *
      have HD0:Hid (d k=dk):=hd0
      clear hd0 r1 r2 d1 d2
      have CA:=fun W h=>xadd_in (g:=g) (cap:=cap) (N:=n) (s:=gs d q k) (b:=l) W h rl (by omega)
      generalize hs0:gs d q k=s0 at *
      have HS0:Hid (gs d q k=s0):=hs0
      clear hs0
      cases hl:pok l
      . rw [hl] at CT
        go_wp2_with fail
        refine (CT.out _).mono ?_
        rintro _ w1 ⟨rfl,hb1⟩
        go_wp2_with fail
        refine (xsure_no _ _ _).mono ?_
        rintro _ _ ⟨rfl,rfl⟩
        unfold gaveX
        go_wp2
        exact ⟨rfl,.inr ⟨HNO.out hl,rfl,grown_bel2 HG.out hb1⟩⟩
      . rw [hl] at CT
        go_wp2_with fail
        refine (CT.out _).mono ?_
        rintro _ w1 ⟨rfl,hb1⟩
        go_wp2_with fail
        refine (xsure_yes _ _ _).mono ?_
        rintro _ _ ⟨rfl,rfl⟩
        rename_i w1
        go_wp2_with fail
        refine (CA _ (HI.out.keeps hb1)).mono ?_
        rintro _ w2 ⟨rfl,hI2,hg2⟩
        go_wp2
        go_roundw
        case rel=>exact ⟨k + 1,by omega,by go_num,by rw [HQ'.out],by rw [HS.out],by show _=_; rw [HXS.out,HX.out,hl]; rfl,by show InB _ _ _ _ _; rw [HS.out]; exact hI2,xgr_trans (grown_bel2 HG.out hb1) hg2⟩
        case measure=>simp [intOf]; omega
    . obtain rfl:k=n:=by omega
      have hO:=HI.out.out (B:=B) hsn hnc hBg hcm
      have hwr:B <= wr.heap.size:=Nat.le_trans hB HG.out.size
      have HQ2:Hid (rng (gq d q k)∧pok (gq d q k)=true):=HQ.out k hk HX.out
      have CA:Hid (∀ W,W=wr->Calls Tryz.prog 139 #[.slice (some ⟨g,0,none⟩) (gs d q k).n cap,.int .i64 (gq d q k)] W fun e w'=>∃ v',e=.returned v'∧Out B w' v' (grw k d q).n (grw k d q).d∧W.grownBy w' (some g)):=fun W hW=>by
        subst hW
        exact xadd_any W hO HQ2.out.1 (by omega) hwr
      generalize gq d q k=q0 at *
      generalize gs d q k=s0 at *
      clear hO
      go_wp2_with fail
      refine (CA.out _ rfl).mono ?_
      rintro _ w2 ⟨v',rfl,hO2,hg2⟩
      go_wp2
      go_ret
      exact .inl ⟨HX.out,v',rfl,hO2,xgr_trans HG.out hg2⟩
theorem xgrow_any {B n:Nat} {v:Value} {d:Nat->Int} {q:Int} (w:World) (h:Out B w v n d) (hd:∀ i,i < n->rng (d i)∧pok (d i)=true) (hq:rng q) (pq:pok q=true) (hn:n <= 800000) (hB:B <= w.heap.size) :
    Calls Tryz.prog 141 #[v,.int .i64 q] w fun e w'=>(gx d q n=true∧∃ v',e=.returned v'∧Out B w' v' (grw n d q).n (grw n d q).d∧w.grownBy w' v.ownBlock)∨(gx d q n=false∧e=gaveX∧w.grownBy w' v.ownBlock):=by
  rcases id h.2 with ⟨rfl,rfl⟩ | ⟨g,cap,cur,rfl,_⟩
  . have CA:Hid (∀ W,W=w->Calls Tryz.prog 139 #[.slice none 0 0,.int .i64 q] W fun e w'=>∃ v',e=.returned v'∧Out B w' v' (grw 0 d q).n (grw 0 d q).d∧W.grownBy w' none):=fun W hW=>by
      subst hW
      exact xadd_any (s:=⟨0,d⟩) W h hq (Nat.zero_le _) hB
    clear h hd hq pq
    go_enter Tryz.func141,Tryz.ntmps141
    go_wp2_with fail
    go_loopw [1,5,13] (fun qv gv iv wr=>iv=.int .i64 0∧qv=.int .i64 q∧gv=.slice none 0 0∧wr=w) (fun _ _ iv _=>0)
    case atStart=>exact ⟨rfl,rfl,rfl,rfl⟩
    case round=>
      obtain ⟨rfl,rfl,rfl,rfl⟩:=hrel
      go_wp2_with fail
      refine (CA.out _ rfl).mono ?_
      rintro _ w2 ⟨v',rfl,hO2,hg2⟩
      go_wp2
      go_ret
      exact .inl ⟨rfl,v',rfl,hO2,hg2⟩
  . exact xgrow_some w h hd hq pq hn hB
def LsO (B:Nat) (w:World) (v:Value) (s:Ls):Prop:=Out B w v s.n s.d∨(s.n=0∧∃ ad,v=.slice (some ad) 0 0)
def XGr (B:Nat) (w:World) (v:Value) (w':World):Prop:=w.grownBy w' none∨∃ k,v.ownBlock=some k∧B <= k∧w.grownBy w' (some k)
theorem XGr.of_out {B:Nat} {w w':World} {v:Value} {n:Nat} {d:Nat->Int} (h:Out B w v n d) (g:w.grownBy w' v.ownBlock):XGr B w v w':=by
  cases e:v.ownBlock with
  | none=>rw [e] at g; exact .inl g
  | some k=>rw [e] at g; exact .inr ⟨k,e,own_ge h k e,g⟩
theorem XGr.below {B:Nat} {w w':World} {v:Value} (h:XGr B w v w') (hB:B <= w.heap.size):Below B w w':=by
  rcases h with h | ⟨k,_,hk,h⟩
  . exact (Below.refl B w).grown h hB (fun k hk=>by cases hk)
  . exact grown_bel h hk hB
theorem XGr.size {B:Nat} {w w':World} {v:Value} (h:XGr B w v w'):w.heap.size <= w'.heap.size:=by
  rcases h with h | ⟨k,_,_,h⟩ <;> exact h.size
set_option maxRecDepth 100000 in
theorem xadd_E {ad:Addr} {d:Nat->Int} {b:Int} (w:World) (hb:rng b) :
    Calls Tryz.prog 139 #[.slice (some ad) 0 0,.int .i64 b] w fun e w'=>∃ v',e=.returned v'∧LsO w.heap.size w' v' ((⟨0,d⟩:Ls).add b)∧w.grownBy w' none:=by
  have hz:=fun W=>xnought hb W
  by_cases h0:rg b=0
  . have e:(⟨0,d⟩:Ls).add b=⟨0,d⟩:=by unfold Ls.add; rw [if_pos h0]
    rw [decide_eq_true h0] at hz
    rw [e]
    go_enter Tryz.func139,Tryz.ntmps139
    go_wp2_with (go_at_call 137; refine (hz _).mono ?_; rintro _ _ ⟨rfl,rfl⟩)
    go_ret
    exact ⟨_,rfl,.inr ⟨rfl,ad,rfl⟩,World.grownBy.refl _ _⟩
  . have e:(⟨0,d⟩:Ls).add b=⟨1,upd d 0 b⟩:=by unfold Ls.add; rw [if_neg h0]
    rw [decide_eq_false h0] at hz
    rw [e]
    obtain ⟨i0,hi,hz0,hz1,hz2⟩:=info_parts info_int
    have hr:=fun W:World=>row1 W b rfl
    go_enter Tryz.func139,Tryz.ntmps139
    go_wp2_with (first
      | (go_at_call 137; refine (hz _).mono ?_; rintro _ _ ⟨rfl,rfl⟩)
      | (at_builtin; refine wpList_append_grows _ rfl _ _ 30 rfl 3 i0 (.int .i64 0) 1 8 Tryz.underlying30 hi hz0 hz1 hz2 rfl (by decide) (some ad) 0 0 [] rfl (fun q=>by cases q) rfl (fun _ _ j u hu=>by simp at hu) _ 1 1 [.int .i64 b] rfl rfl (by intro j u hu; match j,hu with | 0,hu=>(simp at hu; subst hu; obtain ⟨bb,off,e1,_,hc⟩:=(hr _).spot (by omega); simp only [Option.some.injEq] at e1; have:=hc 0 (by omega); rw [Nat.add_zero] at this; rw [<- e1] at this; rw [add_none]; exact this)) (by simp [Value.oneCell']) (by omega) (by unfold maxLen; omega) (by omega) ?_; intro v' w1 hO1 hg1))
    go_ret
    refine ⟨v',rfl,.inl ?_,grown_past hg1⟩
    have hO2:=hO1
    rw [show ([] ++ [Value.int .i64 b]:List Value)=vals (upd d 0 b) (0 + 1) from (vals_ext rfl fun i hi=>by
      match i,hi with
      | 0,_=>simp [upd_same])] at hO2
    have hO3:Out _ w1 v' (0 + 1) (upd d 0 b):=hO2
    exact hO3.lower (by simp)
set_option maxRecDepth 100000 in
theorem xgrow_E {ad:Addr} {d:Nat->Int} {q:Int} (w:World) (hq:rng q) :
    Calls Tryz.prog 141 #[.slice (some ad) 0 0,.int .i64 q] w fun e w'=>∃ v',e=.returned v'∧LsO w.heap.size w' v' (grw 0 d q)∧w.grownBy w' none:=by
  have CA:Hid (∀ W,W=w->Calls Tryz.prog 139 #[.slice (some ad) 0 0,.int .i64 q] W fun e w'=>∃ v',e=.returned v'∧LsO W.heap.size w' v' (grw 0 d q)∧W.grownBy w' none):=fun W hW=>by
    subst hW
    exact xadd_E W hq
  clear hq
  go_enter Tryz.func141,Tryz.ntmps141
  go_wp2_with fail
  go_loopw [1,5,13] (fun qv gv iv wr=>iv=.int .i64 0∧qv=.int .i64 q∧gv=.slice (some ad) 0 0∧wr=w) (fun _ _ iv _=>0)
  case atStart=>exact ⟨rfl,rfl,rfl,rfl⟩
  case round=>
    obtain ⟨rfl,rfl,rfl,rfl⟩:=hrel
    go_wp2_with fail
    refine (CA.out _ rfl).mono ?_
    rintro _ w2 ⟨v',rfl,hO2,hg2⟩
    go_wp2
    go_ret
    exact ⟨v',rfl,hO2,hg2⟩
theorem LsO.lower {B B':Nat} {w:World} {v:Value} {s:Ls} (h:LsO B w v s) (hB:B' <= B):LsO B' w v s:=by
  rcases h with h | h
  . exact .inl (h.lower hB)
  . exact .inr h
theorem xgrow_L {B:Nat} {v:Value} {s:Ls} {q:Int} (w:World) (h:LsO B w v s) (hd:∀ i,i < s.n->rng (s.d i)∧pok (s.d i)=true) (hq:rng q) (pq:pok q=true) (hn:s.n <= 800000) (hB:B <= w.heap.size) :
    Calls Tryz.prog 141 #[v,.int .i64 q] w fun e w'=>(gx s.d q s.n=true∧∃ v',e=.returned v'∧LsO B w' v' (grw s.n s.d q)∧XGr B w v w')∨(gx s.d q s.n=false∧e=gaveX∧XGr B w v w'):=by
  rcases h with h | ⟨h0,ad,rfl⟩
  . refine (xgrow_any w h hd hq pq hn hB).mono ?_
    rintro e w' (⟨h1,v',h2,h3,h4⟩ | ⟨h1,h2,h3⟩)
    . exact .inl ⟨h1,v',h2,.inl h3,XGr.of_out h h4⟩
    . exact .inr ⟨h1,h2,XGr.of_out h h3⟩
  . obtain ⟨sn,sd⟩:=s
    simp only at h0
    subst h0
    refine (xgrow_E (d:=sd) w hq).mono ?_
    rintro e w' ⟨v',h1,h2,h3⟩
    exact .inl ⟨rfl,v',h1,h2.lower hB,.inl h3⟩
def Ls.fin (s:Ls):Prop:=∀ i,i < s.n->rng (s.d i)∧pok (s.d i)=true
theorem Ls.fin.add {s:Ls} (h:s.fin) {b:Int} (hb:rng b) (pb:pok b=true):(s.add b).fin:=by
  unfold Ls.add
  split
  . exact h
  . intro i hi
    show rng (upd s.d s.n b i)∧pok (upd s.d s.n b i)=true
    by_cases e:i=s.n
    . subst e; rw [upd_same]; exact ⟨hb,pb⟩
    . rw [upd_other _ _ e]
      exact h i (by have:i < s.n + 1:=hi; omega)
theorem gs_fin {d:Nat->Int} {q:Int} {n:Nat} (hd:∀ i,i < n->rng (d i)∧pok (d i)=true) (hq:rng q) (pq:pok q=true):∀ k,k <= n->gx d q k=true->(gs d q k).fin
  | 0,_,_=>fun i hi=>absurd hi (Nat.not_lt_zero _)
  | k + 1,hk,hx=>by
    have hx':(gx d q k && pok (gl d q k))=true:=hx
    rw [Bool.and_eq_true] at hx'
    obtain ⟨r1,r2⟩:=gq_fin hd hq pq k (by omega) hx'.1
    exact (gs_fin hd hq pq k (by omega) hx'.1).add (sL_rng r1 (hd k (by omega)).1) hx'.2
theorem grw_fin {s:Ls} {q:Int} (hs:s.fin) (hq:rng q) (pq:pok q=true) (hx:gx s.d q s.n=true):(grw s.n s.d q).fin:=by
  obtain ⟨r1,r2⟩:=gq_fin hs hq pq s.n (Nat.le_refl _) hx
  exact (gs_fin hs hq pq s.n (Nat.le_refl _) hx).add r1 r2
theorem grw_le (n:Nat) (d:Nat->Int) (q:Int):(grw n d q).n <= n + 1:=by
  have h1:=gs_le d q n
  have h2:=((gs d q n).add_le (gq d q n)).2
  show ((gs d q n).add _).n <= n + 1
  omega
def gaS (s:Ls) (f:Nat->Int):Nat->Ls
  | 0=>s
  | k + 1=>grw (gaS s f k).n (gaS s f k).d (f k)
def gaX (s:Ls) (f:Nat->Int):Nat->Bool
  | 0=>true
  | k + 1=>gaX s f k && gx (gaS s f k).d (f k) (gaS s f k).n
theorem gaS_le (s:Ls) (f:Nat->Int):∀ k,(gaS s f k).n <= s.n + k
  | 0=>Nat.le_refl _
  | k + 1=>by
    have h1:=gaS_le s f k
    have h2:=grw_le (gaS s f k).n (gaS s f k).d (f k)
    show (grw _ _ _).n <= s.n + (k + 1)
    omega
theorem gaX_mono {s:Ls} {f:Nat->Int}:∀ {k j},j <= k->gaX s f k=true->gaX s f j=true
  | 0,j,h,hx=>by
    obtain rfl:j=0:=by omega
    rfl
  | k + 1,j,h,hx=>by
    by_cases e:j=k + 1
    . subst e; exact hx
    . have:(gaX s f k && gx (gaS s f k).d (f k) (gaS s f k).n)=true:=hx
      rw [Bool.and_eq_true] at this
      exact gaX_mono (by omega) this.1
theorem gaS_fin {s:Ls} {f:Nat->Int} {m:Nat} (hs:s.fin) (hf:∀ i,i < m->rng (f i)∧pok (f i)=true):∀ k,k <= m->gaX s f k=true->(gaS s f k).fin
  | 0,_,_=>hs
  | k + 1,hk,hx=>by
    have hx':(gaX s f k && gx (gaS s f k).d (f k) (gaS s f k).n)=true:=hx
    rw [Bool.and_eq_true] at hx'
    obtain ⟨r1,r2⟩:=hf k (by omega)
    exact grw_fin (gaS_fin hs hf k (by omega) hx'.1) r1 r2 hx'.2
set_option maxRecDepth 100000 in
theorem xown_some {ad:Addr} {n cap:Nat} {d:Nat->Int} (w:World) (h:Row w (some ad) n cap d) (h0:0 < n) (hn:n <= 700000) :
    Calls Tryz.prog 112 #[.slice (some ad) n cap] w fun e w'=>∃ v',e=.returned v'∧Out w.heap.size w' v' n d∧w.grownBy w' none:=by
  obtain ⟨i0,hi,hz0,hz1,hz2⟩:=info_parts info_int
  obtain ⟨b,off,e0,hb,hc⟩:=h.spot h0
  have hle:=h.le
  have hmx:=h.max
  simp only [Option.some.injEq] at e0
  subst e0
  go_enter Tryz.func112,Tryz.ntmps112
  go_wp2_with (at_builtin; refine wpList_append_grows _ rfl _ _ 30 rfl 3 i0 (.int .i64 0) 1 8 Tryz.underlying30 hi hz0 hz1 hz2 rfl (by decide) _ 0 0 [] rfl (fun q=>⟨rfl,rfl⟩) rfl (fun _ _ j u hu=>by simp at hu) _ n cap (vals d n) rfl (by rw [vals_length]; omega) (by intro j u hu; have hj:j < n:=(by have:=(List.getElem?_eq_some_iff.1 hu).1; rwa [vals_length] at this); rw [vals_get d hj] at hu; rw [add_none,hc j hj]; exact hu) (vals_one d n) (by omega) (by unfold maxLen; omega) (by omega) ?_; intro v' w1 hO1 hg1)
  go_ret
  refine ⟨v',rfl,?_,hg1⟩
  rw [Nat.zero_add,List.nil_append] at hO1
  exact hO1
theorem run_app00 (ad ad2:Addr) (c:Nat) (ty:TypeId) (w:World):(Builtin.append_ #[30,30] ty #[.slice (some ad) 0 0,.slice (some ad2) 0 c]).run Tryz.prog w=.ok (.slice (some ad) 0 0) w:=by
  obtain ⟨i0,hi,hz0,hz1,hz2⟩:=info_parts info_int
  have hf:=run_firstCells_some (P:=Tryz.prog) w i0.size 0 ad2 0 c [] (by simp) (by intro j u hu; simp at hu)
  simp [Builtin.append_,run_underlying Tryz.underlying30,sizeOf,typeInfo,hi,Builtin.lenOf,hf,storeCells]
set_option maxRecDepth 100000 in
theorem xown_nil (w:World):Calls Tryz.prog 112 #[.slice none 0 0] w fun e w'=>e=.returned (.slice none 0 0)∧w'=w:=by
  obtain ⟨i0,hi,hz0,hz1,hz2⟩:=info_parts info_int
  go_enter Tryz.func112,Tryz.ntmps112
  go_wp2_with (at_builtin; refine wpList_append_own_none rfl _ _ 30 rfl w.heap.size 3 i0 1 Tryz.underlying30 hi (.slice none 0 0) 0 [] rfl (World.ownsRow_nil _ _ _ _) rfl ?_)
  go_ret
  exact ⟨rfl,rfl⟩
set_option maxRecDepth 100000 in
theorem xown_zero (ad:Addr) (cap:Nat) (hm:cap <= 9223372036854775807) (w:World):Calls Tryz.prog 112 #[.slice (some ad) 0 cap] w fun e w'=>(∃ ad',e=.returned (.slice (some ad') 0 0))∧w'=w:=by
  have h0:=run_app00
  go_enter Tryz.func112,Tryz.ntmps112
  go_wp2
  all_goals go_ret
  all_goals exact ⟨⟨_,rfl⟩,rfl⟩
theorem xown_any {ao:Option Addr} {n cap:Nat} {d:Nat->Int} (w:World) (h:Row w ao n cap d) (hn:n <= 700000) :
    Calls Tryz.prog 112 #[.slice ao n cap] w fun e w'=>∃ v',e=.returned v'∧LsO w.heap.size w' v' ⟨n,d⟩∧w.grownBy w' none:=by
  cases ao with
  | none=>
    have hc:=h.nl rfl
    have hl:=h.le
    subst hc
    obtain rfl:n=0:=by omega
    refine (xown_nil w).mono ?_
    rintro e w' ⟨rfl,rfl⟩
    exact ⟨_,rfl,.inl (Out.nil _ _ _),World.grownBy.refl _ _⟩
  | some ad=>
    by_cases h0:n=0
    . subst h0
      refine (xown_zero ad cap h.max w).mono ?_
      rintro e w' ⟨⟨ad',rfl⟩,rfl⟩
      exact ⟨_,rfl,.inr ⟨rfl,ad',rfl⟩,World.grownBy.refl _ _⟩
    . refine (xown_some w h (by omega) hn).mono ?_
      rintro e w' ⟨v',rfl,h1,h2⟩
      exact ⟨v',rfl,.inl h1,h2⟩
theorem gaS_succ (s:Ls) (f:Nat->Int) (k:Nat):gaS s f (k + 1)=grw (gaS s f k).n (gaS s f k).d (f k):=rfl
theorem gaX_succ (s:Ls) (f:Nat->Int) (k:Nat):gaX s f (k + 1)=(gaX s f k && gx (gaS s f k).d (f k) (gaS s f k).n):=rfl
theorem LsO.shape {B:Nat} {w:World} {v:Value} {s:Ls} (h:LsO B w v s):∃ ao cap,v=.slice ao s.n cap:=by
  rcases h with h | ⟨h0,ad,rfl⟩
  . obtain ⟨ao,cap,e,_⟩:=h.row
    exact ⟨ao,cap,e⟩
  . exact ⟨some ad,0,by rw [h0]⟩
set_option maxRecDepth 100000 in
set_option maxHeartbeats 400000 in
theorem xgather_any {B:Nat} {v:Value} {s:Ls} {fo:Option Addr} {m fc:Nat} {f:Nat->Int} (w:World) (h:LsO B w v s) (hs:s.fin) (hf:∀ W,Below B w W->Row W fo m fc f) (hff:∀ i,i < m->rng (f i)∧pok (f i)=true) (hn:s.n + m <= 700000) (hB:B <= w.heap.size) :
    Calls Tryz.prog 111 #[v,.slice fo m fc] w fun e w'=>(gaX s f m=true∧∃ v',e=.returned v'∧LsO B w' v' (gaS s f m)∧Below B w w')∨(gaX s f m=false∧e=gaveX∧Below B w w'):=by
  have hR:=hf w (Below.refl _ _)
  have hle:=hR.le
  have hmx:=hR.max
  have HF:Hid (∀ W,Below B w W->Row W fo m fc f):=hf
  have HFF:Hid (∀ i,i < m->rng (f i)∧pok (f i)=true):=hff
  have HFI:Hid (∀ k,k <= m->gaX s f k=true->(gaS s f k).fin):=gaS_fin hs hff
  have hL:=gaS_le s f
  obtain ⟨ao0,cap0,rfl⟩:=h.shape
  clear hf hff hR hs
  go_enter Tryz.func111,Tryz.ntmps111
  go_wp2_with fail
  go_loopw [0,9] (fun hv iv wr=>∃ (k:Nat) (v0:Value),k <= m∧iv=.int .i64 k∧hv=v0∧Hid (gaX s f k=true)∧Hid (LsO B wr v0 (gaS s f k))∧Hid (Below B w wr)) (fun _ iv _=>m - (intOf iv).toNat)
  case atStart=>exact ⟨0,_,Nat.zero_le _,rfl,rfl,rfl,h,Below.refl _ _⟩
  case round=>
    obtain ⟨k,hv,hk,rfl,hve,HX,HL,HBW⟩:=hrel
    replace hve:=hve.symm
    subst hve
    clear h
    have hLk:=hL k
    by_cases hlt:k < m
    . obtain ⟨b,off,rfl,hbb,hc⟩:=(HF.out _ HBW.out).spot (by omega)
      have c0:=hc k hlt
      clear hc
      obtain ⟨d1,d2⟩:=HFF.out k hlt
      have hwr:B <= wr.heap.size:=Nat.le_trans hB HBW.out.size
      have CG:Hid (∀ W,W=wr->Calls Tryz.prog 141 #[hv,.int .i64 (f k)] W fun e w'=>(gaX s f (k + 1)=true∧∃ v',e=.returned v'∧LsO B w' v' (gaS s f (k + 1))∧Below B W w')∨(gaX s f m=false∧e=gaveX∧Below B W w')):=fun W hW=>by
        subst hW
        rw [gaS_succ,gaX_succ]
        refine (xgrow_L W HL.out (HFI.out k hk HX.out) d1 d2 (by omega) hwr).mono ?_
        rintro e w' (⟨h1,v',h2,h3,h4⟩ | ⟨h1,h2,h3⟩)
        . exact .inl ⟨by rw [HX.out,h1]; rfl,v',h2,h3,h4.below hwr⟩
        . refine .inr ⟨?_,h2,h3.below hwr⟩
          cases hx:gaX s f m
          . rfl
          . have:=gaX_mono (show k + 1 <= m by omega) hx
            rw [gaX_succ,h1,Bool.and_false] at this
            cases this
      generalize f k=fk at *
      have i0:(0:Int) <= (k:Int):=by omega
      have i1:(k:Int) < (m:Int):=by omega
      go_wp2_with fail
      refine (CG.out _ rfl).mono ?_
      rintro _ w1 (⟨h1,v',rfl,h3,h4⟩ | ⟨h1,rfl,h3⟩)
      . go_wp2
        go_roundw
        case rel=>exact ⟨k + 1,_,by omega,by go_num,rfl,h1,h3,HBW.out.trans h4⟩
        case measure=>simp [intOf]; omega
      . unfold gaveX
        go_wp2
        exact ⟨rfl,.inr ⟨h1,rfl,HBW.out.trans h3⟩⟩
    . obtain rfl:k=m:=by omega
      go_wp2
      go_ret
      exact .inl ⟨HX.out,_,rfl,HL.out,HBW.out⟩
def sq (d:Nat->Int) (b:Int):Nat->Int
  | 0=>fprod (d 0) b
  | k + 1=>fsum (fprod (d (k + 1)) b) (fsum (sq d b k) (prL (d (k + 1)) b))
def ss (s:Ls) (d:Nat->Int) (b:Int):Nat->Ls
  | 0=>s.add (prL (d 0) b)
  | k + 1=>((ss s d b k).add (sL (sq d b k) (prL (d (k + 1)) b))).add (fL (fprod (d (k + 1)) b) (fsum (sq d b k) (prL (d (k + 1)) b)))
def sx (d:Nat->Int) (b:Int):Nat->Bool
  | 0=>pX (d 0) b
  | k + 1=>sx d b k && (pX (d (k + 1)) b && (pok (sL (sq d b k) (prL (d (k + 1)) b)) && fX (fprod (d (k + 1)) b) (fsum (sq d b k) (prL (d (k + 1)) b))))
def scl (s:Ls) (d:Nat->Int) (b:Int) (n:Nat):Ls:=(ss s d b n).add (sq d b n)
theorem ss_le (s:Ls) (d:Nat->Int) (b:Int):∀ k,(ss s d b k).n <= s.n + 2 * k + 1
  | 0=>(s.add_le _).2
  | k + 1=>by
    have h1:=ss_le s d b k
    have h2:=((ss s d b k).add_le (sL (sq d b k) (prL (d (k + 1)) b))).2
    have h3:=(((ss s d b k).add (sL (sq d b k) (prL (d (k + 1)) b))).add_le (fL (fprod (d (k + 1)) b) (fsum (sq d b k) (prL (d (k + 1)) b)))).2
    show (((ss s d b k).add _).add _).n <= _
    omega
theorem sx_succ (d:Nat->Int) (b:Int) (k:Nat):sx d b (k + 1)=(sx d b k && (pX (d (k + 1)) b && (pok (sL (sq d b k) (prL (d (k + 1)) b)) && fX (fprod (d (k + 1)) b) (fsum (sq d b k) (prL (d (k + 1)) b))))):=rfl
theorem sq_succ (d:Nat->Int) (b:Int) (k:Nat):sq d b (k + 1)=fsum (fprod (d (k + 1)) b) (fsum (sq d b k) (prL (d (k + 1)) b)):=rfl
theorem ss_succ (s:Ls) (d:Nat->Int) (b:Int) (k:Nat):ss s d b (k + 1)=((ss s d b k).add (sL (sq d b k) (prL (d (k + 1)) b))).add (fL (fprod (d (k + 1)) b) (fsum (sq d b k) (prL (d (k + 1)) b))):=rfl
theorem sx_mono {d:Nat->Int} {b:Int}:∀ {k j},j <= k->sx d b k=true->sx d b j=true
  | 0,j,h,hx=>by
    obtain rfl:j=0:=by omega
    exact hx
  | k + 1,j,h,hx=>by
    by_cases e:j=k + 1
    . subst e; exact hx
    . rw [sx_succ,Bool.and_eq_true] at hx
      exact sx_mono (by omega) hx.1
theorem pX_fin {p q:Int} (hp:rng p) (hq:rng q) (h:pX p q=true):pok (fprod p q)=true∧pok (prL p q)=true:=by
  unfold pX at h
  rw [Bool.and_eq_true] at h
  exact ⟨(prL_args hp hq h.1).2.1,h.1⟩
theorem fX_fin {p q:Int} (hp:rng p) (hq:rng q) (h:fX p q=true):pok (fsum p q)=true∧pok (fL p q)=true:=by
  unfold fX at h
  rw [Bool.and_eq_true] at h
  exact ⟨(fL_args hp hq h.1).2,h.1⟩
theorem sq_fin {d:Nat->Int} {b:Int} {n:Nat} (hd:∀ i,i <= n->rng (d i)∧pok (d i)=true) (hb:rng b):∀ k,k <= n->sx d b k=true->rng (sq d b k)∧pok (sq d b k)=true
  | 0,_,hx=>⟨fprod_rng (hd 0 (by omega)).1 hb,(pX_fin (hd 0 (by omega)).1 hb hx).1⟩
  | k + 1,hk,hx=>by
    rw [sx_succ,Bool.and_eq_true,Bool.and_eq_true,Bool.and_eq_true] at hx
    obtain ⟨h1,h2,h3,h4⟩:=hx
    obtain ⟨r1,r2⟩:=sq_fin hd hb k (by omega) h1
    obtain ⟨d1,d2⟩:=hd (k + 1) hk
    have rp:=prL_rng d1 hb
    have rt:=fprod_rng d1 hb
    have rs:=fsum_rng r1 rp
    rw [sq_succ]
    exact ⟨fsum_rng rt rs,(fX_fin rt rs h4).1⟩
theorem xtwoProd {p q:Int} (hp:rng p) (hq:rng q) (pp:pok p=true) (pq:pok q=true) (w:World) (H:Hold4 w) :
    Calls Tryz.prog 73 #[.int .i64 p,.int .i64 q] w fun e w'=>e=.returned (.tuple #[.int .i64 (fprod p q),.int .i64 (prL p q),.bool (pX p q)])∧Below w.heap.size w w':=by
  have:=twoProd_any hp hq w H
  rw [told_ok pp hp,told_ok pq hq] at this
  exact this
theorem xfast {p q:Int} (hp:rng p) (hq:rng q) (pp:pok p=true) (pq:pok q=true) (w:World) :
    Calls Tryz.prog 140 #[.int .i64 p,.int .i64 q] w fun e w'=>e=.returned (.tuple #[.int .i64 (fsum p q),.int .i64 (fL p q),.bool (fX p q)])∧Below w.heap.size w w':=by
  have:=fastTwoSum_any hp hq w
  rw [told_ok pp hp,told_ok pq hq] at this
  exact this
set_option maxRecDepth 100000 in
theorem xscale_empty {v:Value} {eo:Option Addr} {ec:Nat} {b:Int} (w:World) :
    Calls Tryz.prog 110 #[v,.slice eo 0 ec,.int .i64 b] w fun e w'=>e=.returned v∧w'=w:=by
  go_enter Tryz.func110,Tryz.ntmps110
  go_wp2
  go_ret
  exact ⟨rfl,rfl⟩
set_option maxRecDepth 100000 in
theorem xscale_nought {v:Value} {eo:Option Addr} {n ec:Nat} {b:Int} (w:World) (hb:rng b) (h0:rg b=0) (hn:n <= 9223372036854775807) :
    Calls Tryz.prog 110 #[v,.slice eo n ec,.int .i64 b] w fun e w'=>e=.returned v∧w'=w:=by
  have hz:=fun W=>xnought hb W
  rw [decide_eq_true h0] at hz
  go_enter Tryz.func110,Tryz.ntmps110
  go_wp2_with (go_at_call 137; refine (hz _).mono ?_; rintro _ _ ⟨rfl,rfl⟩)
  all_goals go_ret
  all_goals exact ⟨rfl,rfl⟩
theorem xif_nil (w:World):(binOp .eql 20 Value.nilIface Value.nilIface).run Tryz.prog w=.ok (.bool true) w:=by kernel_rfl
theorem xif_not (w:World):(binOp .eql 20 (.iface 27 (.int .i64 14)) Value.nilIface).run Tryz.prog w=.ok (.bool false) w:=by kernel_rfl
theorem xif_is (w:World):(binOp .eql 20 (.iface 27 (.int .i64 14)) (.iface 27 (.int .i64 14))).run Tryz.prog w=.ok (.bool true) w:=by kernel_rfl
theorem xcatch_panicking (p:Addr) (x:Value) (older:List PanicEntry) (w:World) (hc:w.cell? p=some x) (hz:w.frozen? p=false) :
    CallsD Tryz.prog 136 #[.pointer (some p)] (.panicking ({ v:=.iface 27 (.int .i64 14),recovered:=false } :: older)) w fun e u' w'=>
      e=.returned (.tuple #[])∧u'=.panicking ({ v:=.iface 27 (.int .i64 14),recovered:=true } :: older)∧w'=w.setCell p (.int .i64 14):=by
  have h1:=xif_not
  have h2:=xif_is
  refine callsD_of_wpS Tryz.func136 rfl fun c₀ cs hu=>?_
  apply wpS_seq
  apply wpS_region
  simp [wpOpsS,go_sem,recoverD,hu,Tryz.ntmps136,Exit.thenS]
  refine wpS_of_wp ?_
  go_wp2
  simp [bodyPostS,results,Tryz.results136]
theorem xcatch_idle (p:Addr) (w:World) :
    CallsD Tryz.prog 136 #[.pointer (some p)] .returning w fun e u' w'=>e=.returned (.tuple #[])∧u'=.returning∧w'=w:=by
  have h1:=xif_nil
  refine callsD_of_wpS Tryz.func136 rfl fun c₀ cs hu=>?_
  apply wpS_seq
  apply wpS_region
  simp [wpOpsS,go_sem,recoverD,hu,Tryz.ntmps136,Exit.thenS]
  refine wpS_of_wp ?_
  go_wp2
  cases c₀
  simp_all [bodyPostS,results,Tryz.results136]
set_option maxRecDepth 100000 in
set_option maxHeartbeats 1000000 in
theorem xtold_no (F:Nat) (cap:Array Value) (w:World) (hE:∀ w,(callFunc F cap).run Tryz.prog w=.ok (.enter F cap) w) (hF:∀ W,Below w.heap.size w W->Calls Tryz.prog F cap W fun r W'=>r=gaveX∧Below W.heap.size W W') :
    Calls Tryz.prog 108 #[.func (.func F) #[] cap] w fun r w'=>r=.returned (.tuple #[.slice none 0 0,.int .i64 14])∧Below w.heap.size w w':=by
  have hmf:∀ (fn:Fn) (first cap:Array Value) (w:World),(Instr.makeFunc fn first cap).run Tryz.prog w=.ok (.func fn first cap) w:=fun _ _ _ _=>rfl
  go_enter_defers Tryz.func108,Tryz.ntmps108
  go_wp2_with fail
  refine (hF _ (bel_alloc _ _)).mono ?_
  rintro r W' ⟨rfl,hb⟩
  unfold gaveX
  have q1:=(hb.block w.heap.size (by rw [size1]; omega)).trans (heap_a1 _ _)
  have f0:=blkF q1 0
  have k0:=blkC q1 0 rfl
  go_wp2_with fail
  refine leaves_cons (f:=136) (args:=#[.pointer (some ⟨w.heap.size,0,none⟩)]) (by simp) (by simp [go_sem]) ?_
  refine (xcatch_panicking ⟨w.heap.size,0,none⟩ _ [] _ k0 f0).mono ?_
  rintro e u' w'' ⟨rfl,rfl,rfl⟩
  simp [Leaves,settle,results,Tryz.results108,go_sem,k0]
  exact (bel_trans (bel_alloc _ _) hb).setCell (Nat.le_refl _) _
set_option maxRecDepth 100000 in
set_option maxHeartbeats 1000000 in
theorem xtold_yes (F:Nat) (cap:Array Value) (w:World) (s:Ls) (hE:∀ w,(callFunc F cap).run Tryz.prog w=.ok (.enter F cap) w) (hF:∀ W,Below w.heap.size w W->Calls Tryz.prog F cap W fun r W'=>∃ v,r=.returned v∧LsO W.heap.size W' v s∧Below W.heap.size W W') :
    Calls Tryz.prog 108 #[.func (.func F) #[] cap] w fun r w'=>∃ v,r=.returned (.tuple #[v,.int .i64 0])∧LsO w.heap.size w' v s∧Below w.heap.size w w':=by
  have hmf:∀ (fn:Fn) (first cap:Array Value) (w:World),(Instr.makeFunc fn first cap).run Tryz.prog w=.ok (.func fn first cap) w:=fun _ _ _ _=>rfl
  go_enter_defers Tryz.func108,Tryz.ntmps108
  go_wp2_with fail
  refine (hF _ (bel_alloc _ _)).mono ?_
  rintro r W' ⟨v,rfl,hL,hb⟩
  have q1:=(hb.block w.heap.size (by rw [size1]; omega)).trans (heap_a1 _ _)
  have f0:=blkF q1 0
  have k0:=blkC q1 0 rfl
  have hL2:LsO w.heap.size (W'.setCell ⟨w.heap.size,0,none⟩ (.int .i64 0)) v s:=by
    rcases hL with h | h
    . exact .inl ((h.set_below (a:=⟨w.heap.size,0,none⟩) (by rw [size1]; exact Nat.lt_succ_self _) _).lower (by rw [size1]; omega))
    . exact .inr h
  have hb2:Below w.heap.size w (W'.setCell ⟨w.heap.size,0,none⟩ (.int .i64 0)):=(bel_trans (bel_alloc _ _) hb).setCell (p:=⟨w.heap.size,0,none⟩) (Nat.le_refl _) _
  obtain ⟨ao,cc,rfl⟩:=hL.shape
  go_wp2_with fail
  refine leaves_cons (f:=136) (args:=#[.pointer (some ⟨w.heap.size,0,none⟩)]) (by simp) (by simp [go_sem]) ?_
  refine (xcatch_idle ⟨w.heap.size,0,none⟩ _).mono ?_
  rintro e u' w'' ⟨rfl,rfl,rfl⟩
  simp [Leaves,settle,results,Tryz.results108,go_sem,k0]
  first | exact hb2 | exact ⟨hL2,hb2⟩ | exact ⟨_,rfl,hL2,hb2⟩
end Go.Proofs.YtafnigjehkpggaaGreatDoor
