/- Parts of the proof. -/
import Derived.Test.YtkkpppgfoilgmaaGreatDoorPart31
import Derived.Deep.RegionHeld3
import Derived.Maps.AppendAt
set_option maxRecDepth 100000
set_option maxHeartbeats 8000000
set_option linter.unusedVariables false
set_option linter.unusedSimpArgs false
namespace Go.Proofs.YtkkpppgfoilgmaaGreatDoor
open Go Go.Proofs.Tryz Go.RowKit Go.Proofs.YtkkpppgfoilgmaaGreatDoor.M
theorem Cz {a b:Int} (na:nn a) (nb:nn b) {x_g:Bool} {x_o:Option Addr} {x_n x_c:Nat} {x_e V:Int} {w:World} (hx:aX w (.agg #[.bool x_g,.slice x_o x_n x_c,.int .i64 x_e]) V) (ok:b7 V) :
    Calls prog 25 #[.agg #[.int .i64 a,.int .i64 b],.agg #[.bool x_g,.slice x_o x_n x_c,.int .i64 x_e]] w fun e w'=>e=.returned (.bool (decide (ck (ah a) ⟨0,V⟩ <= 0)&&decide (ck ⟨0,V⟩ (ah b)<=0)))∧Below w.heap.size w w':=by
  have T1:Hid (∀ (u:Value) W,Below w.heap.size w W->EA W u (ah a)->Calls prog 41 #[u,.agg #[.int .i64 0,.bool x_g,.slice x_o x_n x_c,.int .i64 x_e]] W fun r w'=>r=.returned (.int .i64 (ck (ah a) ⟨0,V⟩))∧Below W.heap.size W w'):=fun u W hb hu=>lv (b:=⟨0,V⟩) hu.ev ⟨_,_,_,_,_,rfl,hx.keeps hb⟩ (fun _ _ x y W' h1 h2=>zJ h1 h2 ((cu a).ok (by omega)) ok (cu a))
  have T2:Hid (∀ (u:Value) W,Below w.heap.size w W->EA W u (ah b)->Calls prog 41 #[.agg #[.int .i64 0,.bool x_g,.slice x_o x_n x_c,.int .i64 x_e],u] W fun r w'=>r=.returned (.int .i64 (ck ⟨0,V⟩ (ah b)))∧Below W.heap.size W w'):=fun u W hb hu=>lv (a:=⟨0,V⟩) ⟨_,_,_,_,_,rfl,hx.keeps hb⟩ hu.ev (fun _ _ x y W' h1 h2=>zI h1 h2 ok ((cu b).ok (by omega)) (cu b))
  generalize ck (ah a) ⟨0,V⟩=O1 at *
  generalize ck ⟨0,V⟩ (ah b)=O2 at *
  clear hx ok
  by_cases hc:O1<=0
  · have e1:decide (O1<=0)=true:=decide_eq_true hc
    rw[e1,Bool.true_and]
    have hb:=aq w
    go_enter func25,ntmps25
    have s_k:(w.alloc (.cells #[.int .i64 a,.int .i64 b] 23)).heap[w.heap.size]?=some (.cells #[.int .i64 a,.int .i64 b] 23):=av (.cells #[.int .i64 a,.int .i64 b] 23) (by simp only[ar])
    have hb:=aa hb (ae w (.cells #[.int .i64 a,.int .i64 b] 23))
    have s_k:=am (.cells #[.bool x_g,.slice x_o x_n x_c,.int .i64 x_e] 26) s_k
    have x_k:((w.alloc (.cells #[.int .i64 a,.int .i64 b] 23)).alloc (.cells #[.bool x_g,.slice x_o x_n x_c,.int .i64 x_e] 26)).heap[w.heap.size+1]?=some (.cells #[.bool x_g,.slice x_o x_n x_c,.int .i64 x_e] 26):=av (.cells #[.bool x_g,.slice x_o x_n x_c,.int .i64 x_e] 26) (by simp only[ar])
    have hb:=aa hb (ae (w.alloc (.cells #[.int .i64 a,.int .i64 b] 23)) (.cells #[.bool x_g,.slice x_o x_n x_c,.int .i64 x_e] 26))
    go_wp2_with fail
    generalize ((w.alloc (.cells #[.int .i64 a,.int .i64 b] 23)).alloc (.cells #[.bool x_g,.slice x_o x_n x_c,.int .i64 x_e] 26))=x1 at s_k x_k hb ⊢
    have KK:∀ W,Below x1.heap.size x1 W->W.cell? ⟨w.heap.size,0,none⟩=some (.int .i64 a)∧W.cell? ⟨w.heap.size,1,none⟩=some (.int .i64 b)∧W.cell? ⟨w.heap.size+1,0,none⟩=some (.bool x_g)∧W.cell? ⟨w.heap.size+1,1,none⟩=some (.slice x_o x_n x_c)∧W.cell? ⟨w.heap.size+1,2,none⟩=some (.int .i64 x_e):=fun W hW=>⟨af (ab s_k 0 rfl) hW,af (ab s_k 1 rfl) hW,af (ab x_k 0 rfl) hW,af (ab x_k 1 rfl) hW,af (ab x_k 2 rfl) hW⟩
    have B0:Below x1.heap.size x1 x1.drew:=(aq _).drew
    go_region_held3 (fun W=>W.cell? ⟨w.heap.size,0,none⟩=some (.int .i64 a)∧W.cell? ⟨w.heap.size,1,none⟩=some (.int .i64 b)∧W.cell? ⟨w.heap.size+1,0,none⟩=some (.bool x_g)∧W.cell? ⟨w.heap.size+1,1,none⟩=some (.slice x_o x_n x_c)∧W.cell? ⟨w.heap.size+1,2,none⟩=some (.int .i64 x_e))
      (with_reducible first|assumption|exact KK _ B0|exact KK _ B1|exact KK _ B2|exact KK _ B3|exact KK _ B4|fail)
      (first
        | (go_at_call 41;have _t:=hs3;refine(T2.out _ _ (aa hb B3) E3).mono ?_;rintro _ y4 ⟨rfl,hs4⟩;have B4:=aa B3 hs4)
        | (go_at_call 40;have _t:=hs2;refine(ff nb _).mono ?_;rintro _ y3 ⟨z3,rfl,E3,hs3⟩;have B3:=aa B2 hs3)
        | (go_at_call 41;have _t:=hs1;refine(T1.out _ _ (aa hb B1) E1).mono ?_;rintro _ y2 ⟨rfl,hs2⟩;have B2:=aa B1 hs2)
        | (go_at_call 40; refine (ff na _).mono ?_; rintro _ y1 ⟨z1,rfl,E1,hs1⟩; have B1:=aa B0 hs1))
    go_wp2
    all_goals go_ret
    all_goals exact⟨rfl,aa hb B4⟩
  · have e1:decide (O1<=0)=false:=decide_eq_false hc
    rw[e1,Bool.false_and]
    have hb:=aq w
    go_enter func25,ntmps25
    have s_k:(w.alloc (.cells #[.int .i64 a,.int .i64 b] 23)).heap[w.heap.size]?=some (.cells #[.int .i64 a,.int .i64 b] 23):=av (.cells #[.int .i64 a,.int .i64 b] 23) (by simp only[ar])
    have hb:=aa hb (ae w (.cells #[.int .i64 a,.int .i64 b] 23))
    have s_k:=am (.cells #[.bool x_g,.slice x_o x_n x_c,.int .i64 x_e] 26) s_k
    have x_k:((w.alloc (.cells #[.int .i64 a,.int .i64 b] 23)).alloc (.cells #[.bool x_g,.slice x_o x_n x_c,.int .i64 x_e] 26)).heap[w.heap.size+1]?=some (.cells #[.bool x_g,.slice x_o x_n x_c,.int .i64 x_e] 26):=av (.cells #[.bool x_g,.slice x_o x_n x_c,.int .i64 x_e] 26) (by simp only[ar])
    have hb:=aa hb (ae (w.alloc (.cells #[.int .i64 a,.int .i64 b] 23)) (.cells #[.bool x_g,.slice x_o x_n x_c,.int .i64 x_e] 26))
    go_wp2_with fail
    generalize ((w.alloc (.cells #[.int .i64 a,.int .i64 b] 23)).alloc (.cells #[.bool x_g,.slice x_o x_n x_c,.int .i64 x_e] 26))=x1 at s_k x_k hb ⊢
    have KK:∀ W,Below x1.heap.size x1 W->W.cell? ⟨w.heap.size,0,none⟩=some (.int .i64 a)∧W.cell? ⟨w.heap.size,1,none⟩=some (.int .i64 b)∧W.cell? ⟨w.heap.size+1,0,none⟩=some (.bool x_g)∧W.cell? ⟨w.heap.size+1,1,none⟩=some (.slice x_o x_n x_c)∧W.cell? ⟨w.heap.size+1,2,none⟩=some (.int .i64 x_e):=fun W hW=>⟨af (ab s_k 0 rfl) hW,af (ab s_k 1 rfl) hW,af (ab x_k 0 rfl) hW,af (ab x_k 1 rfl) hW,af (ab x_k 2 rfl) hW⟩
    have B0:Below x1.heap.size x1 x1.drew:=(aq _).drew
    have kc0:x1.drew.cell? ⟨w.heap.size,0,none⟩=some (.int .i64 a)∧x1.drew.cell? ⟨w.heap.size,1,none⟩=some (.int .i64 b)∧x1.drew.cell? ⟨w.heap.size+1,0,none⟩=some (.bool x_g)∧x1.drew.cell? ⟨w.heap.size+1,1,none⟩=some (.slice x_o x_n x_c)∧x1.drew.cell? ⟨w.heap.size+1,2,none⟩=some (.int .i64 x_e):=KK _ B0
    refine wp_region_held_drew (S:=fun W=>W.cell? ⟨w.heap.size,0,none⟩=some (.int .i64 a)∧W.cell? ⟨w.heap.size,1,none⟩=some (.int .i64 b)∧W.cell? ⟨w.heap.size+1,0,none⟩=some (.bool x_g)∧W.cell? ⟨w.heap.size+1,1,none⟩=some (.slice x_o x_n x_c)∧W.cell? ⟨w.heap.size+1,2,none⟩=some (.int .i64 x_e)) (by kernel_rfl) kc0 (fun hHeld0=>?_)
    refine wpAnyH_take (i:=0) (v:=?_) rfl (by kernel_rfl) (by kernel_rfl) (by kernel_rfl) (fun _ _ _ h=>h) (Or.inl ⟨by kernel_rfl,?_⟩) (by assumption) ?_
    rotate_left
    · intro w hSw;(try dsimp only at hSw);go_simp;first|done|with_reducible rfl
    simp only[Act.put,List.setIfInBounds_toArray,List.set_cons_zero,List.set_cons_succ,List.getElem_toArray,List.getElem_cons_zero,List.getElem_cons_succ]
    refine wpAnyH_take (i:=1) (v:=?_) rfl (by kernel_rfl) (by kernel_rfl) (by kernel_rfl) (fun _ _ _ h=>h) (Or.inl ⟨by kernel_rfl,?_⟩) (by assumption) ?_
    rotate_left
    · intro w hSw;(try dsimp only at hSw);go_simp;first|done|with_reducible rfl
    simp only[Act.put,List.setIfInBounds_toArray,List.set_cons_zero,List.set_cons_succ,List.getElem_toArray,List.getElem_cons_zero,List.getElem_cons_succ]
    refine wpAnyH_take (i:=3) (v:=?_) rfl (by kernel_rfl) (by kernel_rfl) (by kernel_rfl) (fun _ _ _ h=>h) (Or.inl ⟨by kernel_rfl,?_⟩) (by assumption) ?_
    rotate_left
    · intro w hSw;(try dsimp only at hSw);go_simp;first|done|with_reducible rfl
    simp only[Act.put,List.setIfInBounds_toArray,List.set_cons_zero,List.set_cons_succ,List.getElem_toArray,List.getElem_cons_zero,List.getElem_cons_succ]
    refine wpAnyH_take (i:=4) (v:=?_) rfl (by kernel_rfl) (by kernel_rfl) (by kernel_rfl) (fun _ _ _ h=>h) (Or.inl ⟨by kernel_rfl,?_⟩) (by assumption) ?_
    rotate_left
    · intro w hSw;(try dsimp only at hSw);go_simp;first|done|with_reducible rfl
    simp only[Act.put,List.setIfInBounds_toArray,List.set_cons_zero,List.set_cons_succ,List.getElem_toArray,List.getElem_cons_zero,List.getElem_cons_succ]
    refine wpAnyH_ready (rs:=[2]) (by kernel_rfl) (by simp) ?_
    refine AllReadyH.cons rfl (fun K hK=>?_) AllReadyH.nil
    go_simp
    refine(ff na _).mono ?_
    rintro _ y1 ⟨z1,rfl,E1,hs1⟩
    have B1:=aa B0 hs1
    have kc1:y1.cell? ⟨w.heap.size,0,none⟩=some (.int .i64 a)∧y1.cell? ⟨w.heap.size,1,none⟩=some (.int .i64 b)∧y1.cell? ⟨w.heap.size+1,0,none⟩=some (.bool x_g)∧y1.cell? ⟨w.heap.size+1,1,none⟩=some (.slice x_o x_n x_c)∧y1.cell? ⟨w.heap.size+1,2,none⟩=some (.int .i64 x_e):=KK _ B1
    refine hK.out _ _ kc1 (fun hHeld1=>?_)
    clear hK K hHeld0
    try simp only[Act.put,List.setIfInBounds_toArray,List.set_cons_zero,List.set_cons_succ,List.getElem_toArray,List.getElem_cons_zero,List.getElem_cons_succ]
    refine wpAnyH_ready (rs:=[5]) (by kernel_rfl) (by simp) ?_
    refine AllReadyH.cons rfl (fun K hK=>?_) AllReadyH.nil
    go_simp
    refine(T1.out _ _ (aa hb B1) E1).mono ?_
    rintro _ y2 ⟨rfl,hs2⟩
    have B2:=aa B1 hs2
    have kc2:y2.cell? ⟨w.heap.size,0,none⟩=some (.int .i64 a)∧y2.cell? ⟨w.heap.size,1,none⟩=some (.int .i64 b)∧y2.cell? ⟨w.heap.size+1,0,none⟩=some (.bool x_g)∧y2.cell? ⟨w.heap.size+1,1,none⟩=some (.slice x_o x_n x_c)∧y2.cell? ⟨w.heap.size+1,2,none⟩=some (.int .i64 x_e):=KK _ B2
    refine hK.out _ _ kc2 (fun hHeld2=>?_)
    clear hK K hHeld1
    try simp only[Act.put,List.setIfInBounds_toArray,List.set_cons_zero,List.set_cons_succ,List.getElem_toArray,List.getElem_cons_zero,List.getElem_cons_succ]
    refine wpAnyH_take (i:=6) (v:=.bool false) rfl (by kernel_rfl) (by kernel_rfl) (by kernel_rfl) (fun _ _ _ h=>h) (Or.inl ⟨by kernel_rfl,?_⟩) (by assumption) ?_
    · intro w hSw;(try dsimp only at hSw);go_simp;first|done|simp[hc]
    simp only[Act.put,List.setIfInBounds_toArray,List.set_cons_zero,List.set_cons_succ,List.getElem_toArray,List.getElem_cons_zero,List.getElem_cons_succ]
    refine wpAnyH_take (i:=7) (v:=?_) rfl (by kernel_rfl) (by kernel_rfl) (by kernel_rfl) (fun _ _ _ h=>h) (Or.inl ⟨by kernel_rfl,?_⟩) (by assumption) ?_
    rotate_left
    · intro w hSw;(try dsimp only at hSw);go_simp;first|done|with_reducible rfl
    simp only[Act.put,List.setIfInBounds_toArray,List.set_cons_zero,List.set_cons_succ,List.getElem_toArray,List.getElem_cons_zero,List.getElem_cons_succ]
    refine wpAnyH_take (i:=8) (v:=undef) rfl (by kernel_rfl) (by kernel_rfl) (by kernel_rfl) (fun _ _ _ h=>h) (Or.inr ⟨by kernel_rfl,rfl⟩) (by assumption) ?_
    simp only[Act.put,List.setIfInBounds_toArray,List.set_cons_zero,List.set_cons_succ,List.getElem_toArray,List.getElem_cons_zero,List.getElem_cons_succ]
    refine wpAnyH_take (i:=9) (v:=undef) rfl (by kernel_rfl) (by kernel_rfl) (by kernel_rfl) (fun _ _ _ h=>h) (Or.inr ⟨by kernel_rfl,rfl⟩) (by assumption) ?_
    simp only[Act.put,List.setIfInBounds_toArray,List.set_cons_zero,List.set_cons_succ,List.getElem_toArray,List.getElem_cons_zero,List.getElem_cons_succ]
    refine wpAnyH_take (i:=10) (v:=undef) rfl (by kernel_rfl) (by kernel_rfl) (by kernel_rfl) (fun _ _ _ h=>h) (Or.inr ⟨by kernel_rfl,rfl⟩) (by assumption) ?_
    simp only[Act.put,List.setIfInBounds_toArray,List.set_cons_zero,List.set_cons_succ,List.getElem_toArray,List.getElem_cons_zero,List.getElem_cons_succ]
    refine wpAnyH_take (i:=11) (v:=undef) rfl (by kernel_rfl) (by kernel_rfl) (by kernel_rfl) (fun _ _ _ h=>h) (Or.inr ⟨by kernel_rfl,rfl⟩) (by assumption) ?_
    simp only[Act.put,List.setIfInBounds_toArray,List.set_cons_zero,List.set_cons_succ,List.getElem_toArray,List.getElem_cons_zero,List.getElem_cons_succ]
    refine wpAnyH_take (i:=12) (v:=undef) rfl (by kernel_rfl) (by kernel_rfl) (by kernel_rfl) (fun _ _ _ h=>h) (Or.inr ⟨by kernel_rfl,rfl⟩) (by assumption) ?_
    simp only[Act.put,List.setIfInBounds_toArray,List.set_cons_zero,List.set_cons_succ,List.getElem_toArray,List.getElem_cons_zero,List.getElem_cons_succ]
    refine wpAnyH_take (i:=13) (v:=undef) rfl (by kernel_rfl) (by kernel_rfl) (by kernel_rfl) (fun _ _ _ h=>h) (Or.inr ⟨by kernel_rfl,rfl⟩) (by assumption) ?_
    simp only[Act.put,List.setIfInBounds_toArray,List.set_cons_zero,List.set_cons_succ,List.getElem_toArray,List.getElem_cons_zero,List.getElem_cons_succ]
    refine wpAnyH_take (i:=14) (v:=undef) rfl (by kernel_rfl) (by kernel_rfl) (by kernel_rfl) (fun _ _ _ h=>h) (Or.inr ⟨by kernel_rfl,rfl⟩) (by assumption) ?_
    simp only[Act.put,List.setIfInBounds_toArray,List.set_cons_zero,List.set_cons_succ,List.getElem_toArray,List.getElem_cons_zero,List.getElem_cons_succ]
    refine wpAnyH_take (i:=15) (v:=?_) rfl (by kernel_rfl) (by kernel_rfl) (by kernel_rfl) (fun _ _ _ h=>h) (Or.inl ⟨by kernel_rfl,?_⟩) (by assumption) ?_
    rotate_left
    · intro w hSw;(try dsimp only at hSw);go_simp;first|done|with_reducible rfl
    simp only[Act.put,List.setIfInBounds_toArray,List.set_cons_zero,List.set_cons_succ,List.getElem_toArray,List.getElem_cons_zero,List.getElem_cons_succ]
    refine wpAnyH_take (i:=16) (v:=?_) rfl (by kernel_rfl) (by kernel_rfl) (by kernel_rfl) (fun _ _ _ h=>h) (Or.inl ⟨by kernel_rfl,?_⟩) (by assumption) ?_
    rotate_left
    · intro w hSw;(try dsimp only at hSw);go_simp;first|done|with_reducible rfl
    simp only[Act.put,List.setIfInBounds_toArray,List.set_cons_zero,List.set_cons_succ,List.getElem_toArray,List.getElem_cons_zero,List.getElem_cons_succ]
    refine wpAnyH_done (by kernel_rfl) ?_ _
    go_wp2
    all_goals go_ret
    all_goals exact⟨rfl,aa hb B2⟩
theorem zK:(prog.info? 68).map (fun i=>(i.zero,i.size,i.bytes))=some (some (.agg #[.int .i64 0,.bool false,.slice none 0 0,.int .i64 0]),4,48):=by kernel_rfl
theorem vE {B:Nat} {w:World} {v:Value} {n:Nat} {xs:List Value} (h:w.ownsRow B 68 4 v (n+1) xs):∃ g cap,v=.slice (some ⟨g,0,none⟩) (n+1) cap∧B<=g∧g<w.heap.size∧(n+1<=cap∧cap<=9223372036854775807)∧∀ j x,j<(n+1)*4->xs[j]?=some x->w.cell? ⟨g,j,none⟩=some x:=by
 rcases h.2 with⟨rfl,e⟩|⟨g,cap,cur,rfl,hb,hg,hn,hm,hs,ht⟩
 ·simp at e
 ·refine⟨g,cap,rfl,hb,(aGe hg).1,⟨hn,by unfold maxLen at hm;omega⟩,fun j x hj hx=>?_⟩
  rw[cell_of_row w g j cur _ _ hg]
  rw[<- ht,List.getElem?_take_of_lt (by omega)] at hx
  simpa using hx
end Go.Proofs.YtkkpppgfoilgmaaGreatDoor
