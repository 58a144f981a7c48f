/-
  plumblaw8.ones, by what the calls answer (tools/p8u.py)
-/
import Derived.Test.YtkkpppgfoilgmaaGreatDoorPart28
import Derived.Deep.RegionHeld3
set_option maxRecDepth 100000
set_option maxHeartbeats 8000000
set_option linter.unusedVariables false
set_option linter.unusedSimpArgs false
namespace Go.Proofs.YtkkpppgfoilgmaaGreatDoor
open Go Go.Proofs.Tryz Go.RowKit Go.Proofs.YtkkpppgfoilgmaaGreatDoor.M
theorem zE {a b bb n0 n1 en q0 q1 eq sg0 eh o0 o1 eo a0 a1 ea ek x_e:Int} {x_g:Bool} {x_o:Option Addr} {x_n x_c:Nat} {v kn inn ok:Bool} (w:World) (H:aA w) (VR:Hid (∀ W,Below w.heap.size w W->aA W->Calls prog 10 #[.agg #[.int .i64 a,.int .i64 b]] W fun e w'=>e=.returned (.bool v)∧Below W.heap.size W w')) (VC:Hid (∀ W,Below w.heap.size w W->aA W->Calls prog 16 #[.agg #[.int .i64 a,.int .i64 b]] W fun e w'=>e=.returned (.bool v)∧Below W.heap.size W w')) (PN:Hid (∀ W,Below w.heap.size w W->aA W->Calls prog 11 #[.agg #[.int .i64 a,.int .i64 b]] W fun e w'=>e=.returned (.tuple #[.agg #[.int .i64 n0,.int .i64 n1],.int .i64 en])∧Below W.heap.size W w')) (PQ:Hid (∀ W,Below w.heap.size w W->aA W->Calls prog 12 #[.agg #[.int .i64 a,.int .i64 b]] W fun e w'=>e=.returned (.tuple #[.agg #[.int .i64 q0,.int .i64 q1],.int .i64 eq])∧Below W.heap.size W w')) (PS:Hid (∀ W,Below w.heap.size w W->aA W->Calls prog 9 #[.agg #[.int .i64 a,.int .i64 b]] W fun e w'=>e=.returned (.tuple #[.int .i64 sg0,.bool kn,.int .i64 eh])∧Below W.heap.size W w')) (PO:Hid (∀ W,Below w.heap.size w W->aA W->Calls prog 13 #[.int .i64 bb] W fun e w'=>e=.returned (.tuple #[.agg #[.int .i64 o0,.int .i64 o1],.int .i64 eo])∧Below W.heap.size W w')) (PA:Hid (∀ W,Below w.heap.size w W->aA W->Calls prog 14 #[.agg #[.bool x_g,.slice x_o x_n x_c,.int .i64 x_e]] W fun e w'=>e=.returned (.tuple #[.agg #[.int .i64 a0,.int .i64 a1],.int .i64 ea])∧Below W.heap.size W w')) (PH:Hid (∀ W,Below w.heap.size w W->aA W->Calls prog 15 #[.agg #[.int .i64 a,.int .i64 b],.agg #[.bool x_g,.slice x_o x_n x_c,.int .i64 x_e]] W fun e w'=>e=.returned (.tuple #[.bool inn,.int .i64 ek])∧Below W.heap.size W w')) (RF:Hid (∀ W,Below w.heap.size w W->aA W->Calls prog 17 #[.int .i64 bb] W fun e w'=>e=.returned (.bool false)∧Below W.heap.size W w')) (RP:Hid (false=true->∀ W,Below w.heap.size w W->aA W->Calls prog 19 #[.int .i64 bb] W fun e w'=>e=.returned (.agg #[.int .i64 o0,.int .i64 o1])∧Below W.heap.size W w')) (RV:Hid (∀ W,Below w.heap.size w W->aA W->Calls prog 20 #[.agg #[.bool x_g,.slice x_o x_n x_c,.int .i64 x_e]] W fun e w'=>e=.returned (.bool ok)∧Below W.heap.size W w')) (RA:Hid (ok=true->∀ W,Below w.heap.size w W->aA W->Calls prog 21 #[.agg #[.bool x_g,.slice x_o x_n x_c,.int .i64 x_e]] W fun e w'=>e=.returned (.agg #[.int .i64 a0,.int .i64 a1])∧Below W.heap.size W w')) (RN:Hid (v=true->∀ W,Below w.heap.size w W->aA W->Calls prog 23 #[.agg #[.int .i64 a,.int .i64 b]] W fun e w'=>e=.returned (.agg #[.int .i64 n0,.int .i64 n1])∧Below W.heap.size W w')) (RQ:Hid (v=true->∀ W,Below w.heap.size w W->aA W->Calls prog 24 #[.agg #[.int .i64 a,.int .i64 b]] W fun e w'=>e=.returned (.agg #[.int .i64 q0,.int .i64 q1])∧Below W.heap.size W w')) (RS:Hid (v=true->∀ W,Below w.heap.size w W->aA W->Calls prog 22 #[.agg #[.int .i64 a,.int .i64 b]] W fun e w'=>e=.returned (.tuple #[.int .i64 sg0,.bool kn])∧Below W.heap.size W w')) (RH:Hid (v=true->ok=true->∀ W,Below w.heap.size w W->aA W->Calls prog 25 #[.agg #[.int .i64 a,.int .i64 b],.agg #[.bool x_g,.slice x_o x_n x_c,.int .i64 x_e]] W fun e w'=>e=.returned (.bool inn)∧Below W.heap.size W w')) (hO0:Hid (false=false->eo=10∧o0=0∧o1=0)) (hO1:Hid (false=true->eo=0)) (hX0:Hid (ok=false->ea=11∧a0=0∧a1=0∧inn=false∧(v=true->ek=11))) (hX1:Hid (ok=true->ea=0)) (hV0:Hid (v=false->n0=0∧n1=0∧en=1∧q0=0∧q1=0∧eq=1∧eh=1∧sg0=0∧kn=false∧ek=1∧inn=false)) (hV1:Hid (v=true->en=0∧eq=0∧eh=0)) (hE:Hid (v=true->ok=true->ek=0)) :
    Calls prog 6 #[.agg #[.int .i64 a,.int .i64 b],.int .i64 bb,.agg #[.bool x_g,.slice x_o x_n x_c,.int .i64 x_e]] w fun e w'=>e=.returned (.bool true)∧Below w.heap.size w w':=by
  obtain⟨rfl,rfl,rfl⟩:=hO0.out rfl
  clear RP
  cases v
  all_goals
    have hb:=aq w
    go_enter func6,ntmps6
    have s_k:(w.alloc (.cells #[.int .i64 a,.int .i64 b] 23)).heap[w.heap.size]?=some (.cells #[.int .i64 a,.int .i64 b] 23):=av (.cells #[.int .i64 a,.int .i64 b] 23) (by simp only[ar])
    have H:=H.keeps (ae w (.cells #[.int .i64 a,.int .i64 b] 23))
    have hb:=aa hb (ae w (.cells #[.int .i64 a,.int .i64 b] 23))
    have s_k:=am (.cells #[.bool x_g,.slice x_o x_n x_c,.int .i64 x_e] 26) s_k
    have x_k:((w.alloc (.cells #[.int .i64 a,.int .i64 b] 23)).alloc (.cells #[.bool x_g,.slice x_o x_n x_c,.int .i64 x_e] 26)).heap[w.heap.size+1]?=some (.cells #[.bool x_g,.slice x_o x_n x_c,.int .i64 x_e] 26):=av (.cells #[.bool x_g,.slice x_o x_n x_c,.int .i64 x_e] 26) (by simp only[ar])
    have H:=H.keeps (ae (w.alloc (.cells #[.int .i64 a,.int .i64 b] 23)) (.cells #[.bool x_g,.slice x_o x_n x_c,.int .i64 x_e] 26))
    have hb:=aa hb (ae (w.alloc (.cells #[.int .i64 a,.int .i64 b] 23)) (.cells #[.bool x_g,.slice x_o x_n x_c,.int .i64 x_e] 26))
    have f_s0:=ab s_k 0 rfl
    have f_s1:=ab s_k 1 rfl
    go_wp2_with fail
    clear f_s0 f_s1
    generalize ((w.alloc (.cells #[.int .i64 a,.int .i64 b] 23)).alloc (.cells #[.bool x_g,.slice x_o x_n x_c,.int .i64 x_e] 26))=x1 at s_k x_k H hb ⊢
    refine(VR.out _ hb H).mono ?_
    rintro _ y2 ⟨rfl,hw⟩
    have s_k:=ac hw s_k
    have x_k:=ac hw x_k
    have H:=H.keeps hw
    have hb:=aa hb hw
    have f_s0:=ab s_k 0 rfl
    have f_s1:=ab s_k 1 rfl
    go_wp2_with fail
    clear f_s0 f_s1
    refine(PN.out _ hb H).mono ?_
    rintro _ y3 ⟨rfl,hw⟩
    have s_k:=ac hw s_k
    have x_k:=ac hw x_k
    have H:=H.keeps hw
    have hb:=aa hb hw
    have s_k:=am (.cells #[.int .i64 n0,.int .i64 n1] 23) s_k
    have x_k:=am (.cells #[.int .i64 n0,.int .i64 n1] 23) x_k
    have n_k:(y3.alloc (.cells #[.int .i64 n0,.int .i64 n1] 23)).heap[y3.heap.size]?=some (.cells #[.int .i64 n0,.int .i64 n1] 23):=av (.cells #[.int .i64 n0,.int .i64 n1] 23) (by simp only[ar])
    have H:=H.keeps (ae y3 (.cells #[.int .i64 n0,.int .i64 n1] 23))
    have hb:=aa hb (ae y3 (.cells #[.int .i64 n0,.int .i64 n1] 23))
    have f_s0:=ab s_k 0 rfl
    have f_s1:=ab s_k 1 rfl
    go_wp2_with fail
    clear f_s0 f_s1
    generalize (y3.alloc (.cells #[.int .i64 n0,.int .i64 n1] 23))=x4 at s_k x_k n_k H hb ⊢
    refine(PQ.out _ hb H).mono ?_
    rintro _ y5 ⟨rfl,hw⟩
    have s_k:=ac hw s_k
    have x_k:=ac hw x_k
    have n_k:=ac hw n_k
    have H:=H.keeps hw
    have hb:=aa hb hw
    have s_k:=am (.cells #[.int .i64 q0,.int .i64 q1] 23) s_k
    have x_k:=am (.cells #[.int .i64 q0,.int .i64 q1] 23) x_k
    have n_k:=am (.cells #[.int .i64 q0,.int .i64 q1] 23) n_k
    have q_k:(y5.alloc (.cells #[.int .i64 q0,.int .i64 q1] 23)).heap[y5.heap.size]?=some (.cells #[.int .i64 q0,.int .i64 q1] 23):=av (.cells #[.int .i64 q0,.int .i64 q1] 23) (by simp only[ar])
    have H:=H.keeps (ae y5 (.cells #[.int .i64 q0,.int .i64 q1] 23))
    have hb:=aa hb (ae y5 (.cells #[.int .i64 q0,.int .i64 q1] 23))
    have f_s0:=ab s_k 0 rfl
    have f_s1:=ab s_k 1 rfl
    go_wp2_with fail
    clear f_s0 f_s1
    generalize (y5.alloc (.cells #[.int .i64 q0,.int .i64 q1] 23))=x6 at s_k x_k n_k q_k H hb ⊢
    refine(PS.out _ hb H).mono ?_
    rintro _ y7 ⟨rfl,hw⟩
    have s_k:=ac hw s_k
    have x_k:=ac hw x_k
    have n_k:=ac hw n_k
    have q_k:=ac hw q_k
    have H:=H.keeps hw
    have hb:=aa hb hw
    go_wp2_with fail
    refine(PO.out _ hb H).mono ?_
    rintro _ y8 ⟨rfl,hw⟩
    have s_k:=ac hw s_k
    have x_k:=ac hw x_k
    have n_k:=ac hw n_k
    have q_k:=ac hw q_k
    have H:=H.keeps hw
    have hb:=aa hb hw
    have s_k:=am (.cells #[.int .i64 0,.int .i64 0] 23) s_k
    have x_k:=am (.cells #[.int .i64 0,.int .i64 0] 23) x_k
    have n_k:=am (.cells #[.int .i64 0,.int .i64 0] 23) n_k
    have q_k:=am (.cells #[.int .i64 0,.int .i64 0] 23) q_k
    have o_k:(y8.alloc (.cells #[.int .i64 0,.int .i64 0] 23)).heap[y8.heap.size]?=some (.cells #[.int .i64 0,.int .i64 0] 23):=av (.cells #[.int .i64 0,.int .i64 0] 23) (by simp only[ar])
    have H:=H.keeps (ae y8 (.cells #[.int .i64 0,.int .i64 0] 23))
    have hb:=aa hb (ae y8 (.cells #[.int .i64 0,.int .i64 0] 23))
    have f_x0:=ab x_k 0 rfl
    have f_x1:=ab x_k 1 rfl
    have f_x2:=ab x_k 2 rfl
    go_wp2_with fail
    clear f_x0 f_x1 f_x2
    generalize (y8.alloc (.cells #[.int .i64 0,.int .i64 0] 23))=x9 at s_k x_k n_k q_k o_k H hb ⊢
    refine(PA.out _ hb H).mono ?_
    rintro _ y10 ⟨rfl,hw⟩
    have s_k:=ac hw s_k
    have x_k:=ac hw x_k
    have n_k:=ac hw n_k
    have q_k:=ac hw q_k
    have o_k:=ac hw o_k
    have H:=H.keeps hw
    have hb:=aa hb hw
    have s_k:=am (.cells #[.int .i64 a0,.int .i64 a1] 23) s_k
    have x_k:=am (.cells #[.int .i64 a0,.int .i64 a1] 23) x_k
    have n_k:=am (.cells #[.int .i64 a0,.int .i64 a1] 23) n_k
    have q_k:=am (.cells #[.int .i64 a0,.int .i64 a1] 23) q_k
    have o_k:=am (.cells #[.int .i64 a0,.int .i64 a1] 23) o_k
    have r_k:(y10.alloc (.cells #[.int .i64 a0,.int .i64 a1] 23)).heap[y10.heap.size]?=some (.cells #[.int .i64 a0,.int .i64 a1] 23):=av (.cells #[.int .i64 a0,.int .i64 a1] 23) (by simp only[ar])
    have H:=H.keeps (ae y10 (.cells #[.int .i64 a0,.int .i64 a1] 23))
    have hb:=aa hb (ae y10 (.cells #[.int .i64 a0,.int .i64 a1] 23))
    have f_s0:=ab s_k 0 rfl
    have f_s1:=ab s_k 1 rfl
    have f_x0:=ab x_k 0 rfl
    have f_x1:=ab x_k 1 rfl
    have f_x2:=ab x_k 2 rfl
    go_wp2_with fail
    clear f_s0 f_s1 f_x0 f_x1 f_x2
    generalize (y10.alloc (.cells #[.int .i64 a0,.int .i64 a1] 23))=x11 at s_k x_k n_k q_k o_k r_k H hb ⊢
    refine(PH.out _ hb H).mono ?_
    rintro _ y12 ⟨rfl,hw⟩
    have s_k:=ac hw s_k
    have x_k:=ac hw x_k
    have n_k:=ac hw n_k
    have q_k:=ac hw q_k
    have o_k:=ac hw o_k
    have r_k:=ac hw r_k
    have H:=H.keeps hw
    have hb:=aa hb hw
    have f_s0:=ab s_k 0 rfl
    have f_s1:=ab s_k 1 rfl
    go_wp2_with fail
    clear f_s0 f_s1
    refine(VC.out _ hb H).mono ?_
    rintro _ y13 ⟨rfl,hw⟩
    have s_k:=ac hw s_k
    have x_k:=ac hw x_k
    have n_k:=ac hw n_k
    have q_k:=ac hw q_k
    have o_k:=ac hw o_k
    have r_k:=ac hw r_k
    have H:=H.keeps hw
    have hb:=aa hb hw
    go_wp2_with fail
    have KKb:∀ W,Below y13.heap.size y13 W->W.cell? ⟨w.heap.size,0,none⟩=some (.int .i64 a)∧W.cell? ⟨w.heap.size,1,none⟩=some (.int .i64 b)∧W.cell? ⟨w.heap.size+1,0,none⟩=some (.bool x_g)∧W.cell? ⟨w.heap.size+1,1,none⟩=some (.slice x_o x_n x_c)∧W.cell? ⟨w.heap.size+1,2,none⟩=some (.int .i64 x_e)∧W.cell? ⟨y3.heap.size,0,none⟩=some (.int .i64 n0)∧W.cell? ⟨y3.heap.size,1,none⟩=some (.int .i64 n1)∧W.cell? ⟨y5.heap.size,0,none⟩=some (.int .i64 q0)∧W.cell? ⟨y5.heap.size,1,none⟩=some (.int .i64 q1)∧W.cell? ⟨y8.heap.size,0,none⟩=some (.int .i64 0)∧W.cell? ⟨y8.heap.size,1,none⟩=some (.int .i64 0)∧W.cell? ⟨y10.heap.size,0,none⟩=some (.int .i64 a0)∧W.cell? ⟨y10.heap.size,1,none⟩=some (.int .i64 a1):=fun W hW=>⟨af (ab s_k 0 rfl) hW,af (ab s_k 1 rfl) hW,af (ab x_k 0 rfl) hW,af (ab x_k 1 rfl) hW,af (ab x_k 2 rfl) hW,af (ab n_k 0 rfl) hW,af (ab n_k 1 rfl) hW,af (ab q_k 0 rfl) hW,af (ab q_k 1 rfl) hW,af (ab o_k 0 rfl) hW,af (ab o_k 1 rfl) hW,af (ab r_k 0 rfl) hW,af (ab r_k 1 rfl) hW⟩
    have Bb0:Below y13.heap.size y13 y13.drew:=(aq _).drew
    have kc0:=KKb _ Bb0
    refine wp_region_held_drew (S:=fun W=>W.cell? ⟨w.heap.size,0,none⟩=some (.int .i64 a)∧W.cell? ⟨w.heap.size,1,none⟩=some (.int .i64 b)∧W.cell? ⟨w.heap.size+1,0,none⟩=some (.bool x_g)∧W.cell? ⟨w.heap.size+1,1,none⟩=some (.slice x_o x_n x_c)∧W.cell? ⟨w.heap.size+1,2,none⟩=some (.int .i64 x_e)∧W.cell? ⟨y3.heap.size,0,none⟩=some (.int .i64 n0)∧W.cell? ⟨y3.heap.size,1,none⟩=some (.int .i64 n1)∧W.cell? ⟨y5.heap.size,0,none⟩=some (.int .i64 q0)∧W.cell? ⟨y5.heap.size,1,none⟩=some (.int .i64 q1)∧W.cell? ⟨y8.heap.size,0,none⟩=some (.int .i64 0)∧W.cell? ⟨y8.heap.size,1,none⟩=some (.int .i64 0)∧W.cell? ⟨y10.heap.size,0,none⟩=some (.int .i64 a0)∧W.cell? ⟨y10.heap.size,1,none⟩=some (.int .i64 a1)) (by kernel_rfl) kc0 (fun hHeld0=>?_)
    refine wpAnyH_take (i:=0) (v:=?_) rfl (by kernel_rfl) (by kernel_rfl) (by kernel_rfl) (fun _ _ _ h=>h) (Or.inl ⟨by kernel_rfl,?_⟩) (by assumption) ?_
    rotate_left
    · intro w hSw;(try dsimp only at hSw);go_simp;first|done|with_reducible rfl
    simp only[Act.put,List.setIfInBounds_toArray,List.set_cons_zero,List.set_cons_succ,List.getElem_toArray,List.getElem_cons_zero,List.getElem_cons_succ]
    refine wpAnyH_ready (rs:=[1]) (by kernel_rfl) (by simp) ?_
    refine AllReadyH.cons rfl (fun K hK=>?_) AllReadyH.nil
    go_simp
    refine(RF.out _ (aa hb Bb0) (H.keeps Bb0)).mono ?_
    rintro _ yb_1 ⟨rfl,hsb1⟩
    have Bb1:=aa Bb0 hsb1
    have kc1:=KKb _ Bb1
    refine hK.out _ _ kc1 (fun hHeld1=>?_)
    clear hK K hHeld0
    try simp only[Act.put,List.setIfInBounds_toArray,List.set_cons_zero,List.set_cons_succ,List.getElem_toArray,List.getElem_cons_zero,List.getElem_cons_succ]
    refine wpAnyH_take (i:=2) (v:=?_) rfl (by kernel_rfl) (by kernel_rfl) (by kernel_rfl) (fun _ _ _ h=>h) (Or.inl ⟨by kernel_rfl,?_⟩) (by assumption) ?_
    rotate_left
    · intro w hSw;(try dsimp only at hSw);go_simp;first|done|with_reducible rfl
    simp only[Act.put,List.setIfInBounds_toArray,List.set_cons_zero,List.set_cons_succ,List.getElem_toArray,List.getElem_cons_zero,List.getElem_cons_succ]
    refine wpAnyH_take (i:=3) (v:=undef) rfl (by kernel_rfl) (by kernel_rfl) (by kernel_rfl) (fun _ _ _ h=>h) (Or.inr ⟨by kernel_rfl,rfl⟩) (by assumption) ?_
    simp only[Act.put,List.setIfInBounds_toArray,List.set_cons_zero,List.set_cons_succ,List.getElem_toArray,List.getElem_cons_zero,List.getElem_cons_succ]
    refine wpAnyH_take (i:=4) (v:=undef) rfl (by kernel_rfl) (by kernel_rfl) (by kernel_rfl) (fun _ _ _ h=>h) (Or.inr ⟨by kernel_rfl,rfl⟩) (by assumption) ?_
    simp only[Act.put,List.setIfInBounds_toArray,List.set_cons_zero,List.set_cons_succ,List.getElem_toArray,List.getElem_cons_zero,List.getElem_cons_succ]
    refine wpAnyH_take (i:=5) (v:=undef) rfl (by kernel_rfl) (by kernel_rfl) (by kernel_rfl) (fun _ _ _ h=>h) (Or.inr ⟨by kernel_rfl,rfl⟩) (by assumption) ?_
    simp only[Act.put,List.setIfInBounds_toArray,List.set_cons_zero,List.set_cons_succ,List.getElem_toArray,List.getElem_cons_zero,List.getElem_cons_succ]
    refine wpAnyH_take (i:=6) (v:=undef) rfl (by kernel_rfl) (by kernel_rfl) (by kernel_rfl) (fun _ _ _ h=>h) (Or.inr ⟨by kernel_rfl,rfl⟩) (by assumption) ?_
    simp only[Act.put,List.setIfInBounds_toArray,List.set_cons_zero,List.set_cons_succ,List.getElem_toArray,List.getElem_cons_zero,List.getElem_cons_succ]
    refine wpAnyH_take (i:=7) (v:=undef) rfl (by kernel_rfl) (by kernel_rfl) (by kernel_rfl) (fun _ _ _ h=>h) (Or.inr ⟨by kernel_rfl,rfl⟩) (by assumption) ?_
    simp only[Act.put,List.setIfInBounds_toArray,List.set_cons_zero,List.set_cons_succ,List.getElem_toArray,List.getElem_cons_zero,List.getElem_cons_succ]
    refine wpAnyH_take (i:=8) (v:=undef) rfl (by kernel_rfl) (by kernel_rfl) (by kernel_rfl) (fun _ _ _ h=>h) (Or.inr ⟨by kernel_rfl,rfl⟩) (by assumption) ?_
    simp only[Act.put,List.setIfInBounds_toArray,List.set_cons_zero,List.set_cons_succ,List.getElem_toArray,List.getElem_cons_zero,List.getElem_cons_succ]
    refine wpAnyH_take (i:=9) (v:=?_) rfl (by kernel_rfl) (by kernel_rfl) (by kernel_rfl) (fun _ _ _ h=>h) (Or.inl ⟨by kernel_rfl,?_⟩) (by assumption) ?_
    rotate_left
    · intro w hSw;(try dsimp only at hSw);go_simp;first|done|with_reducible rfl
    simp only[Act.put,List.setIfInBounds_toArray,List.set_cons_zero,List.set_cons_succ,List.getElem_toArray,List.getElem_cons_zero,List.getElem_cons_succ]
    refine wpAnyH_take (i:=10) (v:=?_) rfl (by kernel_rfl) (by kernel_rfl) (by kernel_rfl) (fun _ _ _ h=>h) (Or.inl ⟨by kernel_rfl,?_⟩) (by assumption) ?_
    rotate_left
    · intro w hSw;(try dsimp only at hSw);go_simp;first|done|with_reducible rfl
    simp only[Act.put,List.setIfInBounds_toArray,List.set_cons_zero,List.set_cons_succ,List.getElem_toArray,List.getElem_cons_zero,List.getElem_cons_succ]
    refine wpAnyH_take (i:=11) (v:=?_) rfl (by kernel_rfl) (by kernel_rfl) (by kernel_rfl) (fun _ _ _ h=>h) (Or.inl ⟨by kernel_rfl,?_⟩) (by assumption) ?_
    rotate_left
    · intro w hSw;(try dsimp only at hSw);go_simp;first|done|with_reducible rfl
    simp only[Act.put,List.setIfInBounds_toArray,List.set_cons_zero,List.set_cons_succ,List.getElem_toArray,List.getElem_cons_zero,List.getElem_cons_succ]
    refine wpAnyH_ready (rs:=[12]) (by kernel_rfl) (by simp) ?_
    refine AllReadyH.cons rfl (fun K hK=>?_) AllReadyH.nil
    go_simp
    refine(RF.out _ (aa hb Bb1) (H.keeps Bb1)).mono ?_
    rintro _ yb_2 ⟨rfl,hsb2⟩
    have Bb2:=aa Bb1 hsb2
    have kc2:=KKb _ Bb2
    refine hK.out _ _ kc2 (fun hHeld2=>?_)
    clear hK K hHeld1
    try simp only[Act.put,List.setIfInBounds_toArray,List.set_cons_zero,List.set_cons_succ,List.getElem_toArray,List.getElem_cons_zero,List.getElem_cons_succ]
    refine wpAnyH_take (i:=13) (v:=?_) rfl (by kernel_rfl) (by kernel_rfl) (by kernel_rfl) (fun _ _ _ h=>h) (Or.inl ⟨by kernel_rfl,?_⟩) (by assumption) ?_
    rotate_left
    · intro w hSw;(try dsimp only at hSw);go_simp;first|done|with_reducible rfl
    simp only[Act.put,List.setIfInBounds_toArray,List.set_cons_zero,List.set_cons_succ,List.getElem_toArray,List.getElem_cons_zero,List.getElem_cons_succ]
    refine wpAnyH_take (i:=14) (v:=?_) rfl (by kernel_rfl) (by kernel_rfl) (by kernel_rfl) (fun _ _ _ h=>h) (Or.inl ⟨by kernel_rfl,?_⟩) (by assumption) ?_
    rotate_left
    · intro w hSw;(try dsimp only at hSw);go_simp;first|done|with_reducible rfl
    simp only[Act.put,List.setIfInBounds_toArray,List.set_cons_zero,List.set_cons_succ,List.getElem_toArray,List.getElem_cons_zero,List.getElem_cons_succ]
    refine wpAnyH_take (i:=15) (v:=?_) rfl (by kernel_rfl) (by kernel_rfl) (by kernel_rfl) (fun _ _ _ h=>h) (Or.inl ⟨by kernel_rfl,?_⟩) (by assumption) ?_
    rotate_left
    · intro w hSw;(try dsimp only at hSw);go_simp;first|done|with_reducible rfl
    simp only[Act.put,List.setIfInBounds_toArray,List.set_cons_zero,List.set_cons_succ,List.getElem_toArray,List.getElem_cons_zero,List.getElem_cons_succ]
    refine wpAnyH_take (i:=16) (v:=?_) rfl (by kernel_rfl) (by kernel_rfl) (by kernel_rfl) (fun _ _ _ h=>h) (Or.inl ⟨by kernel_rfl,?_⟩) (by assumption) ?_
    rotate_left
    · intro w hSw;(try dsimp only at hSw);go_simp;first|done|with_reducible rfl
    simp only[Act.put,List.setIfInBounds_toArray,List.set_cons_zero,List.set_cons_succ,List.getElem_toArray,List.getElem_cons_zero,List.getElem_cons_succ]
    refine wpAnyH_take (i:=17) (v:=?_) rfl (by kernel_rfl) (by kernel_rfl) (by kernel_rfl) (fun _ _ _ h=>h) (Or.inl ⟨by kernel_rfl,?_⟩) (by assumption) ?_
    rotate_left
    · intro w hSw;(try dsimp only at hSw);go_simp;first|done|with_reducible rfl
    simp only[Act.put,List.setIfInBounds_toArray,List.set_cons_zero,List.set_cons_succ,List.getElem_toArray,List.getElem_cons_zero,List.getElem_cons_succ]
    refine wpAnyH_take (i:=18) (v:=?_) rfl (by kernel_rfl) (by kernel_rfl) (by kernel_rfl) (fun _ _ _ h=>h) (Or.inl ⟨by kernel_rfl,?_⟩) (by assumption) ?_
    rotate_left
    · intro w hSw;(try dsimp only at hSw);go_simp;first|done|with_reducible rfl
    simp only[Act.put,List.setIfInBounds_toArray,List.set_cons_zero,List.set_cons_succ,List.getElem_toArray,List.getElem_cons_zero,List.getElem_cons_succ]
    refine wpAnyH_take (i:=19) (v:=?_) rfl (by kernel_rfl) (by kernel_rfl) (by kernel_rfl) (fun _ _ _ h=>h) (Or.inl ⟨by kernel_rfl,?_⟩) (by assumption) ?_
    rotate_left
    · intro w hSw;(try dsimp only at hSw);go_simp;first|done|with_reducible rfl
    simp only[Act.put,List.setIfInBounds_toArray,List.set_cons_zero,List.set_cons_succ,List.getElem_toArray,List.getElem_cons_zero,List.getElem_cons_succ]
    refine wpAnyH_take (i:=20) (v:=?_) rfl (by kernel_rfl) (by kernel_rfl) (by kernel_rfl) (fun _ _ _ h=>h) (Or.inl ⟨by kernel_rfl,?_⟩) (by assumption) ?_
    rotate_left
    · intro w hSw;(try dsimp only at hSw);go_simp;first|done|with_reducible rfl
    simp only[Act.put,List.setIfInBounds_toArray,List.set_cons_zero,List.set_cons_succ,List.getElem_toArray,List.getElem_cons_zero,List.getElem_cons_succ]
    refine wpAnyH_take (i:=21) (v:=?_) rfl (by kernel_rfl) (by kernel_rfl) (by kernel_rfl) (fun _ _ _ h=>h) (Or.inl ⟨by kernel_rfl,?_⟩) (by assumption) ?_
    rotate_left
    · intro w hSw;(try dsimp only at hSw);go_simp;first|done|with_reducible rfl
    simp only[Act.put,List.setIfInBounds_toArray,List.set_cons_zero,List.set_cons_succ,List.getElem_toArray,List.getElem_cons_zero,List.getElem_cons_succ]
    refine wpAnyH_take (i:=22) (v:=?_) rfl (by kernel_rfl) (by kernel_rfl) (by kernel_rfl) (fun _ _ _ h=>h) (Or.inl ⟨by kernel_rfl,?_⟩) (by assumption) ?_
    rotate_left
    · intro w hSw;(try dsimp only at hSw);go_simp;first|done|with_reducible rfl
    simp only[Act.put,List.setIfInBounds_toArray,List.set_cons_zero,List.set_cons_succ,List.getElem_toArray,List.getElem_cons_zero,List.getElem_cons_succ]
    refine wpAnyH_take (i:=23) (v:=?_) rfl (by kernel_rfl) (by kernel_rfl) (by kernel_rfl) (fun _ _ _ h=>h) (Or.inl ⟨by kernel_rfl,?_⟩) (by assumption) ?_
    rotate_left
    · intro w hSw;(try dsimp only at hSw);go_simp;first|done|with_reducible rfl
    simp only[Act.put,List.setIfInBounds_toArray,List.set_cons_zero,List.set_cons_succ,List.getElem_toArray,List.getElem_cons_zero,List.getElem_cons_succ]
    refine wpAnyH_done (by kernel_rfl) ?_ _
    have hwb:=Bb2
    clear kc0 kc1 kc2 hHeld2
    have s_k:=ac hwb s_k
    have x_k:=ac hwb x_k
    have n_k:=ac hwb n_k
    have q_k:=ac hwb q_k
    have o_k:=ac hwb o_k
    have r_k:=ac hwb r_k
    have H:=H.keeps hwb
    have hb:=aa hb hwb
  · cases ok
    · have hx:=hX0.out (by trivial)
      obtain⟨rfl,rfl,rfl,rfl,hx⟩:=hx
      obtain⟨rfl,rfl,rfl,rfl,rfl,rfl,rfl,rfl,rfl,rfl,-⟩:=hV0.out (by trivial)
      have f_x0:=ab x_k 0 rfl
      have f_x1:=ab x_k 1 rfl
      have f_x2:=ab x_k 2 rfl
      go_wp2_with fail
      clear f_x0 f_x1 f_x2
      refine(RV.out _ hb H).mono ?_
      rintro _ y14 ⟨rfl,hw⟩
      have s_k:=ac hw s_k
      have x_k:=ac hw x_k
      have n_k:=ac hw n_k
      have q_k:=ac hw q_k
      have o_k:=ac hw o_k
      have r_k:=ac hw r_k
      have H:=H.keeps hw
      have hb:=aa hb hw
      have f_r0:=ab r_k 0 rfl
      have f_r1:=ab r_k 1 rfl
      go_wp2
      all_goals go_ret
      all_goals exact⟨rfl,hb⟩
    · have hx:=hX1.out (by trivial)
      have hx:ea=0:=hx
      subst hx
      replace RA:=RA.out (by trivial)
      obtain⟨rfl,rfl,rfl,rfl,rfl,rfl,rfl,rfl,rfl,rfl,rfl⟩:=hV0.out (by trivial)
      have f_x0:=ab x_k 0 rfl
      have f_x1:=ab x_k 1 rfl
      have f_x2:=ab x_k 2 rfl
      go_wp2_with fail
      clear f_x0 f_x1 f_x2
      refine(RV.out _ hb H).mono ?_
      rintro _ y14 ⟨rfl,hw⟩
      have s_k:=ac hw s_k
      have x_k:=ac hw x_k
      have n_k:=ac hw n_k
      have q_k:=ac hw q_k
      have o_k:=ac hw o_k
      have r_k:=ac hw r_k
      have H:=H.keeps hw
      have hb:=aa hb hw
      go_wp2_with fail
      have KKc:∀ W,Below y14.heap.size y14 W->W.cell? ⟨w.heap.size,0,none⟩=some (.int .i64 a)∧W.cell? ⟨w.heap.size,1,none⟩=some (.int .i64 b)∧W.cell? ⟨w.heap.size+1,0,none⟩=some (.bool x_g)∧W.cell? ⟨w.heap.size+1,1,none⟩=some (.slice x_o x_n x_c)∧W.cell? ⟨w.heap.size+1,2,none⟩=some (.int .i64 x_e)∧W.cell? ⟨y3.heap.size,0,none⟩=some (.int .i64 0)∧W.cell? ⟨y3.heap.size,1,none⟩=some (.int .i64 0)∧W.cell? ⟨y5.heap.size,0,none⟩=some (.int .i64 0)∧W.cell? ⟨y5.heap.size,1,none⟩=some (.int .i64 0)∧W.cell? ⟨y10.heap.size,0,none⟩=some (.int .i64 a0)∧W.cell? ⟨y10.heap.size,1,none⟩=some (.int .i64 a1):=fun W hW=>⟨af (ab s_k 0 rfl) hW,af (ab s_k 1 rfl) hW,af (ab x_k 0 rfl) hW,af (ab x_k 1 rfl) hW,af (ab x_k 2 rfl) hW,af (ab n_k 0 rfl) hW,af (ab n_k 1 rfl) hW,af (ab q_k 0 rfl) hW,af (ab q_k 1 rfl) hW,af (ab r_k 0 rfl) hW,af (ab r_k 1 rfl) hW⟩
      have Bc0:Below y14.heap.size y14 y14.drew:=(aq _).drew
      go_region_held3 (fun W=>W.cell? ⟨w.heap.size,0,none⟩=some (.int .i64 a)∧W.cell? ⟨w.heap.size,1,none⟩=some (.int .i64 b)∧W.cell? ⟨w.heap.size+1,0,none⟩=some (.bool x_g)∧W.cell? ⟨w.heap.size+1,1,none⟩=some (.slice x_o x_n x_c)∧W.cell? ⟨w.heap.size+1,2,none⟩=some (.int .i64 x_e)∧W.cell? ⟨y3.heap.size,0,none⟩=some (.int .i64 0)∧W.cell? ⟨y3.heap.size,1,none⟩=some (.int .i64 0)∧W.cell? ⟨y5.heap.size,0,none⟩=some (.int .i64 0)∧W.cell? ⟨y5.heap.size,1,none⟩=some (.int .i64 0)∧W.cell? ⟨y10.heap.size,0,none⟩=some (.int .i64 a0)∧W.cell? ⟨y10.heap.size,1,none⟩=some (.int .i64 a1))
        (with_reducible first|assumption|exact KKc _ Bc0|exact KKc _ Bc1|exact KKc _ Bc2|fail)
        (first
          | (go_at_call 18;have _t:=hsc1;refine(fv a0 a1 _).mono ?_;rintro _ yc_2 ⟨rfl,hsc2⟩;have Bc2:=aa Bc1 hsc2)
          | (go_at_call 21; refine (RA _ (aa hb Bc0) (H.keeps Bc0)).mono ?_; rintro _ yc_1 ⟨rfl,hsc1⟩; have Bc1:=aa Bc0 hsc1))
      have hwc:=Bc2
      have s_k:=ac hwc s_k
      have x_k:=ac hwc x_k
      have n_k:=ac hwc n_k
      have q_k:=ac hwc q_k
      have o_k:=ac hwc o_k
      have r_k:=ac hwc r_k
      have H:=H.keeps hwc
      have hb:=aa hb hwc
      have f_n0:=ab n_k 0 rfl
      have f_n1:=ab n_k 1 rfl
      have f_s0:=ab s_k 0 rfl
      have f_s1:=ab s_k 1 rfl
      go_wp2_with fail
      clear f_n0 f_n1 f_s0 f_s1
      refine(lN _ _ _).mono ?_
      rintro _ y15 ⟨rfl,hw⟩
      have s_k:=ac hw s_k
      have x_k:=ac hw x_k
      have n_k:=ac hw n_k
      have q_k:=ac hw q_k
      have o_k:=ac hw o_k
      have r_k:=ac hw r_k
      have H:=H.keeps hw
      have hb:=aa hb hw
      have f_q0:=ab q_k 0 rfl
      have f_q1:=ab q_k 1 rfl
      have f_s0:=ab s_k 0 rfl
      have f_s1:=ab s_k 1 rfl
      go_wp2_with fail
      clear f_q0 f_q1 f_s0 f_s1
      refine(lN _ _ _).mono ?_
      rintro _ y16 ⟨rfl,hw⟩
      have s_k:=ac hw s_k
      have x_k:=ac hw x_k
      have n_k:=ac hw n_k
      have q_k:=ac hw q_k
      have o_k:=ac hw o_k
      have r_k:=ac hw r_k
      have H:=H.keeps hw
      have hb:=aa hb hw
      go_wp2
      all_goals go_ret
      all_goals exact⟨rfl,hb⟩
  · cases ok
    · have hx:=hX0.out (by trivial)
      obtain⟨rfl,rfl,rfl,rfl,hx⟩:=hx
      obtain⟨rfl,rfl,rfl⟩:=hV1.out (by trivial)
      have he:=hx (by trivial)
      subst he
      have f_x0:=ab x_k 0 rfl
      have f_x1:=ab x_k 1 rfl
      have f_x2:=ab x_k 2 rfl
      go_wp2_with fail
      clear f_x0 f_x1 f_x2
      refine(RV.out _ hb H).mono ?_
      rintro _ y14 ⟨rfl,hw⟩
      have s_k:=ac hw s_k
      have x_k:=ac hw x_k
      have n_k:=ac hw n_k
      have q_k:=ac hw q_k
      have o_k:=ac hw o_k
      have r_k:=ac hw r_k
      have H:=H.keeps hw
      have hb:=aa hb hw
      have f_r0:=ab r_k 0 rfl
      have f_r1:=ab r_k 1 rfl
      go_wp2
      all_goals go_ret
      all_goals exact⟨rfl,hb⟩
    · have hx:=hX1.out (by trivial)
      have hx:ea=0:=hx
      subst hx
      replace RA:=RA.out (by trivial)
      obtain⟨rfl,rfl,rfl⟩:=hV1.out (by trivial)
      have he:=hE.out (by trivial) (by trivial)
      subst he
      have f_x0:=ab x_k 0 rfl
      have f_x1:=ab x_k 1 rfl
      have f_x2:=ab x_k 2 rfl
      go_wp2_with fail
      clear f_x0 f_x1 f_x2
      refine(RV.out _ hb H).mono ?_
      rintro _ y14 ⟨rfl,hw⟩
      have s_k:=ac hw s_k
      have x_k:=ac hw x_k
      have n_k:=ac hw n_k
      have q_k:=ac hw q_k
      have o_k:=ac hw o_k
      have r_k:=ac hw r_k
      have H:=H.keeps hw
      have hb:=aa hb hw
      go_wp2_with fail
      have KKc:∀ W,Below y14.heap.size y14 W->W.cell? ⟨w.heap.size,0,none⟩=some (.int .i64 a)∧W.cell? ⟨w.heap.size,1,none⟩=some (.int .i64 b)∧W.cell? ⟨w.heap.size+1,0,none⟩=some (.bool x_g)∧W.cell? ⟨w.heap.size+1,1,none⟩=some (.slice x_o x_n x_c)∧W.cell? ⟨w.heap.size+1,2,none⟩=some (.int .i64 x_e)∧W.cell? ⟨y3.heap.size,0,none⟩=some (.int .i64 n0)∧W.cell? ⟨y3.heap.size,1,none⟩=some (.int .i64 n1)∧W.cell? ⟨y5.heap.size,0,none⟩=some (.int .i64 q0)∧W.cell? ⟨y5.heap.size,1,none⟩=some (.int .i64 q1)∧W.cell? ⟨y10.heap.size,0,none⟩=some (.int .i64 a0)∧W.cell? ⟨y10.heap.size,1,none⟩=some (.int .i64 a1):=fun W hW=>⟨af (ab s_k 0 rfl) hW,af (ab s_k 1 rfl) hW,af (ab x_k 0 rfl) hW,af (ab x_k 1 rfl) hW,af (ab x_k 2 rfl) hW,af (ab n_k 0 rfl) hW,af (ab n_k 1 rfl) hW,af (ab q_k 0 rfl) hW,af (ab q_k 1 rfl) hW,af (ab r_k 0 rfl) hW,af (ab r_k 1 rfl) hW⟩
      have Bc0:Below y14.heap.size y14 y14.drew:=(aq _).drew
      go_region_held3 (fun W=>W.cell? ⟨w.heap.size,0,none⟩=some (.int .i64 a)∧W.cell? ⟨w.heap.size,1,none⟩=some (.int .i64 b)∧W.cell? ⟨w.heap.size+1,0,none⟩=some (.bool x_g)∧W.cell? ⟨w.heap.size+1,1,none⟩=some (.slice x_o x_n x_c)∧W.cell? ⟨w.heap.size+1,2,none⟩=some (.int .i64 x_e)∧W.cell? ⟨y3.heap.size,0,none⟩=some (.int .i64 n0)∧W.cell? ⟨y3.heap.size,1,none⟩=some (.int .i64 n1)∧W.cell? ⟨y5.heap.size,0,none⟩=some (.int .i64 q0)∧W.cell? ⟨y5.heap.size,1,none⟩=some (.int .i64 q1)∧W.cell? ⟨y10.heap.size,0,none⟩=some (.int .i64 a0)∧W.cell? ⟨y10.heap.size,1,none⟩=some (.int .i64 a1))
        (with_reducible first|assumption|exact KKc _ Bc0|exact KKc _ Bc1|exact KKc _ Bc2|fail)
        (first
          | (go_at_call 18;have _t:=hsc1;refine(fv a0 a1 _).mono ?_;rintro _ yc_2 ⟨rfl,hsc2⟩;have Bc2:=aa Bc1 hsc2)
          | (go_at_call 21; refine (RA _ (aa hb Bc0) (H.keeps Bc0)).mono ?_; rintro _ yc_1 ⟨rfl,hsc1⟩; have Bc1:=aa Bc0 hsc1))
      have hwc:=Bc2
      have s_k:=ac hwc s_k
      have x_k:=ac hwc x_k
      have n_k:=ac hwc n_k
      have q_k:=ac hwc q_k
      have o_k:=ac hwc o_k
      have r_k:=ac hwc r_k
      have H:=H.keeps hwc
      have hb:=aa hb hwc
      replace RN:=RN.out (by trivial)
      replace RQ:=RQ.out (by trivial)
      replace RS:=RS.out (by trivial)
      replace RH:=RH.out (by trivial) (by trivial)
      have f_s0:=ab s_k 0 rfl
      have f_s1:=ab s_k 1 rfl
      go_wp2_with fail
      clear f_s0 f_s1
      refine(RS _ hb H).mono ?_
      rintro _ y15 ⟨rfl,hw⟩
      have s_k:=ac hw s_k
      have x_k:=ac hw x_k
      have n_k:=ac hw n_k
      have q_k:=ac hw q_k
      have o_k:=ac hw o_k
      have r_k:=ac hw r_k
      have H:=H.keeps hw
      have hb:=aa hb hw
      go_wp2_with fail
      cases kn
      all_goals cases inn
      all_goals
        have KKd:∀ W,Below y15.heap.size y15 W->W.cell? ⟨w.heap.size,0,none⟩=some (.int .i64 a)∧W.cell? ⟨w.heap.size,1,none⟩=some (.int .i64 b)∧W.cell? ⟨w.heap.size+1,0,none⟩=some (.bool x_g)∧W.cell? ⟨w.heap.size+1,1,none⟩=some (.slice x_o x_n x_c)∧W.cell? ⟨w.heap.size+1,2,none⟩=some (.int .i64 x_e)∧W.cell? ⟨y3.heap.size,0,none⟩=some (.int .i64 n0)∧W.cell? ⟨y3.heap.size,1,none⟩=some (.int .i64 n1)∧W.cell? ⟨y5.heap.size,0,none⟩=some (.int .i64 q0)∧W.cell? ⟨y5.heap.size,1,none⟩=some (.int .i64 q1):=fun W hW=>⟨af (ab s_k 0 rfl) hW,af (ab s_k 1 rfl) hW,af (ab x_k 0 rfl) hW,af (ab x_k 1 rfl) hW,af (ab x_k 2 rfl) hW,af (ab n_k 0 rfl) hW,af (ab n_k 1 rfl) hW,af (ab q_k 0 rfl) hW,af (ab q_k 1 rfl) hW⟩
        have Bd0:Below y15.heap.size y15 y15.drew:=(aq _).drew
        go_region_held3 (fun W=>W.cell? ⟨w.heap.size,0,none⟩=some (.int .i64 a)∧W.cell? ⟨w.heap.size,1,none⟩=some (.int .i64 b)∧W.cell? ⟨w.heap.size+1,0,none⟩=some (.bool x_g)∧W.cell? ⟨w.heap.size+1,1,none⟩=some (.slice x_o x_n x_c)∧W.cell? ⟨w.heap.size+1,2,none⟩=some (.int .i64 x_e)∧W.cell? ⟨y3.heap.size,0,none⟩=some (.int .i64 n0)∧W.cell? ⟨y3.heap.size,1,none⟩=some (.int .i64 n1)∧W.cell? ⟨y5.heap.size,0,none⟩=some (.int .i64 q0)∧W.cell? ⟨y5.heap.size,1,none⟩=some (.int .i64 q1))
          (with_reducible first|assumption|exact KKd _ Bd0|exact KKd _ Bd1|exact KKd _ Bd2|exact KKd _ Bd3|exact KKd _ Bd4|exact KKd _ Bd5|fail)
          (first
            | (go_at_call 25;have _t:=hsd4;refine(RH _ (aa hb Bd4) (H.keeps Bd4)).mono ?_;rintro _ yd_5 ⟨rfl,hsd5⟩;have Bd5:=aa Bd4 hsd5)
            | (go_at_call 18;have _t:=hsd3;refine(fv q0 q1 _).mono ?_;rintro _ yd_4 ⟨rfl,hsd4⟩;have Bd4:=aa Bd3 hsd4)
            | (go_at_call 24;have _t:=hsd2;refine(RQ _ (aa hb Bd2) (H.keeps Bd2)).mono ?_;rintro _ yd_3 ⟨rfl,hsd3⟩;have Bd3:=aa Bd2 hsd3)
            | (go_at_call 18;have _t:=hsd1;refine(fv n0 n1 _).mono ?_;rintro _ yd_2 ⟨rfl,hsd2⟩;have Bd2:=aa Bd1 hsd2)
            | (go_at_call 23; refine (RN _ (aa hb Bd0) (H.keeps Bd0)).mono ?_; rintro _ yd_1 ⟨rfl,hsd1⟩; have Bd1:=aa Bd0 hsd1))
        have hwd:=Bd5
        have s_k:=ac hwd s_k
        have x_k:=ac hwd x_k
        have n_k:=ac hwd n_k
        have q_k:=ac hwd q_k
        have o_k:=ac hwd o_k
        have r_k:=ac hwd r_k
        have H:=H.keeps hwd
        have hb:=aa hb hwd
        go_wp2
        all_goals go_ret
        all_goals exact⟨rfl,hb⟩
end Go.Proofs.YtkkpppgfoilgmaaGreatDoor
