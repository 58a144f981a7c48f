/-
  Parts of the proof, one behind another.
-/
import Derived.Test.YtafnigjehkpggaaGreatDoorPart19
import Derived.Test.YtafnigjehkpggaaGreatDoorPart18
import Derived.Test.YtafnigjehkpggaaGreatDoorPart10
import Derived.Test.YtafnigjehkpggaaGreatDoorPart17
import Derived.Test.YtafnigjehkpggaaGreatDoorPart16
import Derived.Test.YtafnigjehkpggaaGreatDoorPart8
import Derived.Test.YtafnigjehkpggaaGreatDoorPart7
import Derived.Test.YtafnigjehkpggaaGreatDoorPart11
import Derived.Test.YtafnigjehkpggaaGreatDoorPart6
import Derived.Maps.AppendAt
import Derived.Laws.AppendOwnNone
namespace Go.Proofs.YtafnigjehkpggaaGreatDoor
open Go Go.RowKit Go.Proofs.YtafnigjehkpggaaGreatDoor.M
set_option linter.unusedSimpArgs false
set_option linter.unusedVariables false
theorem operate_fin (way:Int) (hw:1 <= way∧way <= 3) (near:Int) (Rf:Nat) (rc:Array Value) (g n:Nat) (hn:n <= 100) (d:Nat->Int) (w:World) (hR:Row w (some ⟨g,0,none⟩) n n d) (hp:∀ i,i < n->pok (d i)=true) (H:Hold4 w) (ng:Bool) (mag:Nat) (exp:Int) (cut sd:Bool) (hm:mag < 18446744073709551616) (he:-4500000 <= exp∧exp <= 4500000)
    (hER:∀ (cap:Array Value) (w:World),(callFunc Rf cap).run Tryz.prog w=.ok (.enter Rf cap) w)
    (CR:∀ W g q,Below w.heap.size w W->Nums W (some ⟨g,0,none⟩) n n q->(∀ i,i < n->Nrm (q i).d (q i).n∧Dy (patV (d i)) (q i).ng (val (q i).d (q i).n) (q i).e)->Calls Tryz.prog Rf (#[.slice (some ⟨g,0,none⟩) n n] ++ rc) W fun e w'=>e=.returned (.tuple #[valV ng mag exp cut sd,.int .i64 0])∧Below W.heap.size W w') :
    Calls Tryz.prog 164 #[.agg #[.func (.func 69) #[] #[],.func (.func 134) #[] #[]],.int .i64 near,.int .i64 way,.func (.func Rf) #[] rc,.slice (some ⟨g,0,none⟩) n n] w fun e w'=>e=.returned (.tuple #[.int .i64 (opT 0 mag sd (r64 way ng true mag exp cut).1 near),.int .i64 0])∧Below w.heap.size w w':=by
  have hEF:∀ (cap:Array Value) (w:World),(callFunc 69 cap).run Tryz.prog w=.ok (.enter 69 cap) w:=by
    intro cap w
    simp [go_sem]
  have hEG:∀ (cap:Array Value) (w:World),(callFunc 134 cap).run Tryz.prog w=.ok (.enter 134 cap) w:=by
    intro cap w
    simp [go_sem]
  exact operate_go way hw near _ _ Rf rc _ n n w (fun i=>patV (d i)) ng mag exp cut sd 0 _ _ hEG hER
    (fun W hb=>(values_ok _ _ _ n n d _ W (hR.keeps hb) (by omega) hEF (fun i hi W' hb'=>of_ok (hp i hi) ((H.keeps hb).keeps hb'))).mono fun r w' h=>by
      obtain ⟨g,q,e1,e2,e3,e4,e5⟩:=h
      exact ⟨g,q,e1,e2,e3,e4,e5⟩)
    CR (fun W hb=>binary64_any way (by omega) ng true mag exp cut W (H.keeps hb).env hm he)
theorem operate_inf (way:Int) (hw:1 <= way∧way <= 3) (near:Int) (Rf:Nat) (rc:Array Value) (g n:Nat) (hn:n <= 100) (d:Nat->Int) (w:World) (hR:Row w (some ⟨g,0,none⟩) n n d) (K:Nat) (hK:K < n) (hp:∀ i,i < K->pok (d i)=true) (hq:pok (d K)=false) (H:Hold4 w) :
    Calls Tryz.prog 164 #[.agg #[.func (.func 69) #[] #[],.func (.func 134) #[] #[]],.int .i64 near,.int .i64 way,.func (.func Rf) #[] rc,.slice (some ⟨g,0,none⟩) n n] w fun e w'=>e=.returned (.tuple #[.int .i64 near,.int .i64 0])∧Below w.heap.size w w':=by
  have hEF:∀ (cap:Array Value) (w:World),(callFunc 69 cap).run Tryz.prog w=.ok (.enter 69 cap) w:=by
    intro cap w
    simp [go_sem]
  exact operate_not way hw near _ _ Rf rc _ n n w (fun W hb=>values_no _ _ _ n n d (fun i=>patV (d i)) W (hR.keeps hb) (by omega) K hK hEF (fun i hi W' hb'=>of_ok (hp i hi) ((H.keeps hb).keeps hb')) (fun W' hb'=>of_no hq ((H.keeps hb).keeps hb')))
theorem rowT {w:World} {g:Nat} {a b:Int} (h:w.heap[g]?=some (.cells #[.int .i64 a,.int .i64 b] 3 (0,0))):Row w (some ⟨g,0,none⟩) 2 2 (fun i=>if i=0 then a else b) :=
  ⟨Nat.le_refl _,by decide,(fun h=>nomatch h),fun _=>⟨g,0,rfl,(Array.getElem?_eq_some_iff.1 h).1,fun i hi=>by
    match i,hi with
    | 0,_=>exact blkC h 0 rfl
    | 1,_=>exact blkC h 1 rfl⟩⟩
theorem mag_pos {m:Int} (h:0 < m):(m / 2 ^ vK m).toNat ≠ 0:=by
  have hb:=blen_pos h
  have hp:=two_pos (vK m)
  have h1:2 ^ vK m <= m:=Int.le_trans (two_le (by unfold vK; omega)) hb.2
  have h2:1 <= m / 2 ^ vK m:=by rw [Int.le_ediv_iff_mul_le hp,Int.one_mul]; exact h1
  omega
theorem mag_lt {m:Int} (h:0 <= m):(m / 2 ^ vK m).toNat < 18446744073709551616:=by
  have:=vK_small h
  omega
theorem exp_in {V:Int} {ng:Bool} {m e:Int} (hy:Dy V ng m e) (ok:Dok V):-4500000 <= e + vK m∧e + vK m <= 4500000:=by
  obtain ⟨h1,h2,h3⟩:=hy.ok.1 ok
  have h4:blen m <= 30 * 2000:=blen_le (by rw [<- P_two]; exact h1)
  unfold vK
  omega
theorem opAdd_inf (way:Int) (hw:1 <= way∧way <= 3) (near a b:Int) (Rf:Nat) (rc:Array Value) (hp:(pok a && pok b)=false) (w:World) (go:Nat) (ko:w.heap[go]?=some (.cells #[.int .i64 a,.int .i64 b] 3 (0,0))) (H:Hold4 w) :
    Calls Tryz.prog 164 #[.agg #[.func (.func 69) #[] #[],.func (.func 134) #[] #[]],.int .i64 near,.int .i64 way,.func (.func Rf) #[] rc,.slice (some ⟨go,0,none⟩) 2 2] w fun e w'=>e=.returned (.tuple #[.int .i64 near,.int .i64 0])∧Below w.heap.size w w':=by
  cases h1:pok a
  . exact operate_inf way hw near Rf rc go 2 (by decide) (fun i=>if i=0 then a else b) w (rowT ko) 0 (by decide) (fun i hi=>by omega) h1 H
  . rw [h1] at hp
    exact operate_inf way hw near Rf rc go 2 (by decide) (fun i=>if i=0 then a else b) w (rowT ko) 1 (by decide) (fun i hi=>by
      obtain rfl:i=0:=by omega
      exact h1) hp H
set_option maxRecDepth 100000 in
set_option maxHeartbeats 1000000 in
theorem opMul (way:Int) (hw:1 <= way∧way <= 3) (near a b:Int) (ra:rng a) (rb:rng b) (w:World) (go:Nat) (ko:w.heap[go]?=some (.cells #[.int .i64 a,.int .i64 b] 3 (0,0))) (H:Hold4 w) :
    Calls Tryz.prog 164 #[.agg #[.func (.func 69) #[] #[],.func (.func 134) #[] #[]],.int .i64 near,.int .i64 way,.func (.func 165) #[] #[],.slice (some ⟨go,0,none⟩) 2 2] w fun e w'=>e=.returned (.tuple #[.int .i64 (if (pok a && pok b)=true∧prV a b ≠ 0 then rdP way (prV a b) else near),.int .i64 0])∧Below w.heap.size w w':=by
  have hER:∀ (cap:Array Value) (w:World),(callFunc 165 cap).run Tryz.prog w=.ok (.enter 165 cap) w:=by
    intro cap w
    simp [go_sem]
  cases hpp:(pok a && pok b)
  . have n1:¬ (false=true∧prV a b ≠ 0):=fun q=>by cases q.1
    rw [if_neg n1]
    exact opAdd_inf way hw near a b _ _ hpp w go ko H
  . simp only [Bool.and_eq_true] at hpp
    obtain ⟨pa,pb⟩:=hpp
    obtain ⟨_,_,_,_,hC⟩:=prV_parts ra rb pa pb
    have ok:Dok (prV a b):=((patV_bd pa).mul (patV_bd pb) hC (by omega)).ok (by omega)
    obtain ⟨ng,m,e,hy,hm⟩:=id ok
    clear hm
    have hp:∀ i,i < 2->pok (if i=0 then a else b)=true:=fun i hi=>by split <;> assumption
    have:=operate_fin way hw near _ #[] go 2 (by decide) (fun i=>if i=0 then a else b) w (rowT ko) hp H ng _ _ _ false (mag_lt hy.nonneg) (exp_in hy ok) hER (fun W g q hb hN hf=>product_D g W q (patV a) (patV b) (prV a b) ng m e hN (nums_D hN hf 0 (by decide)) (nums_D hN hf 1 (by decide)) (patV_dok pa) (patV_dok pb) hC ok hy (H.keeps hb).tab)
    have hA:(if true=true∧prV a b ≠ 0 then rdP way (prV a b) else near)=opT 0 (m / 2 ^ vK m).toNat false (r64 way ng true (m / 2 ^ vK m).toNat (e + vK m) (decide (m % 2 ^ vK m ≠ 0))).1 near:=by
      unfold opT
      by_cases h0:prV a b=0
      . have hm0:=hy.eq_zero.1 h0
        have n1:¬ (true=true∧prV a b ≠ 0):=fun q=>q.2 h0
        have n3:(0:Int) ≠ 0∨((m / 2 ^ vK m).toNat=0∧false=false):=.inr ⟨by rw [hm0,Int.zero_ediv]; rfl,rfl⟩
        rw [if_neg n1,if_pos n3]
      . have hm0:0 < m:=by
          have:=hy.nonneg
          have:m ≠ 0:=fun q=>h0 (hy.eq_zero.2 q)
          omega
        have n1:true=true∧prV a b ≠ 0:=⟨rfl,h0⟩
        have n3:¬ ((0:Int) ≠ 0∨((m / 2 ^ vK m).toNat=0∧false=false)):=fun q=>by
          rcases q with q | q
          . exact q rfl
          . exact mag_pos hm0 q.1
        rw [if_pos n1,if_neg n3,r64_dy hy h0 (by have:=(hy.ok.1 ok).2.1; omega)]
    rw [hA]
    exact this
set_option maxRecDepth 100000 in
set_option maxHeartbeats 1000000 in
theorem mul_A {a b way:Int} {w:World} (ra:rng a) (rb:rng b) (hw:0 <= way∧way <= 3) (H:Hold4 w) :
    Calls Tryz.prog 147 #[.int .i64 a,.int .i64 b,.int .i64 way] w fun e w'=>e=.returned (.tuple #[.int .i64 (mulP way a b),.int .i64 0])∧Below w.heap.size w w':=by
  have CK:Hid (∀ W go,W.heap[go]?=some (.cells #[.int .i64 a,.int .i64 b] 3 (0,0))->Hold4 W->Calls Tryz.prog 164 #[.agg #[.func (.func 69) #[] #[],.func (.func 134) #[] #[]],.int .i64 (fprod (told a) (told b)),.int .i64 way,.func (.func 165) #[] #[],.slice (some ⟨go,0,none⟩) 2 2] W fun e w'=>e=.returned (.tuple #[.int .i64 (mulP way a b),.int .i64 0])∧Below W.heap.size W w'):=fun W go ko H=>by
    by_cases h0:way=0
    . have e:mulP way a b=fprod (told a) (told b):=by unfold mulP; rw [if_pos (.inl h0)]
      rw [e,h0]
      exact operate_near _ _ ⟨_,rfl⟩ ⟨_,rfl⟩ _ _ _ _ _ W
    . have e:mulP way a b=if (pok a && pok b)=true∧prV a b ≠ 0 then rdP way (prV a b) else fprod (told a) (told b):=by
        unfold mulP
        cases hp:(pok a && pok b)
        . have n1:way=0∨false=false:=.inr rfl
          have n2:¬ (false=true∧prV a b ≠ 0):=fun q=>by cases q.1
          rw [if_pos n1,if_neg n2]
        . have n1:¬ (way=0∨true=false):=fun q=>by rcases q with q | q; exact h0 q; cases q
          rw [if_neg n1]
          by_cases h:prV a b ≠ 0
          . have n2:true=true∧prV a b ≠ 0:=⟨rfl,h⟩
            rw [if_pos h,if_pos n2]
          . have n2:¬ (true=true∧prV a b ≠ 0):=fun q=>h q.2
            rw [if_neg h,if_neg n2]
      rw [e]
      exact opMul way (by omega) _ a b ra rb W go ko H
  generalize mulP way a b=R at CK ⊢
  have hcv:=cv64
  have hmf:∀ (fn:Fn) (first cap:Array Value) (w:World),(Instr.makeFunc fn first cap).run Tryz.prog w=.ok (.func fn first cap) w:=fun _ _ _ _=>rfl
  have CF:Hid (∀ W,Calls Tryz.prog 26 #[.int .i64 a] W fun e w'=>e=.returned (.float .f64 (wd a))∧w'=W):=fun W=>bitsFloat a W
  have CG:Hid (∀ W,Calls Tryz.prog 26 #[.int .i64 b] W fun e w'=>e=.returned (.float .f64 (wd b))∧w'=W):=fun W=>bitsFloat b W
  have RS:Hid (∀ W,_):=fun W=>run_fprod (P:=Tryz.prog) 60 (wd_told ra) (wd_told rb) W
  go_enter Tryz.func147,Tryz.ntmps147
  go_wp2_with fail
  refine (double_any _).mono ?_
  rintro _ w1 ⟨rfl,hb1⟩
  obtain ⟨z,w2,hrun,hz,hw2⟩:=RS.out w1
  clear RS
  generalize wd a=x at *
  generalize wd b=y at *
  generalize fprod (told a) (told b)=near at *
  go_wp2_with fail
  refine (CF.out _).mono ?_
  rintro _ _ ⟨rfl,rfl⟩
  go_wp2_with fail
  refine (CG.out _).mono ?_
  rintro _ _ ⟨rfl,rfl⟩
  go_wp2_with fail
  have hb2:Below w.heap.size w w2:=by rcases hw2 with rfl | rfl; exact hb1; exact hb1.drew
  refine (of_FW hz _).mono ?_
  rintro _ _ ⟨rfl,rfl⟩
  have hb3:=bel_trans hb2 (bel_alloc _ (.cells #[.int .i64 a,.int .i64 b] 3))
  go_wp2_with fail
  refine (CK.out _ _ (heap_a1 _ (.cells #[.int .i64 a,.int .i64 b] 3)) (H.keeps hb3)).mono ?_
  rintro _ w5 ⟨rfl,hb5⟩
  go_wp2
  all_goals refine bodyPost_ret (v:=.tuple #[.int .i64 R,.int .i64 0]) (by simp [results,Tryz.results147,go_sem]) rfl ⟨rfl,bel_trans hb3 hb5⟩
theorem fin2 {w w3:World} (h3:Below (w.alloc (.cells #[.float .f64 0,.float .f64 0] 100)).heap.size (w.alloc (.cells #[.float .f64 0,.float .f64 0] 100)) w3) (U V:Nat) :
    (store ⟨w.heap.size,0,none⟩ (.float .f64 U)).run Tryz.prog w3=.ok () (w3.setCell ⟨w.heap.size,0,none⟩ (.float .f64 U))∧(store ⟨w.heap.size,1,none⟩ (.float .f64 V)).run Tryz.prog (w3.setCell ⟨w.heap.size,0,none⟩ (.float .f64 U))=.ok () ((w3.setCell ⟨w.heap.size,0,none⟩ (.float .f64 U)).setCell ⟨w.heap.size,1,none⟩ (.float .f64 V))∧((w3.setCell ⟨w.heap.size,0,none⟩ (.float .f64 U)).setCell ⟨w.heap.size,1,none⟩ (.float .f64 V)).cell? ⟨w.heap.size,0,none⟩=some (.float .f64 U)∧((w3.setCell ⟨w.heap.size,0,none⟩ (.float .f64 U)).setCell ⟨w.heap.size,1,none⟩ (.float .f64 V)).cell? ⟨w.heap.size,1,none⟩=some (.float .f64 V)∧Below w.heap.size w ((w3.setCell ⟨w.heap.size,0,none⟩ (.float .f64 U)).setCell ⟨w.heap.size,1,none⟩ (.float .f64 V)):=by
  have hg:=q_heap_last w (.cells #[.float .f64 0,.float .f64 0] 100)
  have hba:=bel_alloc w (.cells #[.float .f64 0,.float .f64 0] 100)
  have d2:=(h3.block _ (Array.getElem?_eq_some_iff.1 hg).1).trans hg
  have d3:=q_heap_set d2 0 (.float .f64 U)
  have d4:=q_heap_set d3 1 (.float .f64 V)
  have f0:=blkC d2 0 rfl
  have z0:=blkF d2 0
  have f1:=blkC d3 1 rfl
  have z1:=blkF d3 1
  refine ⟨?_,?_,blkC d4 0 rfl,blkC d4 1 rfl,?_⟩
  . rw [run_store _ _ _ _ _ rfl,f0]; simp only [z0]; rfl
  . rw [run_store _ _ _ _ _ rfl,f1]; simp only [z1]; rfl
  . exact ((bel_trans hba h3).setCell (p:=⟨w.heap.size,0,none⟩) (Nat.le_refl _) _).setCell (p:=⟨w.heap.size,1,none⟩) (Nat.le_refl _) _
set_option maxRecDepth 100000 in
set_option maxHeartbeats 1000000 in
theorem deepProd_any {a b:Int} (ra:rng a) (rb:rng b) (w:World) (H:Hold4 w) :
    Calls Tryz.prog 118 #[.int .i64 a,.int .i64 b] w fun e w'=>e=.returned (ivl (mulP 1 a b) (mulP 2 a b))∧Below w.heap.size w w':=by
  have C1:Hid (∀ W,Hold4 W->Calls Tryz.prog 147 #[.int .i64 a,.int .i64 b,.int .i64 1] W fun e w'=>e=.returned (.tuple #[.int .i64 (mulP 1 a b),.int .i64 0])∧Below W.heap.size W w'):=fun W h=>mul_A ra rb (by omega) h
  have C2:Hid (∀ W,Hold4 W->Calls Tryz.prog 147 #[.int .i64 a,.int .i64 b,.int .i64 2] W fun e w'=>e=.returned (.tuple #[.int .i64 (mulP 2 a b),.int .i64 0])∧Below W.heap.size W w'):=fun W h=>mul_A ra rb (by omega) h
  unfold ivl
  generalize mulP 1 a b=l at *
  generalize mulP 2 a b=h at *
  have hba:=bel_alloc w (.cells #[.float .f64 0,.float .f64 0] 100)
  go_enter Tryz.func118,Tryz.ntmps118
  go_wp2_with fail
  refine (C1.out _ (H.keeps hba)).mono ?_
  rintro _ w1 ⟨rfl,hb1⟩
  have hw1:=bel_trans hba hb1
  go_wp2_with fail
  refine (C2.out _ (H.keeps hw1)).mono ?_
  rintro _ w2 ⟨rfl,hb2⟩
  have hb3:=bel_trans hb1 hb2
  obtain ⟨s0,s1,e0,e1,hbe⟩:=fin2 hb3 (wd l) (wd h)
  have CF:Hid (∀ W,Calls Tryz.prog 26 #[.int .i64 l] W fun e w'=>e=.returned (.float .f64 (wd l))∧w'=W):=fun W=>bitsFloat l W
  have CG:Hid (∀ W,Calls Tryz.prog 26 #[.int .i64 h] W fun e w'=>e=.returned (.float .f64 (wd h))∧w'=W):=fun W=>bitsFloat h W
  go_wp2_with fail
  refine (CF.out _).mono ?_
  rintro _ wz ⟨rfl,hwz⟩
  replace hwz:=hwz.symm
  subst hwz
  go_wp2_with fail
  refine (CG.out _).mono ?_
  rintro _ wz ⟨rfl,hwz⟩
  replace hwz:=hwz.symm
  subst hwz
  go_wp2
  refine bodyPost_ret (v:=.agg #[.float .f64 (wd l),.float .f64 (wd h)]) (by simp [results,Tryz.results118,go_sem,e0,e1]) rfl ⟨rfl,hbe⟩
theorem run_prodN {P:Program} (t:TypeId) {p q:Int} {x y:Nat} (hx:FW p x) (hy:FW q y) (h:cls (fprod p q) ≠ 4) (w:World):(binOp .mul t (.float .f64 x) (.float .f64 y)).run P w=.ok (.float .f64 (wd (fprod p q))) w:=by
  obtain ⟨z,w',hrun,hz⟩:=run_farith (P:=P) .mul (.inr (.inr (.inl rfl))) t x y w
  have hf:floatBits .mul .f64 x y=Ieee.double.mul x y:=rfl
  rw [hf] at hz
  rcases mul_FW hx hy with ⟨z',e1,e2⟩ | ⟨_,e2⟩
  . rcases hz with ⟨h1,h2⟩ | ⟨h1,_⟩
    . rw [e1] at h1
      cases h1
      rw [hrun,h2,(e2.of h).2.1]
    . rw [e1] at h1; cases h1
  . exact absurd (by rw [e2]; decide) h
theorem key_pos0 {p:Int} (h:nn p) (h0:rg p ≠ 0):FloatKind.f64.format.order (wd p) 0=some .lt∨FloatKind.f64.format.order (wd p) 0=some .gt:=by
  have n0:=nn0.1
  have w0:wd 0=0:=by decide
  have k0:key 0=0:=by decide
  have hk:key p ≠ 0:=by
    have:=nn_rg h
    unfold key
    unfold rg at h0 this
    split at h0 <;> simp_all <;> omega
  rcases Int.lt_or_gt_of_ne hk with q | q
  . left
    have:=q_lt h.1 n0.1 h.2 n0.2 (by rw [k0]; exact q)
    rwa [w0] at this
  . right
    have:=q_gt h.1 n0.1 h.2 n0.2 (by rw [k0]; exact q)
    rwa [w0] at this
theorem key_zero0 {p:Int} (h:nn p) (h0:rg p=0):FloatKind.f64.format.order (wd p) 0=some .eq:=by
  have n0:=nn0.1
  have w0:wd 0=0:=by decide
  have k0:key 0=0:=by decide
  have hk:key p=0:=by
    unfold key
    unfold rg at h0
    split at h0 <;> simp_all
  have:=q_eq h.1 n0.1 h.2 n0.2 (by rw [k0]; exact hk)
  rwa [w0] at this
set_option maxRecDepth 100000 in
set_option maxHeartbeats 1000000 in
theorem product_zero {p q:Int} (hp:nn p) (hq:nn q) (h0:rg p=0∨rg q=0) (w:World) :
    Calls Tryz.prog 83 #[.float .f64 (wd p),.float .f64 (wd q)] w fun e w'=>e=.returned (ivl 0 0)∧Below w.heap.size w w':=by
  have hcv:=cv64
  have w0:wd 0=0:=by decide
  unfold ivl
  rw [w0]
  have hba:=bel_alloc w (.cells #[.float .f64 0,.float .f64 0] 100)
  obtain ⟨z,w1,hrun,hz,hw1⟩:=run_fprod (P:=Tryz.prog) 60 (FW.pat hp.2 hp.1) (FW.pat hq.2 hq.1) (w.alloc (.cells #[.float .f64 0,.float .f64 0] 100))
  have hb1:Below (w.alloc (.cells #[.float .f64 0,.float .f64 0] 100)).heap.size (w.alloc (.cells #[.float .f64 0,.float .f64 0] 100)) w1:=by
    rcases hw1 with rfl | rfl
    . exact bel_refl _
    . exact (bel_refl _).drew
  obtain ⟨s0,s1,e0,e1,hbe⟩:=fin2 hb1 0 0
  by_cases hp0:rg p=0
  . have o:=key_zero0 hp hp0
    generalize wd p=x at *
    generalize wd q=y at *
    clear hw1
    go_enter Tryz.func83,Tryz.ntmps83
    go_wp2
    refine bodyPost_ret (v:=.agg #[.float .f64 0,.float .f64 0]) (by simp [results,Tryz.results83,go_sem,e0,e1]) rfl ⟨rfl,hbe⟩
  . have hq0:rg q=0:=by omega
    have o2:=key_zero0 hq hq0
    rcases key_pos0 hp hp0 with o | o
    all_goals
      generalize wd p=x at *
      generalize wd q=y at *
      clear hw1
      go_enter Tryz.func83,Tryz.ntmps83
      go_wp2
      refine bodyPost_ret (v:=.agg #[.float .f64 0,.float .f64 0]) (by simp [results,Tryz.results83,go_sem,e0,e1]) rfl ⟨rfl,hbe⟩
set_option maxRecDepth 100000 in
set_option maxHeartbeats 1000000 in
theorem product_deep {p q:Int} (hp:nn p) (hq:nn q) (p0:rg p ≠ 0) (q0:rg q ≠ 0) (hn:nn (fprod p q)) (hd:rg (fprod p q) < 283726776524341248) (w:World) (H:Hold4 w) :
    Calls Tryz.prog 83 #[.float .f64 (wd p),.float .f64 (wd q)] w fun e w'=>e=.returned (ivl (mulP 1 p q) (mulP 2 p q))∧Below w.heap.size w w':=by
  have hcv:=cv64
  have hba:=bel_alloc w (.cells #[.float .f64 0,.float .f64 0] 100)
  have CD:Hid (∀ W,Hold4 W->Calls Tryz.prog 118 #[.int .i64 p,.int .i64 q] W fun e w'=>e=.returned (.agg #[.float .f64 (wd (mulP 1 p q)),.float .f64 (wd (mulP 2 p q))])∧Below W.heap.size W w'):=fun W h=>deepProd_any hp.1 hq.1 W h
  have CP:Hid (∀ W,Calls Tryz.prog 49 #[.float .f64 (wd p)] W fun e w'=>e=.returned (.int .i64 p)∧w'=W):=fun W=>of_FW (FW.pat hp.2 hp.1) W
  have CQ:Hid (∀ W,Calls Tryz.prog 49 #[.float .f64 (wd q)] W fun e w'=>e=.returned (.int .i64 q)∧w'=W):=fun W=>of_FW (FW.pat hq.2 hq.1) W
  have CA:Hid (∀ W,Calls Tryz.prog 27 #[.float .f64 (wd (fprod p q))] W fun e w'=>e=.returned (.float .f64 (wd (rg (fprod p q))))∧w'=W):=fun W=>mathAbs hn.1 W
  have hrun:∀ W,(binOp .mul 60 (.float .f64 (wd p)) (.float .f64 (wd q))).run Tryz.prog W=.ok (.float .f64 (wd (fprod p q))) W:=fun W=>run_prodN _ (FW.pat hp.2 hp.1) (FW.pat hq.2 hq.1) hn.2 W
  have od:FloatKind.f64.format.order (wd (rg (fprod p q))) 283726776524341248=some .lt:=by
    obtain ⟨a1,a2⟩:=q_rg hn.1
    have ca:¬ cls (rg (fprod p q))=4:=by rw [q_cls hn.1]; exact hn.2
    have:=q_lt a1 (show rng 283726776524341248 by unfold rng; omega) ca (by decide) (by rw [q_key a2,show key 283726776524341248=283726776524341248 by decide]; exact hd)
    rwa [show wd 283726776524341248=283726776524341248 by decide] at this
  have o1:=key_pos0 hp p0
  have o2:=key_pos0 hq q0
  unfold ivl
  generalize wd (mulP 1 p q)=U at *
  generalize wd (mulP 2 p q)=V at *
  generalize wd (rg (fprod p q))=A at *
  generalize wd (fprod p q)=N at *
  generalize wd p=x at *
  generalize wd q=y at *
  rcases o1 with o1 | o1 <;> rcases o2 with o2 | o2
  all_goals
    go_enter Tryz.func83,Tryz.ntmps83
    go_wp2_with fail
    refine (CA.out _).mono ?_
    rintro _ wz ⟨rfl,hwz⟩
    replace hwz:=hwz.symm
    subst hwz
    go_wp2_with fail
    refine (CP.out _).mono ?_
    rintro _ wz ⟨rfl,hwz⟩
    replace hwz:=hwz.symm
    subst hwz
    go_wp2_with fail
    refine (CQ.out _).mono ?_
    rintro _ wz ⟨rfl,hwz⟩
    replace hwz:=hwz.symm
    subst hwz
    go_wp2_with fail
    refine (CD.out _ (H.keeps hba)).mono ?_
    rintro _ w3 ⟨rfl,hb3⟩
    obtain ⟨s0,s1,e0,e1,hbe⟩:=fin2 hb3 U V
    go_wp2
    refine bodyPost_ret (v:=.agg #[.float .f64 U,.float .f64 V]) (by simp [results,Tryz.results83,go_sem,e0,e1]) rfl ⟨rfl,hbe⟩
set_option maxRecDepth 100000 in
set_option maxHeartbeats 1000000 in
theorem product_be {p q:Int} (hp:nn p) (hq:nn q) (p0:rg p ≠ 0) (q0:rg q ≠ 0) (hn:nn (fprod p q)) (hd:283726776524341248 <= rg (fprod p q)) (w:World) :
    Calls Tryz.prog 83 #[.float .f64 (wd p),.float .f64 (wd q)] w fun e w'=>e=.returned (ivl (beLo (fprod p q) (ffma p q (neg (fprod p q)))) (beHi (fprod p q) (ffma p q (neg (fprod p q)))))∧Below w.heap.size w w':=by
  have hcv:=cv64
  have hba:=bel_alloc w (.cells #[.float .f64 0,.float .f64 0] 100)
  have CA:Hid (∀ W,Calls Tryz.prog 27 #[.float .f64 (wd (fprod p q))] W fun e w'=>e=.returned (.float .f64 (wd (rg (fprod p q))))∧w'=W):=fun W=>mathAbs hn.1 W
  have hrun:∀ W,(binOp .mul 60 (.float .f64 (wd p)) (.float .f64 (wd q))).run Tryz.prog W=.ok (.float .f64 (wd (fprod p q))) W:=fun W=>run_prodN _ (FW.pat hp.2 hp.1) (FW.pat hq.2 hq.1) hn.2 W
  have hneg:∀ W,(Op.unary UnOp.neg (.float .f64 (wd (fprod p q)))).run Tryz.prog W=.ok (.float .f64 (wd (neg (fprod p q)))) W:=fun W=>run_negF hn W
  have nm:=(nn_neg hn).1
  obtain ⟨L,w1,rF,hL,hw1⟩:=run_ffma (FW.pat hp.2 hp.1) (FW.pat hq.2 hq.1) (FW.pat nm.2 nm.1) (w.alloc (.cells #[.float .f64 0,.float .f64 0] 100))
  have hb1:Below (w.alloc (.cells #[.float .f64 0,.float .f64 0] 100)).heap.size (w.alloc (.cells #[.float .f64 0,.float .f64 0] 100)) w1:=by
    rcases hw1 with rfl | rfl
    . exact bel_refl _
    . exact (bel_refl _).drew
  have CB:Hid (∀ W,Calls Tryz.prog 119 #[.float .f64 (wd (fprod p q)),.float .f64 L] W fun e w'=>e=.returned (.agg #[.float .f64 (wd (beLo (fprod p q) (ffma p q (neg (fprod p q))))),.float .f64 (wd (beHi (fprod p q) (ffma p q (neg (fprod p q)))))])∧Below W.heap.size W w'):=fun W=>beside_any hn hL W
  have od:FloatKind.f64.format.order (wd (rg (fprod p q))) 283726776524341248=some .gt∨FloatKind.f64.format.order (wd (rg (fprod p q))) 283726776524341248=some .eq:=by
    obtain ⟨a1,a2⟩:=q_rg hn.1
    have ca:¬ cls (rg (fprod p q))=4:=by rw [q_cls hn.1]; exact hn.2
    have w9:wd 283726776524341248=283726776524341248:=by decide
    have k9:key 283726776524341248=283726776524341248:=by decide
    by_cases e:rg (fprod p q)=283726776524341248
    . right
      have:=q_eq a1 (show rng 283726776524341248 by unfold rng; omega) ca (by decide) (by rw [q_key a2,k9]; exact e)
      rwa [w9] at this
    . left
      have:=q_gt a1 (show rng 283726776524341248 by unfold rng; omega) ca (by decide) (by rw [q_key a2,k9]; omega)
      rwa [w9] at this
  have o1:=key_pos0 hp p0
  have o2:=key_pos0 hq q0
  unfold ivl
  generalize wd (beLo (fprod p q) (ffma p q (neg (fprod p q))))=U at *
  generalize wd (beHi (fprod p q) (ffma p q (neg (fprod p q))))=V at *
  generalize wd (rg (fprod p q))=A at *
  generalize wd (neg (fprod p q))=M at *
  generalize wd (fprod p q)=N at *
  generalize wd p=x at *
  generalize wd q=y at *
  clear hw1 hL hd
  rcases o1 with o1 | o1 <;> rcases o2 with o2 | o2 <;> rcases od with od | od
  all_goals
    go_enter Tryz.func83,Tryz.ntmps83
    go_wp2_with fail
    refine (CA.out _).mono ?_
    rintro _ wz ⟨rfl,hwz⟩
    replace hwz:=hwz.symm
    subst hwz
    go_wp2_with fail
    refine (CB.out _).mono ?_
    rintro _ w3 ⟨rfl,hb3⟩
    obtain ⟨s0,s1,e0,e1,hbe⟩:=fin2 (bel_trans hb1 hb3) U V
    go_wp2
    refine bodyPost_ret (v:=.agg #[.float .f64 U,.float .f64 V]) (by simp [results,Tryz.results83,go_sem,e0,e1]) rfl ⟨rfl,hbe⟩
theorem fx_fw {a b:Nat} {x:Int} (h:Fx a b x):FW x (wd x):=FW.pat (q_fin h.p) h.r
def aP (a b c:Int):Int:=fprod (fsum a (neg b)) (fsum c (neg b))
theorem dans_past {w w':World} {V:Int} {v:Value} (h:DAns w w' V v) (o:Obj):DAns w (w'.alloc o) V v:=h.stays (bel_alloc _ _)
set_option maxRecDepth 100000 in
set_option maxHeartbeats 2000000 in
theorem oapart_any {p q:Int} (pp:pok p=true) (pq:pok q=true) (w:World) (H:Hold4 w) :
    Calls Tryz.prog 41 #[.int .i64 p,.int .i64 q] w fun r w'=>∃ v,r=.returned v∧DAns w w' (patV p - patV q) v:=by
  have r_k:=heap_a1 w (.cells #[.bool false,.slice none 0 0,.int .i64 0] 32)
  have hb0:=bel_alloc w (.cells #[.bool false,.slice none 0 0,.int .i64 0] 32)
  have B1:=patV_bd pp
  have B2:=patV_bd pq
  go_enter Tryz.func41,Tryz.ntmps41
  go_wp2_with fail
  generalize w.alloc (.cells #[.bool false,.slice none 0 0,.int .i64 0] 32)=x0 at r_k hb0 ⊢
  have H:=H.keeps hb0
  refine (of_ok pp H).mono ?_
  rintro _ y1 ⟨v,rfl,h1⟩
  obtain ⟨x_g,x_o,x_n,x_c,x_e,rfl⟩:=dans_shape h1
  have hw1:=h1.below
  have x_D:=h1.num
  have H:=H.keeps hw1
  have r_k:=(hw1.block _ (Array.getElem?_eq_some_iff.1 r_k).1).trans r_k
  have hb1:=bel_trans hb0 hw1
  have r_k:=heap_past (.cells #[.bool x_g,.slice x_o x_n x_c,.int .i64 x_e] 32) r_k
  have x_k:=heap_a1 y1 (.cells #[.bool x_g,.slice x_o x_n x_c,.int .i64 x_e] 32)
  have x_D:=x_D.keeps (bel_alloc y1 (.cells #[.bool x_g,.slice x_o x_n x_c,.int .i64 x_e] 32))
  have H:=H.keeps (bel_alloc y1 (.cells #[.bool x_g,.slice x_o x_n x_c,.int .i64 x_e] 32))
  have hb2':=bel_trans hb1 (bel_alloc y1 (.cells #[.bool x_g,.slice x_o x_n x_c,.int .i64 x_e] 32))
  go_wp2_with fail
  generalize y1.alloc (.cells #[.bool x_g,.slice x_o x_n x_c,.int .i64 x_e] 32)=x2 at r_k x_k x_D H hb2' ⊢
  refine (of_ok pq H).mono ?_
  rintro _ y2 ⟨v,rfl,h2⟩
  obtain ⟨y_g,y_o,y_n,y_c,y_e,rfl⟩:=dans_shape h2
  have hw2:=h2.below
  have y_D:=h2.num
  have H:=H.keeps hw2
  have r_k:=(hw2.block _ (Array.getElem?_eq_some_iff.1 r_k).1).trans r_k
  have x_k:=(hw2.block _ (Array.getElem?_eq_some_iff.1 x_k).1).trans x_k
  have x_D:=x_D.keeps hw2
  have hb2:=bel_trans hb2' hw2
  have r_k:=heap_past (.cells #[.bool y_g,.slice y_o y_n y_c,.int .i64 y_e] 32) r_k
  have x_k:=heap_past (.cells #[.bool y_g,.slice y_o y_n y_c,.int .i64 y_e] 32) x_k
  have y_k:=heap_a1 y2 (.cells #[.bool y_g,.slice y_o y_n y_c,.int .i64 y_e] 32)
  have x_D:=x_D.keeps (bel_alloc y2 (.cells #[.bool y_g,.slice y_o y_n y_c,.int .i64 y_e] 32))
  have y_D:=y_D.keeps (bel_alloc y2 (.cells #[.bool y_g,.slice y_o y_n y_c,.int .i64 y_e] 32))
  have H:=H.keeps (bel_alloc y2 (.cells #[.bool y_g,.slice y_o y_n y_c,.int .i64 y_e] 32))
  have hb3':=bel_trans hb2 (bel_alloc y2 (.cells #[.bool y_g,.slice y_o y_n y_c,.int .i64 y_e] 32))
  have f_x0:=blkC x_k 0 rfl
  have f_x1:=blkC x_k 1 rfl
  have f_x2:=blkC x_k 2 rfl
  go_wp2_with fail
  clear f_x0 f_x1 f_x2
  generalize y2.alloc (.cells #[.bool y_g,.slice y_o y_n y_c,.int .i64 y_e] 32)=x3 at r_k x_k y_k x_D y_D H hb3' ⊢
  have hs0:=(Array.getElem?_eq_some_iff.1 r_k).1
  refine (sub_B x_D y_D B1 B2 (by omega) H.tab).mono ?_
  rintro _ y3 ⟨v,rfl,h3⟩
  obtain ⟨n_g,n_o,n_n,n_c,n_e,rfl⟩:=dans_shape h3
  have hw3:=h3.below
  have n_D:=h3.num
  have H:=H.keeps hw3
  have r_k:=(hw3.block _ (Array.getElem?_eq_some_iff.1 r_k).1).trans r_k
  have x_k:=(hw3.block _ (Array.getElem?_eq_some_iff.1 x_k).1).trans x_k
  have x_D:=x_D.keeps hw3
  have y_k:=(hw3.block _ (Array.getElem?_eq_some_iff.1 y_k).1).trans y_k
  have y_D:=y_D.keeps hw3
  have hb3:=bel_trans hb3' hw3
  have r_k:=heap_past (.cells #[.bool n_g,.slice n_o n_n n_c,.int .i64 n_e] 32) r_k
  have k0:=blkC r_k 0 rfl
  have k1:=blkC r_k 1 rfl
  have k2:=blkC r_k 2 rfl
  have z0:=blkF r_k 0
  have z1:=blkF r_k 1
  have z2:=blkF r_k 2
  go_wp2
  refine bodyPost_ret (v:=.agg #[.bool n_g,.slice n_o n_n n_c,.int .i64 n_e]) (by simp [results,Tryz.results41,go_sem,k0,k1,k2]) rfl ⟨_,rfl,?_⟩
  exact dans_res3 (g:=w.heap.size) (dans_past h3 _) (by assumption) (Nat.le_refl _) hs0 _ _ _
def RFit (w w':World) (V:Int) (v:Value) (er:Int):Prop:=DFit w w' V v er
theorem RFit.shape {w w':World} {V er:Int} {v:Value} (h:RFit w w' V v er):∃ ng so sn sc e,v=.agg #[.bool ng,.slice so sn sc,.int .i64 e]:=by
  exact DFit.shape h
theorem bd_form {K:Nat} {A:Int} {ng:Bool} {m e:Int} (h:Bd K A) (hy:Dy A ng m e) (hK:K <= 4194304) (h0:0 < m):-(K:Int) <= e∧e <= K∧m * 2 ^ (e + K).toNat < 2 ^ (2 * K):=by
  obtain ⟨c,hc,c1,c2⟩:=h
  have key:∀ (b:Bool) (C:Int),0 < C->C < 2 ^ (2 * K)->A=sg b C * pw (-(K:Int))->-(K:Int) <= e∧e <= K∧m * 2 ^ (e + K).toNat < 2 ^ (2 * K):=fun b C hC hlt hA=>by
    obtain ⟨l,hl⟩:=isLow_ex hC
    have hy2:=Dy.of b hl hC (show -4194304 <= -(K:Int) by omega)
    rw [<- hA] at hy2
    obtain ⟨_,rfl,rfl⟩:=hy.unique hy2
    obtain ⟨d1,d2,d3⟩:=isLow_odd hl hC
    have hl2:l < 2 * K:=by
      have h3:(1:Int) * 2 ^ l <= C / 2 ^ l * 2 ^ l:=Int.mul_le_mul_of_nonneg_right (by omega) (Int.le_of_lt (two_pos l))
      rw [d3] at h3
      exact two_lt_iff (by omega)
    refine ⟨by omega,by omega,?_⟩
    rw [show (-(K:Int) + l + K).toNat=l by omega,d3]
    exact hlt
  by_cases hz:c=0
  . exfalso
    rw [hz,Int.zero_mul] at hc
    have:=hy.eq_zero.1 hc
    omega
  . by_cases hp:0 < c
    . exact key false c hp c2 (by simpa [sg] using hc)
    . exact key true (-c) (by omega) (by omega) (by simpa [sg] using hc)
def RSum (w w':World) (A B:Int) (x y v:Value):Prop:=Below w.heap.size w w'∧(DAns w w' (A + B) v∨(A=0∧v=y)∨(B=0∧v=x))
theorem RSum.num {w w':World} {A B:Int} {x y v:Value} (h:RSum w w' A B x y v) (hx:DNum w x A) (hy:DNum w y B):DNum w' v (A + B):=by
  rcases h.2 with h1 | ⟨rfl,rfl⟩ | ⟨rfl,rfl⟩
  . exact h1.num
  . rw [Int.zero_add]; exact hy.keeps h.1
  . rw [Int.add_zero]; exact hx.keeps h.1
theorem Num.digits {w:World} {so:Option Addr} {sn sc:Nat} {M:Int} (h:Num w (.slice so sn sc) M) {K:Nat} (hK:K <= 560000) (hM:M < 2 ^ (2 * K) + 2 ^ (2 * K)):∃ d,Row w so sn sc d∧Nrm d sn∧val d sn=M∧sn <= 37500:=by
  obtain ⟨ao,n,ca,d,e,hR,hN,hv⟩:=h
  simp only [Value.slice.injEq] at e
  obtain ⟨rfl,rfl,rfl⟩:=e
  refine ⟨d,hR,hN,hv,?_⟩
  by_cases h1:sn <= 37500
  . exact h1
  . exfalso
    have a:=val_top hN.1 (by omega) hN.2
    have b:=P_le (show 37500 <= sn - 1 by omega)
    have c:(2:Int) ^ (2 * K) <= 2 ^ (30 * 37400):=two_le (by omega)
    have c2:(2:Int) ^ (30 * 37400) * 2 <= 2 ^ (30 * 37500):=by
      rw [<- Int.pow_succ]
      exact two_le (by omega)
    rw [<- P_two 37500] at c2
    generalize P 37500=Y at *
    generalize (2:Int) ^ (30 * 37400)=Z at *
    omega
def Lies (v:Value) (x y:Nat):Prop:=∀ g,v.ownBlock=some g->x <= g∧g < y
def DAn (B:Nat) (w:World) (V:Int) (v:Value):Prop:=∃ ng s m e,v=.agg #[.bool ng,s,.int .i64 e]∧Dy V ng m e∧An B w s m
def DFitA (B:Nat) (w:World) (V:Int) (v:Value) (er:Int):Prop:=(Dok V∧er=0∧DAn B w V v)∨(¬ Dok V∧er=2∧v=zeroV)
theorem DAns.dan {w w':World} {V:Int} {v:Value} (h:DAns w w' V v):DAn w.heap.size w' V v:=by
  obtain ⟨ng,s,m,e,h1,h2,h3⟩:=h
  exact ⟨ng,s,m,e,h1,h2,h3.an⟩
theorem An.wr {B:Nat} {w w':World} {v:Value} {V:Int} {g:Nat} (h:An B w v V) (hw:Wr g w w') (hg:g < B):An B w' v V:=by
  obtain ⟨t,d,h1,h2⟩:=h
  exact ⟨t,d,h1.of_block fun g' hg'=>hw.block g' (h1.ge hg').2 (by have:=(h1.ge hg').1; omega),h2⟩
theorem DAn.wr {B:Nat} {w w':World} {v:Value} {V:Int} {g:Nat} (h:DAn B w V v) (hw:Wr g w w') (hg:g < B):DAn B w' V v:=by
  obtain ⟨ng,s,m,e,h1,h2,h3⟩:=h
  exact ⟨ng,s,m,e,h1,h2,h3.wr hw hg⟩
theorem DAn.keeps {B:Nat} {w w':World} {v:Value} {V:Int} (h:DAn B w V v) (k:Below w.heap.size w w'):DAn B w' V v:=by
  obtain ⟨ng,s,m,e,h1,h2,h3⟩:=h
  exact ⟨ng,s,m,e,h1,h2,h3.keeps k⟩
theorem DAn.lower {B B':Nat} {w:World} {v:Value} {V:Int} (h:DAn B w V v) (hB:B' <= B):DAn B' w V v:=by
  obtain ⟨ng,s,m,e,h1,h2,h3⟩:=h
  exact ⟨ng,s,m,e,h1,h2,h3.lower hB⟩
theorem DAn.num {B:Nat} {w:World} {v:Value} {V:Int} (h:DAn B w V v):DNum w v V:=by
  obtain ⟨ng,s,m,e,h1,h2,h3⟩:=h
  exact ⟨ng,s,m,e,h1,h2,h3.num⟩
theorem DFitA.wr {B:Nat} {w w':World} {v:Value} {V er:Int} {g:Nat} (h:DFitA B w V v er) (hw:Wr g w w') (hg:g < B):DFitA B w' V v er:=by
  rcases h with ⟨h1,h2,h3⟩ | h
  . exact .inl ⟨h1,h2,h3.wr hw hg⟩
  . exact .inr h
theorem DFitA.keeps {B:Nat} {w w':World} {v:Value} {V er:Int} (h:DFitA B w V v er) (k:Below w.heap.size w w'):DFitA B w' V v er:=by
  rcases h with ⟨h1,h2,h3⟩ | h
  . exact .inl ⟨h1,h2,h3.keeps k⟩
  . exact .inr h
theorem DFitA.lower {B B':Nat} {w:World} {v:Value} {V er:Int} (h:DFitA B w V v er) (hB:B' <= B):DFitA B' w V v er:=by
  rcases h with ⟨h1,h2,h3⟩ | h
  . exact .inl ⟨h1,h2,h3.lower hB⟩
  . exact .inr h
theorem DFitA.shape {B:Nat} {w:World} {v:Value} {V er:Int} (h:DFitA B w V v er):∃ ng so sn sc e,v=.agg #[.bool ng,.slice so sn sc,.int .i64 e]:=by
  rcases h with ⟨_,_,ng,s,m,e,h1,_,h3⟩ | ⟨_,_,rfl⟩
  . obtain ⟨so,sn,sc,rfl⟩:=h3.shape
    exact ⟨_,_,_,_,_,h1⟩
  . exact ⟨_,_,_,_,_,rfl⟩
theorem DFitA.ge {B:Nat} {w:World} {ng:Bool} {so:Option Addr} {sn sc:Nat} {e V er:Int} (h:DFitA B w V (.agg #[.bool ng,.slice so sn sc,.int .i64 e]) er):Lies (.slice so sn sc) B w.heap.size:=by
  intro g hg
  rcases h with ⟨_,_,ng',s,m,e',h1,_,h3⟩ | ⟨_,_,h1⟩
  . simp only [Value.agg.injEq,Array.mk.injEq,List.cons.injEq,Value.bool.injEq,Value.int.injEq,and_true,true_and] at h1
    obtain ⟨_,h1,_⟩:=h1
    rw [<- h1] at h3
    exact h3.ge hg
  . simp only [zeroV,Value.agg.injEq,Array.mk.injEq,List.cons.injEq,Value.bool.injEq,Value.int.injEq,Value.slice.injEq,and_true,true_and] at h1
    obtain ⟨_,⟨rfl,_,_⟩,_⟩:=h1
    simp [Value.ownBlock] at hg
theorem DAn.parts {B:Nat} {w:World} {ng:Bool} {so:Option Addr} {sn sc:Nat} {e V:Int} (h:DAn B w V (.agg #[.bool ng,.slice so sn sc,.int .i64 e])):∃ m,Dy V ng m e∧An B w (.slice so sn sc) m:=by
  obtain ⟨ng',s,m,e',h1,h2,h3⟩:=h
  simp only [Value.agg.injEq,Array.mk.injEq,List.cons.injEq,Value.bool.injEq,Value.int.injEq,and_true,true_and] at h1
  obtain ⟨rfl,rfl,rfl⟩:=h1
  exact ⟨m,h2,h3⟩
theorem RSum.shape {w w':World} {A B:Int} {x y:NumR} {v:Value} (h:RSum w w' A B x.v y.v v):∃ ng so sn sc e,v=.agg #[.bool ng,.slice so sn sc,.int .i64 e]:=by
  rcases h.2 with ⟨ng,s,m,e,rfl,_,hA⟩ | ⟨_,rfl⟩ | ⟨_,rfl⟩
  . obtain ⟨so,sn,sc,rfl⟩:=hA.num.shape
    exact ⟨_,_,_,_,_,rfl⟩
  . exact ⟨_,_,_,_,_,rfl⟩
  . exact ⟨_,_,_,_,_,rfl⟩
def cells3 (f:Nat->Value):Nat->List Value
  | 0=>[]
  | m + 1=>cells3 f m ++ (f m).cells.toList
def Three (v:Value):Prop:=∃ ng so sn sc e,v=.agg #[.bool ng,.slice so sn sc,.int .i64 e]
theorem DAn.three {B:Nat} {w:World} {V:Int} {v:Value} (h:DAn B w V v):Three v:=by
  obtain ⟨ng,s,m,e,rfl,_,hA⟩:=h
  obtain ⟨so,sn,sc,rfl⟩:=hA.shape
  exact ⟨_,_,_,_,_,rfl⟩
theorem cells3_length {f:Nat->Value}:∀ m,(∀ i,i < m->Three (f i))->(cells3 f m).length=m * 3
  | 0,_=>rfl
  | m + 1,h=>by
    obtain ⟨ng,so,sn,sc,e,he⟩:=h m (by omega)
    rw [cells3,List.length_append,cells3_length m fun i hi=>h i (by omega),he]
    simp [Value.cells]
    omega
theorem cells3_at {f:Nat->Value}:∀ m,(∀ i,i < m->Three (f i))->∀ i j,i < m->j < 3->(cells3 f m)[i * 3 + j]?=(f i).cells[j]?
  | 0,_,i,j,hi,_=>by omega
  | m + 1,h,i,j,hi,hj=>by
    have hl:=cells3_length m fun i hi=>h i (by omega)
    rw [cells3]
    by_cases e:i=m
    . subst e
      rw [List.getElem?_append_right (by omega),hl,show i * 3 + j - i * 3=j by omega]
      simp
    . rw [List.getElem?_append_left (by omega)]
      exact cells3_at m (fun i hi=>h i (by omega)) i j (by omega) hj
def OutN (B:Nat) (w:World) (x:Value) (m:Nat) (f:Nat->Value):Prop:=w.ownsRow B 32 3 x m (cells3 f m)
theorem OutN.nil (B:Nat) (w:World) (f:Nat->Value):OutN B w (.slice none 0 0) 0 f:=⟨rfl,.inl ⟨rfl,rfl⟩⟩
theorem OutN.of_block {B:Nat} {w w':World} {x:Value} {m:Nat} {f:Nat->Value} (h:OutN B w x m f) (hb:∀ g,x.ownBlock=some g->w'.heap[g]?=w.heap[g]?):OutN B w' x m f:=by
  refine ⟨h.1,?_⟩
  rcases h.2 with hn | ⟨g,cap,cur,rfl,hbb,hg,rest⟩
  . exact .inl hn
  . exact .inr ⟨g,cap,cur,rfl,hbb,(hb g rfl).trans hg,rest⟩
theorem OutN.typed {B:Nat} {w:World} {x:Value} {m:Nat} {f:Nat->Value} (h:OutN B w x m f) {g:Nat} (hg:x.ownBlock=some g):B <= g∧g < w.heap.size∧∃ cur z,w.heap[g]?=some (.cells cur 32 z):=by
  rcases h.2 with ⟨rfl,_⟩ | ⟨g',cap,cur,rfl,hbb,hg',rest⟩
  . simp [Value.ownBlock] at hg
  . simp only [Value.ownBlock,Option.some.injEq] at hg; subst hg; exact ⟨hbb,(Array.getElem?_eq_some_iff.1 hg').1,cur,_,hg'⟩
theorem OutN.keeps {B:Nat} {w w':World} {x:Value} {m:Nat} {f:Nat->Value} (h:OutN B w x m f) (hb:Below w.heap.size w w'):OutN B w' x m f:=h.of_block fun g hg=>hb.block g (h.typed hg).2.1
theorem OutN.shape {B:Nat} {w:World} {x:Value} {m:Nat} {f:Nat->Value} (h:OutN B w x m f):∃ xo xc,x=.slice xo m xc∧m <= xc∧(0 < m->∃ g,xo=some ⟨g,0,none⟩):=by
  rcases h.2 with ⟨rfl,rfl⟩ | ⟨g,cap,cur,rfl,hb,hg,hn,hm,_⟩
  . exact ⟨none,0,rfl,Nat.le_refl _,fun h=>by omega⟩
  . exact ⟨_,cap,rfl,hn,fun _=>⟨g,rfl⟩⟩
theorem OutN.cell {B:Nat} {w:World} {xo:Option Addr} {m xc g:Nat} {f:Nat->Value} (h:OutN B w (.slice xo m xc) m f) (ht:∀ i,i < m->Three (f i)) (hx:xo=some ⟨g,0,none⟩) {i j:Nat} (hi:i < m) (hj:j < 3):w.cell? ⟨g,i * 3 + j,none⟩=(f i).cells[j]?:=by
  rcases h.2 with ⟨_,rfl⟩ | ⟨g',cap,cur,e,hb,hg,hn,hm,hs,ht'⟩
  . omega
  . simp only [Value.slice.injEq] at e
    obtain ⟨rfl,_,rfl⟩:=e
    simp only [Option.some.injEq,Addr.mk.injEq] at hx
    obtain ⟨rfl,_⟩:=hx
    rw [cell_of_row w g' (i * 3 + j) cur _ _ hg,<- cells3_at m ht i j hi hj,<- ht',List.getElem?_take_of_lt (by omega)]
    simp
theorem DAn.of_blocks {B:Nat} {w w':World} {V:Int} {v:Value} (h:DAn B w V v) (hb:∀ (g:Nat) (cur:Array Value) z,w.heap[g]?=some (.cells cur 3 z)->w'.heap[g]?=w.heap[g]?):DAn B w' V v:=by
  obtain ⟨ng,s,m,e,h1,h2,t,d,hO,h3⟩:=h
  exact ⟨ng,s,m,e,h1,h2,t,d,hO.of_block fun g hg=>by obtain ⟨cur,z,hc⟩:=hO.typed hg; exact hb g cur z hc,h3⟩
structure LS (B:Nat) (w:World) (N:Nat) (X:Nat->Value) (M:Nat->Nat) (F:Nat->Nat->Value):Prop where
  own:∀ j,j < N->OutN B w (X j) (M j) (F j)
  ne:∀ i j,i < N->j < N->i ≠ j->∀ g,(X i).ownBlock=some g->(X j).ownBlock ≠ some g
theorem LS.keeps {B:Nat} {w w':World} {N:Nat} {X:Nat->Value} {M:Nat->Nat} {F:Nat->Nat->Value} (h:LS B w N X M F) (hb:Below w.heap.size w w'):LS B w' N X M F:=⟨fun j hj=>(h.own j hj).keeps hb,h.ne⟩
theorem LS.put {B:Nat} {w w':World} {N:Nat} {X:Nat->Value} {M:Nat->Nat} {F:Nat->Nat->Value} (h:LS B w N X M F) (j0:Nat) {row:Option Nat} (hg:w.grownBy w' row) {v':Value} {M':Nat} {F':Nat->Value} (hO:OutN B w' v' M' F') (h1:∀ j,j < N->j ≠ j0->∀ g,(X j).ownBlock=some g->row ≠ some g) (h2:∀ j,j < N->j ≠ j0->∀ g,(X j).ownBlock=some g->v'.ownBlock ≠ some g) :
    LS B w' N (updV X j0 v') (updV M j0 M') (updV F j0 F'):=by
  refine ⟨fun j hj=>?_,fun i j hi hj hij g hgi=>?_⟩
  . by_cases e:j=j0
    . subst e; rw [updV_same,updV_same,updV_same]; exact hO
    . rw [updV_other _ _ e,updV_other _ _ e,updV_other _ _ e]
      exact (h.own j hj).of_block fun g hgx=>hg.block g ((h.own j hj).typed hgx).2.1 fun e'=>h1 j hj e g hgx e'.symm
  . by_cases e:i=j0
    . subst e
      rw [updV_same] at hgi
      rw [updV_other _ _ (Ne.symm hij)]
      exact fun hgj=>h2 j hj (Ne.symm hij) g hgj hgi
    . rw [updV_other _ _ e] at hgi
      by_cases e2:j=j0
      . subst e2
        rw [updV_same]
        exact h2 i hi e g hgi
      . rw [updV_other _ _ e2]
        exact h.ne i j hi hj hij g hgi
theorem LS.row {B:Nat} {w:World} {N:Nat} {X:Nat->Value} {M:Nat->Nat} {F:Nat->Nat->Value} (h:LS B w N X M F) {j:Nat} (hj:j < N):∀ g,(X j).ownBlock=some g->∃ (cur:Array Value) (z:Nat × Nat),w.heap[g]?=some (Obj.cells cur 32 z):=fun g hg=>(((h.own j hj).typed hg).2.2)
theorem LS.ge {B:Nat} {w:World} {N:Nat} {X:Nat->Value} {M:Nat->Nat} {F:Nat->Nat->Value} (h:LS B w N X M F) {j:Nat} (hj:j < N):∀ g,(X j).ownBlock=some g->B <= g:=fun g hg=>((h.own j hj).typed hg).1
theorem OutN.nums {B:Nat} {w:World} {xo:Option Addr} {m xc:Nat} {f:Nat->Value} {r:Nat->NumR} (h:OutN B w (.slice xo m xc) m f) (hm:m <= 100000) (hr:∀ i,i < m->f i=(r i).v∧Row w (r i).ao (r i).n (r i).cap (r i).d):∃ c2,xc=c2∧Nums w xo m xc r:=by
  have ht:∀ i,i < m->Three (f i):=fun i hi=>⟨_,_,_,_,_,(hr i hi).1⟩
  refine ⟨xc,rfl,?_⟩
  obtain ⟨xo',xc',e,hle,hsp⟩:=h.shape
  simp only [Value.slice.injEq] at e
  obtain ⟨rfl,_,rfl⟩:=e
  refine ⟨hle,?_,fun hm0=>?_⟩
  . rcases h.2 with ⟨e,_⟩ | ⟨g,cap,cur,e,hb,hg,hn,hmx,hs,_⟩
    . simp only [Value.slice.injEq] at e; omega
    . simp only [Value.slice.injEq] at e
      obtain ⟨_,_,rfl⟩:=e
      unfold maxLen at hmx
      omega
  . obtain ⟨g,rfl⟩:=hsp hm0
    have hlt:g < w.heap.size:=(h.typed (g:=g) rfl).2.1
    refine ⟨g,0,rfl,hlt,fun i hi=>?_⟩
    obtain ⟨h1,h2⟩:=hr i hi
    have c:=fun j (hj:j < 3)=>h.cell ht rfl hi (j:=j) hj
    rw [h1] at c
    rw [Nat.zero_add]
    exact ⟨c 0 (by decide),c 1 (by decide),c 2 (by decide),h2⟩
def Src (B:Nat) (w:World) (n:Nat) (r:Nat->NumR) (V:Int) (v:Value):Prop:=DAn B w V v∨∃ i,i < n∧v=(r i).v∧V=(r i).V
theorem Src.keeps {B:Nat} {w w':World} {n:Nat} {r:Nat->NumR} {V:Int} {v:Value} (h:Src B w n r V v) (hb:Below w.heap.size w w'):Src B w' n r V v:=by
  rcases h with h | h
  . exact .inl (h.keeps hb)
  . exact .inr h
theorem ints_set3 {w:World} {g o0 o1 o2:Nat} {xs:Array Value} {z:Nat × Nat} (hg:w.heap[g]?=some (.cells xs 32 z)) (x y u:Value):∀ (g':Nat) (cur:Array Value) z',w.heap[g']?=some (.cells cur 3 z')->(((w.setCell ⟨g,o0,none⟩ x).setCell ⟨g,o1,none⟩ y).setCell ⟨g,o2,none⟩ u).heap[g']?=w.heap[g']?:=fun g' cur z' hc=>by
  refine (wr3 w g o0 o1 o2 x y u).block g' (Array.getElem?_eq_some_iff.1 hc).1 fun e=>?_
  subst e
  rw [hg] at hc
  simp at hc
end Go.Proofs.YtafnigjehkpggaaGreatDoor
