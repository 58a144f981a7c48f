/- Parts of the proof. -/
import Derived.Test.YteglfnnbpilheaaGreatDoorPart2
import Derived.WalkMore
import Derived.ScopeJumps
import Derived.Deep.LoopGhost
set_option linter.unusedVariables false
set_option linter.unusedSimpArgs false
namespace Go.Proofs.YteglfnnbpilheaaGreatDoor
open Go Go.RowKit Go.Proofs.YteglfnnbpilheaaGreatDoor.M
set_option maxHeartbeats 4000000 in
theorem divide_gen (ao bo:Option Addr) (n m ca cb:Nat) (a b:Nat->Int) (w:World) (ha:Row w ao n ca a) (hb:Row w bo m cb b) (na:Nrm a n) (nb:Nrm b m) (hn:n <= 5000) (hm:m <= n) (h2:2 <= m) (hle:val b m <= val a n) :
    Calls Tryz.prog 127 #[.slice ao n ca,.slice bo m cb] w fun e w'=>∃ v1 v2,e=.returned (.tuple #[v1,v2])∧Ans2 w w' (val a n / val b m) v1 (val a n % val b m) v2:=by
  have hla:=ha.le
  have hma:=ha.max
  have hlb:=hb.le
  have hmb:=hb.max
  have ho:decide (ord (val a n) (val b m) < 0)=false:=decide_eq_false (ord_ge hle)
  have HL:Hid (val b m <= val a n):=hle
  clear hle
  obtain ⟨bb,fb,rfl,hbb,hcb⟩:=hb.spot (by omega)
  have dk:=nb.1 (m - 1) (by omega)
  have hbl:blen (b (m - 1)) <= 30:=blen_le (by show b (m - 1) < 1073741824; exact dk.2)
  obtain ⟨s,hs⟩:∃ s:Nat,(30:Int) - (blen (b (m - 1)):Int)=s:=⟨30 - blen (b (m - 1)),by omega⟩
  have hs30:s <= 30:=by omega
  have hwr:IntKind.i64.wrap ((n:Int) + 1)=(n:Int) + 1:=by rw [wrap_i64_eq]; omega
  have hmk:∀ w':World,(Instr.makeSlice 24 (.int .i64 ((n:Int) + 1)) (.int .i64 ((n:Int) + 1))).run Tryz.prog w'=.ok (.slice (some ⟨w'.heap.size,0,none⟩) (n + 1) (n + 1)) (w'.alloc (.cells (madeCells #[.int .i64 0] (n + 1)) 3)):=by
    intro w'
    exact Go.run_make_row' 24 3 (.int .i64 0) 8 Tryz.underlying24 info_int rfl .i64 .i64 (n + 1) (by omega) (by omega) w'
  go_enter Tryz.func127,Tryz.ntmps127
  go_wp2_with fail
  refine (compare_any _ _ _ _ _ _ _ _ _ ha hb na nb).mono ?_
  rintro e w1 ⟨rfl,b1⟩
  have c1:=(b1.cell (p:=⟨bb,fb + (m - 1),none⟩) hbb).trans (hcb (m - 1) (by omega))
  go_wp2_with fail
  refine (width_any _ _ dk.1 (by omega)).mono ?_
  rintro e w2 ⟨rfl,rfl⟩
  have hbr:=hb.keeps b1
  go_upto_region 8 with (fail)
  go_cut [8,9] from 40 to 46 (fun sr sb wx=>Cut8 w n (val b m * 2 ^ s) sr sb wx)
  case first=>
    go_region_with (go_at_call 109; refine (raise_any _ _ _ s b _ (by first | exact hbr.drew | exact (hbr.alloc _).drew) nb.1 (by omega) (by omega)).mono ?_; rintro e w3 ⟨v,rfl,hv⟩)
    all_goals (go_wp2_with fail; go_meet; first | exact cut8_a b1 (by assumption) | exact cut8_b b1 (by assumption) rfl)
  case rest=>
    have hbx:blen (b (m - 1)) + s=30:=by omega
    clear hmk hwr ho hs c1 hbl
    obtain ⟨g,rfl,hgw,hB0,hbc,byo,bcap,t,v,rfl,hX,hNv,hVv⟩:=hcut
    obtain ⟨rfl,htop⟩:=norm_div nb (by omega) (by omega) hNv hVv
    have HVv:Hid (val v t=val b t * 2 ^ s):=hVv
    clear hVv
    go_wp2_with fail
    refine (raise_any _ _ _ s a _ (ha.keeps hbc) na.1 (by omega) (by omega)).mono ?_
    rintro e w4 ⟨ra,rfl,t2,d2,hO2,hN2,hV2,hb4⟩
    obtain ⟨ro,rc,rfl,hR2⟩:=hO2.row
    have hB4:=hB0.keeps hb4
    have hX4:=hX.keeps (wr_of hb4)
    have hbw4:=bel_trans hbc hb4
    have ps:=two_pos s
    have hs29:s <= 29:=by
      have hx0:0 < b (t - 1):=by
        rcases nb.2 with e | e
        . omega
        . have:=nb.1 (t - 1) (by omega); omega
      have:=(blen_pos hx0).1
      omega
    have hA2:Hid (val d2 t2=val a n * 2 ^ s):=hV2
    have hA2lt:Hid (val a n * 2 ^ s < 536870912 * P n):=by
      show _ < _
      have h1:=val_lt na.1
      have h2:(2:Int) ^ s <= 2 ^ 29:=two_le hs29
      have h3:(val a n + 1) * 2 ^ s <= P n * 2 ^ s:=mul_le_r (by omega) (by omega)
      have h4:P n * 2 ^ s <= P n * 2 ^ 29:=mul_le_l h2 (Int.le_of_lt (P_pos n))
      rw [Int.add_mul] at h3
      have:P n * 2 ^ 29=536870912 * P n:=by rw [Int.mul_comm]; rfl
      omega
    have hA0:0 < val a n:=by
      have:=val_pos nb (by omega)
      have:=HL.out
      omega
    have ht2:t2 <= n + 1:=by
      by_cases h:t2 <= n + 1
      . exact h
      . have a1:=val_top hN2.1 (by omega) hN2.2
        have b1:=P_le (show n + 1 <= t2 - 1 by omega)
        have c1:=hA2lt.out
        rw [P_succ] at b1
        have:=P_pos n
        omega
    have ht0:0 < t2:=by
      by_cases h:0 < t2
      . exact h
      . obtain rfl:t2=0:=by omega
        have a1:(0:Int)=val a n * 2 ^ s:=hV2
        have:=Int.mul_pos hA0 ps
        omega
    clear hV2
    obtain ⟨K,hK⟩:∃ K,K + t=n + 1:=⟨n + 1 - t,by omega⟩
    have hK1:K + t <= n + 1:=by omega
    have hK2:n + 1 <= K + t:=by omega
    clear hK
    go_wp2_with (first | (at_make; refine wpList_mk rfl _ _ rfl _ _ K rfl rfl (by omega) (by omega) (by omega) ?_; intro w6 hBq hb6) | (refine wpList_cp rfl (.tmp 47) (.tmp 50) rfl g (n + 1) _ rfl hB4 ro t2 rc d2 rfl hR2 ht0 ht2 ?_; intro w5 hB5 hw5))
    have hB6:=hB5.keeps hb6
    have hX6:=(hX4.keeps hw5).keeps (wr_of hb6)
    have hbw6:Below w.heap.size w w6:=bel_trans (hw5.below hbw4 hbw4.size hgw) hb6
    have hgl:g < w4.heap.size:=hB4.lt
    have hw45:=hw5.size
    obtain ⟨V,hVe⟩:∃ V,V=val v t:=⟨_,rfl⟩
    have HVe:Hid (V=val v t):=hVe
    have HVt:Hid (V < P t):=by show _ < _; rw [hVe]; exact val_lt hNv.1
    have HVlo:Hid (536870912 * P (t - 1) <= V):=by
      show _ <= _
      obtain ⟨c,rfl⟩:∃ c,t=c + 1:=⟨t - 1,by omega⟩
      rw [hVe,val_succ,Nat.add_sub_cancel]
      have a1:=val_nonneg (hNv.1.le (Nat.le_succ c))
      rw [Nat.add_sub_cancel] at htop
      have a2:536870912 * P c <= v c * P c:=mul_le_r htop (Int.le_of_lt (P_pos c))
      omega
    clear hVe
    have hby:0 < t->∀ x off,byo=some ⟨x,off,none⟩->x ≠ w5.heap.size:=fun ht x off e=>by
      obtain ⟨x',off',e',hlt,_⟩:=(hX4.keeps hw5).spot ht
      rw [e] at e'
      simp only [Option.some.injEq,Addr.mk.injEq] at e'
      omega
    obtain ⟨L,hL⟩:∃ L,t=L + 2:=⟨t - 2,by omega⟩
    have HLt:Hid (t=L + 2):=hL
    clear hL
    have hD0:DivR w g w5.heap.size n t K v byo bcap (val a n * 2 ^ s) V 0 w6:=by
      refine ⟨_,_,hB6,ov_dig hN2.1,hBq,zero_dig _,fun _ _=>rfl,?_,?_,hX6,hbw6⟩
      . rw [ov_val ht2,hA2.out,val_zeros (Nat.zero_le K) (fun _ _ _=>rfl)]; show _=0 * V + _; omega
      . rw [ov_val ht2,hA2.out,Nat.sub_zero]
        have a1:536870912 * P (t - 1) * P K <= V * P K:=mul_le_r HVlo.out (Int.le_of_lt (P_pos K))
        rw [Int.mul_assoc,<- P_add,show t - 1 + K=n by omega] at a1
        have:=hA2lt.out
        omega
    clear hB6 hX6 hbw6 hBq hB5 hw5 hb6 hX4 hbw4 hB4 hR2 hO2 hN2 hX hB0 hbr hb b1
    go_loopw [61] (fun i wr=>∃ k:Nat,k <= K∧i=.int .i64 k∧DivR w g w5.heap.size n t K v byo bcap (val a n * 2 ^ s) V k wr) (fun i _=>K - (intOf i).toNat)
    case atStart=>exact ⟨0,Nat.zero_le _,rfl,hD0⟩
    case round=>
      clear hD0
      obtain ⟨k,hk,rfl,hDR⟩:=hrel
      by_cases hlt:k < K
      . obtain ⟨at_,hat⟩:∃ at_,K=at_ + 1 + k:=⟨K - 1 - k,by omega⟩
        have HAT:Hid (K=at_ + 1 + k):=hat
        have hat1:K <= at_ + 1 + k:=by omega
        have hat2:at_ + 1 + k <= K:=by omega
        have hz:((K:Int) - 1 - k).toNat=at_:=by omega
        have hz2:K - 1 - k=at_:=by omega
        clear hat
        obtain ⟨r,qf,h1,h2',h3,h4,h5,h6,h7,h8,h9⟩:=hDR
        have hst:=stp_of HAT.out HLt.out hK1 h2' h7 HVe.out hNv htop
        have H5:Hid (∀ i,i < K - k->qf i=0):=h5
        have H6:Hid (val a n * 2 ^ s=val qf K * V + val r (n + 1)):=h6
        have H7:Hid (val r (n + 1) < V * P (K - k)):=h7
        clear h5 h6 h7
        have hlen:at_ + t + 1 - at_=t + 1:=by omega
        go_wp2_with fail
        refine (takeOut_any g at_ (n + 1) (n + 1 - at_) byo bcap L t HLt.out r v _ V wr h1 h8 (by omega) (by omega) (by omega) hst).mono ?_
        rintro e w7 ⟨q,rfl,hT⟩
        have hne:w5.heap.size ≠ g:=by omega
        have hw7:Wr g wr w7:=by obtain ⟨_,_,_,_,_,_,_,_,q⟩:=hT; exact q
        have hq7:Blk w7 w5.heap.size K qf:=h3.of_block (hw7.block _ h3.lt hne)
        have cq:=hq7.cell (show at_ < K by omega)
        have fq:=hq7.frozen at_
        have HR:=DivR.step HAT.out hK1 h1 h2' h3 h4 H5.out H6.out H7.out h8 h9 HVt.out hne hgw (by omega) hby hT
        clear hT hw7 hq7 h1 h2' h3 h4 h8 h9 hst
        go_wp2
        go_roundw
        case rel=>exact ⟨k + 1,by omega,by go_num,HR⟩
        case measure=>simp [intOf]; omega
      . obtain rfl:k=K:=by omega
        obtain ⟨r,qf,h1,h2',h3,h4,h6,h7,h9⟩:=hDR.done
        have H6:Hid (val a n * 2 ^ s=val qf k * V + val r (n + 1)):=h6
        clear h6 hDR
        go_wp2_with fail
        refine (trim_any _ _ _ _ _ (h3.row0 (Nat.le_refl _) (by omega))).mono ?_
        rintro e w7 ⟨tq,htq,htopq,hzq,rfl,rfl⟩
        go_wp2_with fail
        refine (trim_any _ _ _ _ _ (h1.row0 (Nat.le_refl _) (by omega))).mono ?_
        rintro e w8 ⟨tr,htr,htopr,hzr,rfl,rfl⟩
        obtain ⟨oo,cc,ecut,hRr⟩:=Num.cut_row (h1.row0 (Nat.le_refl _) (by omega)) htr
        rw [ecut]
        clear ecut
        go_wp2_with fail
        refine (lower_any _ _ _ s r _ hRr (h2'.le htr) (by omega) (by omega)).mono ?_
        rintro e w9 ⟨v2,rfl,hA⟩
        go_wp2
        go_ret2
        have hb9:=hA.below
        obtain ⟨hNq,hvq⟩:=nrm_of_top h4 htq htopq hzq
        obtain ⟨hNr,hvr⟩:=nrm_of_top h2' htr htopr hzr
        have hX0:=val_nonneg h2'
        have h7':val r (n + 1) < val b t * 2 ^ s:=by rw [<- HVv.out,<- HVe.out]; exact h7
        obtain ⟨eq,er⟩:=div_back (A:=val a n) (B:=val b t) (Q:=val qf k) (X:=val r (n + 1)) (s:=s) (by rw [<- HVv.out,<- HVe.out]; exact H6.out) hX0 h7'
        refine ⟨_,_,rfl,⟨tq,qf,(h3.cut (by omega) htq (by omega)).stays hb9,hNq,by rw [hvq,eq],bel_trans h9 hb9⟩,?_,?_⟩
        . rw [<- er,<- hvr]; exact hA.from h9
        . intro c hc hc2
          have e1:=cut_block hc
          obtain ⟨t3,d3,hO3,_⟩:=hA
          have e2:=own_ge hO3 c hc2
          have:=h3.lt
          omega
theorem Out.cutV {B:Nat} {w:World} {ao:Option Addr} {n cap t:Nat} {d:Nat->Int} (h:Out B w (.slice ao n cap) n d) (ht:t <= n):Out B w (cutV ao t cap) t d:=by
  unfold Go.Proofs.YteglfnnbpilheaaGreatDoor.cutV
  split
  . rename_i e; subst e; exact Out.nil _ _ _
  . exact h.cut ht
set_option maxHeartbeats 1000000 in
theorem divide_one (ao bo:Option Addr) (n ca cb:Nat) (a b:Nat->Int) (w:World) (ha:Row w ao n ca a) (hb:Row w bo 1 cb b) (na:Nrm a n) (nb:Nrm b 1) (hn:n <= 5000) (hle:val b 1 <= val a n) :
    Calls Tryz.prog 127 #[.slice ao n ca,.slice bo 1 cb] w fun e w'=>∃ v1 v2,e=.returned (.tuple #[v1,v2])∧Ans2 w w' (val a n / val b 1) v1 (val a n % val b 1) v2:=by
  have hla:=ha.le
  have hma:=ha.max
  have hlb:=hb.le
  have hmb:=hb.max
  have ho:decide (ord (val a n) (val b 1) < 0)=false:=decide_eq_false (ord_ge hle)
  clear hle
  obtain ⟨bb,fb,rfl,hbb,hcb⟩:=hb.spot (by omega)
  have dk:=nb.1 0 (by omega)
  have hb0:0 < b 0:=by
    rcases nb.2 with e | e
    . omega
    . have:b 0 ≠ 0:=e
      omega
  have HV:Hid (val b 1=b 0):=by show 0 + b 0 * 1=b 0; omega
  go_enter Tryz.func127,Tryz.ntmps127
  go_wp2_with fail
  refine (compare_any _ _ _ _ _ _ _ _ _ ha hb na nb).mono ?_
  rintro e w1 ⟨rfl,b1⟩
  go_wp2_with fail
  refine (clone_any _ _ _ _ _ (ha.keeps b1) (by omega)).mono ?_
  rintro e w2 ⟨q,rfl,hO,b2⟩
  obtain ⟨qo,qc,rfl,hR⟩:=hO.row
  have c1:=((bel_trans b1 b2).cell (p:=⟨bb,fb,none⟩) hbb).trans (hcb 0 (by omega))
  go_wp2_with fail
  refine (shorten_any w1.heap.size _ _ _ a (b 0) _ hO na.1 hb0 dk.2 (by omega) b2.size).mono ?_
  rintro e w3 ⟨left,rfl,r,hO3,hD3,hV3,hl0,hl1,b3⟩
  obtain ⟨qo',qc',hqe,hR3⟩:=hO3.row
  simp only [Value.slice.injEq,true_and] at hqe
  obtain ⟨rfl,rfl⟩:=hqe
  go_wp2_with fail
  refine (trim_any _ _ _ _ _ hR3).mono ?_
  rintro e w4 ⟨t,ht,htop,hz,rfl,rfl⟩
  go_wp2_with fail
  refine (digits_nat left _ hl0 (by omega)).mono ?_
  rintro e w5 ⟨v2,rfl,hA⟩
  go_wp2
  go_ret2
  obtain ⟨hN,hv⟩:=nrm_of_top hD3 ht htop hz
  have hb5:=hA.below
  have hw:Below w.heap.size w w4:=(bel_trans b1 b2).trans (b3.mono b1.size)
  obtain ⟨eq,er⟩:=div_of (a:=val a n) (b:=val b 1) (q:=val r n) (r:=left) (by rw [HV.out,hV3,Int.mul_comm]) hl0 (by rw [HV.out]; exact hl1)
  refine ⟨_,_,rfl,⟨t,r,((hO3.cutV ht).lower b1.size).stays hb5,hN,by rw [hv,eq],bel_trans hw hb5⟩,?_,?_⟩
  . rw [<- er]; exact hA.from hw
  . intro c hc hc2
    obtain ⟨t3,d3,hO5,_⟩:=hA
    have e2:=own_ge hO5 c hc2
    have e1:=(World.ownsRow.lt (hO3.cutV ht) c hc).2
    omega
theorem divide_less (ao bo:Option Addr) (n m ca cb:Nat) (a b:Nat->Int) (w:World) (ha:Row w ao n ca a) (hb:Row w bo m cb b) (na:Nrm a n) (nb:Nrm b m) (hn:n <= 5000) (hlt:val a n < val b m) :
    Calls Tryz.prog 127 #[.slice ao n ca,.slice bo m cb] w fun e w'=>∃ v1 v2,e=.returned (.tuple #[v1,v2])∧Ans2 w w' (val a n / val b m) v1 (val a n % val b m) v2:=by
  have ho:decide (ord (val a n) (val b m) < 0)=true:=by rw [ord_lt hlt]; decide
  have HD:Hid (val a n / val b m=0∧val a n % val b m=val a n):=⟨Int.ediv_eq_zero_of_lt (val_nonneg na.1) hlt,Int.emod_eq_of_lt (val_nonneg na.1) hlt⟩
  clear hlt
  go_enter Tryz.func127,Tryz.ntmps127
  go_wp2_with fail
  refine (compare_any _ _ _ _ _ _ _ _ _ ha hb na nb).mono ?_
  rintro e w1 ⟨rfl,b1⟩
  go_wp2_with fail
  refine (clone_any _ _ _ _ _ (ha.keeps b1) (by omega)).mono ?_
  rintro e w2 ⟨q,rfl,hO,b2⟩
  go_wp2
  go_ret2
  have hb2:=bel_trans b1 b2
  refine ⟨_,_,rfl,?_,?_,?_⟩
  . rw [HD.out.1]; exact Ans.nil hb2
  . rw [HD.out.2]; exact ⟨n,a,hO.lower b1.size,na,rfl,hb2⟩
  . intro c hc; simp [Value.ownBlock] at hc
theorem divide_any (ao bo:Option Addr) (n m ca cb:Nat) (a b:Nat->Int) (w:World) (ha:Row w ao n ca a) (hb:Row w bo m cb b) (na:Nrm a n) (nb:Nrm b m) (hn:n <= 5000) (hm:0 < m) :
    Calls Tryz.prog 127 #[.slice ao n ca,.slice bo m cb] w fun e w'=>∃ v1 v2,e=.returned (.tuple #[v1,v2])∧Ans2 w w' (val a n / val b m) v1 (val a n % val b m) v2:=by
  by_cases h1:val a n < val b m
  . exact divide_less ao bo n m ca cb a b w ha hb na nb hn h1
  . by_cases h2:m=1
    . subst h2; exact divide_one ao bo n ca cb a b w ha hb na nb hn (by omega)
    . exact divide_gen ao bo n m ca cb a b w ha hb na nb hn (nrm_le_len nb na.1 (by omega)) (by omega) (by omega)
theorem product_num {w:World} {x y:Value} {A B:Int} (hx:Num w x A) (hy:Num w y B) (hA:A < P 100000) (hB:B < P 100000) :
    Calls Tryz.prog 114 #[x,y] w fun e w'=>∃ v,e=.returned v∧Ans w w' (A * B) v:=by
  obtain ⟨ao,n,ca,rfl⟩:=hx.shape
  obtain ⟨bo,m,cb,rfl⟩:=hy.shape
  have l1:=hx.len hA
  have l2:=hy.len hB
  obtain ⟨ao',n',ca',d,e1,hR,h2,rfl⟩:=hx
  obtain ⟨bo',m',cb',e,e2,kR,k2,rfl⟩:=hy
  simp only [Value.slice.injEq] at e1 e2
  obtain ⟨rfl,rfl,rfl⟩:=e1
  obtain ⟨rfl,rfl,rfl⟩:=e2
  exact product_any _ _ _ _ _ _ _ _ _ hR kR h2.1 k2.1 l1 l2
def Tab (w:World):Prop:=∀ j,j < 64->w.cell? ⟨3,j,none⟩=some (.int .u8 ((Lib.deBruijn64tab.getD j 0:Nat):Int))
theorem Tab.keeps {w w':World} (h:Tab w) (hb:Below w.heap.size w w'):Tab w':=fun j hj=>
  (hb.cell (p:=⟨3,j,none⟩) (World.block_lt_of_cell? w _ (h j hj))).trans (h j hj)
theorem tz_key (x a:Nat) (hx:x < 18446744073709551616) (hx0:x ≠ 0) (hlow:x &&& (18446744073709551616 - x)=a) :
    IntKind.u64.wrap (bits .and .u64 (x:Int) (IntKind.u64.wrap (-(x:Int))) * 285870213051353865) / 288230376151711744=((a * 285870213051353865 % 18446744073709551616 / 288230376151711744:Nat):Int):=by
  have e1:IntKind.u64.wrap (-(x:Int))=((18446744073709551616 - x:Nat):Int):=by rw [IntKind.wrap_u64]; omega
  rw [e1,bits_and_u64_nat x _ hx (by omega),hlow,IntKind.wrap_u64]
  omega
set_option maxHeartbeats 1000000 in
theorem tz_core (x k idx:Nat) (w:World) (hx0:((x:Int) == 0)=false)
    (key:IntKind.u64.wrap (bits .and .u64 (x:Int) (IntKind.u64.wrap (-(x:Int))) * 285870213051353865) / 288230376151711744=(idx:Int))
    (hi:idx < 64) (hk:k < 64) (hcell:w.cell? ⟨3,idx,none⟩=some (.int .u8 k)) :
    Calls Tryz.prog 119 #[.int .u64 x] w fun e w'=>e=.returned (.int .i64 k)∧w'=w:=by
  go_enter Tryz.func119,Tryz.ntmps119
  go_wp2_with (simp only [key])
  go_ret
  exact ⟨rfl,rfl⟩
theorem trailing64 (x:Nat) (hx:x < 18446744073709551616) (h0:x ≠ 0) (w:World) (hT:Tab w) :
    Calls Tryz.prog 119 #[.int .u64 x] w fun e w'=>e=.returned (.int .i64 (Lib.ctz 64 x))∧w'=w:=by
  obtain ⟨hlow,hk⟩:=Lib.lowest_bit 64 x h0 hx
  obtain ⟨hi,htab⟩:=Lib.deBruijn64_at _ hk
  have hcell:=hT _ hi
  rw [htab] at hcell
  exact tz_core x _ _ w (by simp; omega) (tz_key x _ hx h0 hlow) hi hk hcell
theorem trailing64I (x:Int) (hx0:0 < x) (hx:x < 1073741824) (w:World) (hT:Tab w) :
    Calls Tryz.prog 119 #[.int .u64 x] w fun e w'=>∃ l:Nat,e=.returned (.int .i64 l)∧(l < 64∧IsLow x l)∧w'=w:=by
  obtain ⟨n,rfl⟩:=Int.eq_ofNat_of_zero_le (Int.le_of_lt hx0)
  obtain ⟨m,hm,hk⟩:=Lib.ctzFrom_spec 64 n (by omega) (by omega)
  have e:Lib.ctz 64 n=Lib.ctzFrom 64 n:=by simp [Lib.ctz]; omega
  rw [<- e] at hm hk
  refine (trailing64 n (by omega) (by omega) _ hT).mono ?_
  rintro e w' ⟨rfl,rfl⟩
  refine ⟨_,rfl,⟨hk,m,?_⟩,rfl⟩
  have:((n:Nat):Int)=((2 ^ Lib.ctz 64 n * (2 * m + 1):Nat):Int):=congrArg _ hm
  rw [this,Int.natCast_mul,Int.mul_comm]; simp
theorem trailing (x:Int) (hx0:0 < x) (hx:x < 1073741824) (w:World) (hT:Tab w) :
    Calls Tryz.prog 126 #[.int .u64 x] w fun e w'=>∃ l:Nat,e=.returned (.int .i64 l)∧(l < 64∧IsLow x l)∧w'=w:=by
  go_enter Tryz.func126,Tryz.ntmps126
  go_wp2_with fail
  refine (trailing64I x hx0 hx _ hT).mono ?_
  rintro e w' ⟨l,rfl,hl,rfl⟩
  go_wp2
  go_ret
  exact ⟨_,rfl,hl,rfl⟩
theorem low_unique {V:Int} {l k:Nat} (h:IsLow V l) (h':IsLow V k):l=k:=by
  have key:∀ (l k:Nat) (V:Int),IsLow V l->IsLow V k->¬ l < k:=fun l k V ⟨m,hm⟩ ⟨m',hm'⟩ hlt=>by
    obtain ⟨d,rfl⟩:∃ d,k=l + 1 + d:=⟨k - l - 1,by omega⟩
    rw [hm,Int.pow_add,Int.pow_add] at hm'
    have e:(2 * m + 1) * 2 ^ l=((2 * m' + 1) * (2 ^ d * 2)) * 2 ^ l:=by rw [hm']; grind
    have e2:=Int.eq_of_mul_eq_mul_right (Int.ne_of_gt (two_pos l)) e
    have e3:(2 * m' + 1) * (2 ^ d * 2)=2 * ((2 * m' + 1) * 2 ^ d):=by grind
    rw [e3] at e2
    generalize (2 * m' + 1) * 2 ^ d=Z at e2
    omega
  rcases Nat.lt_trichotomy l k with q | q | q
  . exact absurd q (key l k V h h')
  . exact q
  . exact absurd q (key k l V h' h)
theorem isLow_val {d:Nat->Int} {n i l:Nat} (hi:i < n) (hz:∀ j,j < i->d j=0) (h:IsLow (d i) l) (hl:l < 30):IsLow (val d n) (30 * i + l):=by
  obtain ⟨m,hm⟩:=h
  have e1:val d n=P i * val (fun j=>d (i + j)) (n - i):=by
    have:=val_shift0 d i (n - i) hz
    rwa [show i + (n - i)=n by omega] at this
  obtain ⟨r,hr⟩:∃ r,n - i=r + 1:=⟨n - i - 1,by omega⟩
  have e2:val (fun j=>d (i + j)) (n - i)=d i + 1073741824 * val (fun j=>d (i + (j + 1))) r:=by
    rw [hr]
    have h:=val_split (fun j=>d (i + j)) 1 r
    rw [Nat.add_comm 1 r] at h
    rw [h]
    have e:(fun j=>d (i + (1 + j)))=fun j=>d (i + (j + 1)):=by funext j; rw [Nat.add_comm 1 j]
    show 0 + d (i + 0) * 1 + 1 * 1073741824 * _=_
    rw [e,Nat.add_zero]; omega
  have e3:(1073741824:Int)=2 ^ l * (2 * 2 ^ (29 - l)):=by
    rw [<- Int.mul_assoc,Int.mul_comm (2 ^ l) 2,Int.mul_assoc,<- Int.pow_add,show l + (29 - l)=29 by omega]; rfl
  refine ⟨m + 2 ^ (29 - l) * val (fun j=>d (i + (j + 1))) r,?_⟩
  rw [e1,e2,hm,e3,Int.pow_add,<- P_two]
  grind
theorem low_lt {x:Int} {l:Nat} (h0:0 < x) (h1:x < 1073741824) (h:IsLow x l):l < 30:=by
  obtain ⟨m,hm⟩:=h
  rcases Nat.lt_or_ge l 30 with q | q
  . exact q
  . have h2:(2:Int) ^ 30 <= 2 ^ l:=two_le q
    have h3:0 < 2 * m + 1:=by
      rcases Int.lt_or_le 0 (2 * m + 1) with r | r
      . exact r
      . have:=Int.mul_nonneg (show 0 <= -(2 * m + 1) by omega) (Int.le_of_lt (two_pos l))
        rw [Int.neg_mul,<- hm] at this
        omega
    have h4:1 * 2 ^ l <= (2 * m + 1) * 2 ^ l:=mul_le_r (by omega) (Int.le_of_lt (two_pos l))
    have h5:(2:Int) ^ 30=1073741824:=rfl
    omega
def LowA (V l:Int):Prop:=(V=0∧l=-1)∨∃ k:Nat,l=k∧IsLow V k
set_option maxHeartbeats 400000 in
theorem lowest_any (ao:Option Addr) (n cap:Nat) (d:Nat->Int) (w:World) (h:Row w ao n cap d) (hd:Dig d n) (hn:n <= 100000) (hT:Tab w) :
    Calls Tryz.prog 111 #[.slice ao n cap] w fun e w'=>∃ l,e=.returned (.int .i64 l)∧LowA (val d n) l∧w'=w:=by
  have hl:=h.le
  have hm:=h.max
  go_enter Tryz.func111,Tryz.ntmps111
  go_wp2
  go_loop [6] (fun i=>∃ k:Nat,k <= n∧i=.int .i64 k∧Hid (∀ j,j < k->d j=0)) (fun i=>n - (intOf i).toNat)
  case atStart=>exact ⟨0,Nat.zero_le _,rfl,fun j hj=>by omega⟩
  case round=>
    obtain ⟨k,hk,rfl,HZ⟩:=hrel
    by_cases hlt:k < n
    . obtain ⟨b,off,rfl,hb,hc⟩:=h.spot (by omega)
      have c:=hc k hlt
      have dk:=hd k hlt
      by_cases hz:d k=0
      . go_wp2
        go_round
        case rel=>exact ⟨k + 1,by omega,by go_num,fun j hj=>by by_cases e:j=k; (· rw [e]; exact hz); (· exact HZ.out j (by omega))⟩
        case measure=>simp [intOf]; omega
      . have hp:0 < d k:=by omega
        go_wp2_with fail
        refine (trailing (d k) hp dk.2 _ hT).mono ?_
        rintro e w' ⟨l,rfl,⟨hl64,hlow⟩,rfl⟩
        go_wp2
        go_ret
        exact ⟨_,rfl,.inr ⟨30 * k + l,by omega,isLow_val hlt HZ.out hlow (low_lt hp dk.2 hlow)⟩,rfl⟩
    . obtain rfl:k=n:=by omega
      go_wp2
      go_ret
      exact ⟨_,rfl,.inl ⟨val_zeros (Nat.zero_le k) (fun i _ hi=>HZ.out i hi),rfl⟩,rfl⟩
theorem lowA_pos {V l:Int} (h:LowA V l) (h0:0 < V):∃ k:Nat,l=k∧IsLow V k:=by
  rcases h with ⟨h1,_⟩ | h
  . omega
  . exact h
theorem isLow_lt {d:Nat->Int} {n k:Nat} (hd:Dig d n) (h0:0 < val d n) (h:IsLow (val d n) k):k < 30 * n:=by
  have h1:=val_lt hd
  rw [P_two] at h1
  obtain ⟨a,b,c⟩:=isLow_odd h h0
  have h2:(1:Int) * 2 ^ k <= val d n / 2 ^ k * 2 ^ k:=Int.mul_le_mul_of_nonneg_right (by omega) (Int.le_of_lt (two_pos k))
  exact two_lt_iff (by omega)
theorem ans_res {w W w3:World} {V:Int} {v:Value} (hv:Ans W w3 V v) (hb:Below w.heap.size w W) {g:Nat} (h0:w.heap.size <= g) (h1:g < W.heap.size) (a b c:Value) :
    Ans w (((w3.setCell ⟨g,0,none⟩ a).setCell ⟨g,1,none⟩ b).setCell ⟨g,2,none⟩ c) V v:=by
  obtain ⟨t,d,hO,hN,hV,hB⟩:=hv
  refine ⟨t,d,?_,hN,hV,?_⟩
  . exact (((hO.set_below (a:=⟨g,0,none⟩) h1 a).set_below (a:=⟨g,1,none⟩) h1 b).set_below (a:=⟨g,2,none⟩) h1 c).lower hb.size
  . exact (((hb.trans (hB.mono hb.size)).setCell (p:=⟨g,0,none⟩) h0 a).setCell (p:=⟨g,1,none⟩) h0 b).setCell (p:=⟨g,2,none⟩) h0 c
set_option maxHeartbeats 1000000 in
theorem settle_zero (ng:Bool) (ao:Option Addr) (n cap:Nat) (d:Nat->Int) (e:Int) (w:World) (h:Row w ao n cap d) (hd:Dig d n) (h0:val d n=0) :
    Calls Tryz.prog 97 #[.agg #[.bool ng,.slice ao n cap,.int .i64 e]] w fun r w'=>r=.returned zeroV∧Below w.heap.size w w':=by
  have hR:=h.keeps (bel_alloc2 w (.cells #[.bool ng,.slice ao n cap,.int .i64 e] 79) (.cells #[.bool false,.slice none 0 0,.int .i64 0] 79))
  go_enter Tryz.func97,Tryz.ntmps97
  go_wp2_with fail
  refine (trim_any _ _ _ _ _ hR).mono ?_
  rintro r w1 ⟨t,ht,htop,hz,rfl,rfl⟩
  obtain ⟨hN,hv⟩:=nrm_of_top hd ht htop hz
  have ht0:t=0:=(val_zero hN).1 (by rw [hv]; exact h0)
  subst ht0
  rw [show cutV ao 0 cap=.slice none 0 0 from rfl]
  go_wp2
  refine bodyPost_ret (v:=zeroV) (by simp [results,Tryz.results97,go_sem,zeroV]) rfl ⟨rfl,?_⟩
  exact bel_alloc2 _ _ _
set_option maxRecDepth 100000 in
set_option maxHeartbeats 4000000 in
theorem settle_yes (ng:Bool) (ao:Option Addr) (n cap:Nat) (d:Nat->Int) (e:Int) (w:World) (h:Row w ao n cap d) (hd:Dig d n) (hn:n <= 100000) (hT:Tab w) (h0:0 < val d n) (l:Nat) (hl:IsLow (val d n) l)
    (he0:-1048576 <= e + l) (he1:e + l <= 1048576) (hs:val d n / 2 ^ l < P 2000) :
    Calls Tryz.prog 97 #[.agg #[.bool ng,.slice ao n cap,.int .i64 e]] w fun r w'=>∃ s,r=.returned (.agg #[.bool ng,s,.int .i64 (e + l)])∧Ans w w' (val d n / 2 ^ l) s:=by
  have hR:=h.keeps (bel_alloc2 w (.cells #[.bool ng,.slice ao n cap,.int .i64 e] 79) (.cells #[.bool false,.slice none 0 0,.int .i64 0] 79))
  have hln:=isLow_lt hd h0 hl
  have hb1:=bel_alloc2 w (.cells #[.bool ng,.slice ao n cap,.int .i64 e] 79) (.cells #[.bool false,.slice none 0 0,.int .i64 0] 79)
  go_enter Tryz.func97,Tryz.ntmps97
  go_wp2_with fail
  refine (trim_any _ _ _ _ _ hR).mono ?_
  rintro r w1 ⟨t,ht,htop,hz,rfl,rfl⟩
  obtain ⟨hN,hv⟩:=nrm_of_top hd ht htop hz
  have ht0:t ≠ 0:=by rintro rfl; have:=(val_zero hN).2 rfl; omega
  rw [show cutV ao t cap=.slice ao t cap by unfold cutV; rw [if_neg ht0]]
  have hn0:((t:Int) == 0)=false:=by simp; omega
  obtain ⟨bb,fb,rfl,hbb,hcb⟩:=h.spot (by omega)
  have hRt:Row ((w.alloc (.cells #[.bool ng,.slice (some ⟨bb,fb,none⟩) n cap,.int .i64 e] 79)).alloc (.cells #[.bool false,.slice none 0 0,.int .i64 0] 79)) (some ⟨bb,fb,none⟩) t cap d:=⟨by have:=h.le; omega,h.max,fun hx=>by simp at hx,fun _=>by
    obtain ⟨b',f',e',q1,q2⟩:=hR.spot (by omega)
    exact ⟨b',f',e',q1,fun i hi=>q2 i (by omega)⟩⟩
  have hbl:blen (val d n) <= 60000 + l:=by
    refine blen_le ?_
    obtain ⟨_,_,c⟩:=isLow_odd hl h0
    have:(val d n / 2 ^ l) * 2 ^ l < P 2000 * 2 ^ l:=Int.mul_lt_mul_of_pos_right hs (two_pos l)
    rw [c,P_two,<- Int.pow_add] at this
    exact this
  have HS:Hid (val d n / 2 ^ l < P 2000):=hs
  clear hs
  go_wp2_with fail
  refine (lowest_any _ _ _ _ _ hRt hN.1 (by omega) (hT.keeps hb1)).mono ?_
  rintro r w1 ⟨lo,rfl,hlo,rfl⟩
  rw [hv] at hlo
  obtain ⟨k,rfl,hk⟩:=lowA_pos hlo h0
  obtain rfl:=low_unique hk hl
  have HL:Hid (IsLow (val d n) k):=hl
  clear hlo hk hl
  have HV:Hid (val d t=val d n):=hv
  go_wp2_with fail
  refine (bitLength_any _ _ _ _ _ hRt hN (by omega)).mono ?_
  rw [hv]
  rintro r w1 ⟨rfl,rfl⟩
  go_wp2_with fail
  have hwr:IntKind.i64.wrap (e + (k:Int))=e + k:=by rw [wrap_i64_eq]; omega
  have hb2:Below w.heap.size w ((w.alloc (.cells #[.bool ng,.slice (some ⟨bb,fb,none⟩) n cap,.int .i64 e] 79)).alloc (.cells #[.bool false,.slice none 0 0,.int .i64 0] 79)).drew:=hb1.drew
  have q0:((w.alloc (.cells #[.bool ng,.slice (some ⟨bb,fb,none⟩) n cap,.int .i64 e] 79)).alloc (.cells #[.bool false,.slice none 0 0,.int .i64 0] 79)).drew.heap[w.heap.size]?=some (.cells #[.bool ng,.slice (some ⟨bb,fb,none⟩) n cap,.int .i64 e] 79):=heap_a2 _ _ _
  have q1:((w.alloc (.cells #[.bool ng,.slice (some ⟨bb,fb,none⟩) n cap,.int .i64 e] 79)).alloc (.cells #[.bool false,.slice none 0 0,.int .i64 0] 79)).drew.heap[w.heap.size + 1]?=some (.cells #[.bool false,.slice none 0 0,.int .i64 0] 79):=heap_b2 _ _ _
  have qs:((w.alloc (.cells #[.bool ng,.slice (some ⟨bb,fb,none⟩) n cap,.int .i64 e] 79)).alloc (.cells #[.bool false,.slice none 0 0,.int .i64 0] 79)).drew.heap.size=w.heap.size + 2:=size2 _ _ _
  go_region_with (go_at_call 110; refine (lower_any _ _ _ k d _ hRt.drew hN.1 (by omega) (by omega)).mono ?_; rintro r w3 ⟨v,rfl,hv⟩; obtain ⟨vo,vn,vc,rfl⟩:=hv.num.shape; have g0:=(hv.below.block w.heap.size (by omega)).trans q0; have g1:=(hv.below.block (w.heap.size + 1) (by omega)).trans q1; have k0:=blkC g0 0 rfl; have k2:=blkC g0 2 rfl; have k3:=blkC g1 0 rfl; have k4:=blkC g1 1 rfl; have k5:=blkC g1 2 rfl; have f0:=blkF g1 0; have f1:=blkF g1 1; have f2:=blkF g1 2; have hvv:=hv.from hb2)
  all_goals go_wp2
  all_goals refine bodyPost_ret (v:=.agg #[.bool ng,.slice vo vn vc,.int .i64 (e + k)]) (by simp [results,Tryz.results97,go_sem,k3,k4,k5,hwr]) rfl ⟨_,rfl,?_⟩
  all_goals (rw [<- HV.out]; exact ans_res (g:=w.heap.size + 1) hv hb2 (Nat.le_succ _) (by omega) _ _ _)
set_option maxRecDepth 100000 in
set_option maxHeartbeats 1000000 in
theorem settle_no (ng:Bool) (ao:Option Addr) (n cap:Nat) (d:Nat->Int) (e:Int) (w:World) (h:Row w ao n cap d) (hd:Dig d n) (hn:n <= 100000) (hT:Tab w) (h0:0 < val d n) (l:Nat) (hl:IsLow (val d n) l)
    (hbad:e + l < -1048576∨1048576 < e + l∨P 2000 <= val d n / 2 ^ l) :
    Calls Tryz.prog 97 #[.agg #[.bool ng,.slice ao n cap,.int .i64 e]] w fun r w'=>r=.panicked [{ v:=.iface 25 (.int .i64 2),recovered:=false }]∧Below w.heap.size w w':=by
  have hR:=h.keeps (bel_alloc2 w (.cells #[.bool ng,.slice ao n cap,.int .i64 e] 79) (.cells #[.bool false,.slice none 0 0,.int .i64 0] 79))
  have hln:=isLow_lt hd h0 hl
  have hb1:=bel_alloc2 w (.cells #[.bool ng,.slice ao n cap,.int .i64 e] 79) (.cells #[.bool false,.slice none 0 0,.int .i64 0] 79)
  have HB:Hid (e + l < -1048576∨1048576 < e + l∨P 2000 <= val d n / 2 ^ l):=hbad
  clear hbad
  go_enter Tryz.func97,Tryz.ntmps97
  go_wp2_with fail
  refine (trim_any _ _ _ _ _ hR).mono ?_
  rintro r w1 ⟨t,ht,htop,hz,rfl,rfl⟩
  obtain ⟨hN,hv⟩:=nrm_of_top hd ht htop hz
  have ht0:t ≠ 0:=by rintro rfl; have:=(val_zero hN).2 rfl; omega
  rw [show cutV ao t cap=.slice ao t cap by unfold cutV; rw [if_neg ht0]]
  have hn0:((t:Int) == 0)=false:=by simp; omega
  obtain ⟨bb,fb,rfl,hbb,hcb⟩:=h.spot (by omega)
  have hRt:Row ((w.alloc (.cells #[.bool ng,.slice (some ⟨bb,fb,none⟩) n cap,.int .i64 e] 79)).alloc (.cells #[.bool false,.slice none 0 0,.int .i64 0] 79)) (some ⟨bb,fb,none⟩) t cap d:=⟨by have:=h.le; omega,h.max,fun hx=>by simp at hx,fun _=>by
    obtain ⟨b',f',e',q1,q2⟩:=hR.spot (by omega)
    exact ⟨b',f',e',q1,fun i hi=>q2 i (by omega)⟩⟩
  go_wp2_with fail
  refine (lowest_any _ _ _ _ _ hRt hN.1 (by omega) (hT.keeps hb1)).mono ?_
  rintro r w1 ⟨lo,rfl,hlo,rfl⟩
  rw [hv] at hlo
  obtain ⟨k,rfl,hk⟩:=lowA_pos hlo h0
  obtain rfl:=low_unique hk hl
  have HL:Hid (IsLow (val d n) k):=hl
  clear hlo hk hl
  by_cases c0:e < -1048576 - k
  . go_wp2
    exact ⟨rfl,rfl,hb1⟩
  . by_cases c1:1048576 - k < e
    . go_wp2
      exact ⟨rfl,rfl,hb1⟩
    . have hbl:60000 < (blen (val d n):Int) - k:=by
        obtain ⟨_,_,c⟩:=isLow_odd HL.out h0
        have h2:P 2000 <= val d n / 2 ^ k:=by rcases HB.out with x | x | x <;> first | omega | exact x
        have:P 2000 * 2 ^ k <= (val d n / 2 ^ k) * 2 ^ k:=Int.mul_le_mul_of_nonneg_right h2 (Int.le_of_lt (two_pos k))
        rw [c,P_two,<- Int.pow_add] at this
        have:=blen_ge this
        omega
      go_wp2_with fail
      refine (bitLength_any _ _ _ _ _ hRt hN (by omega)).mono ?_
      rw [hv]
      rintro r w1 ⟨rfl,rfl⟩
      have hb30:blen (val d n) <= 30 * n:=blen_le (by rw [<- P_two]; exact val_lt hd)
      go_wp2
      exact ⟨rfl,rfl,hb1⟩
theorem low_ex:∀ (n:Nat) (M:Int),M.natAbs <= n->0 < M->∃ l,IsLow M l:=by
  intro n
  induction n with
  | zero=>intro M h h0; omega
  | succ n ih=>
    intro M h h0
    by_cases hp:M % 2=1
    . exact ⟨0,M / 2,by rw [Int.pow_zero]; omega⟩
    . obtain ⟨l,m,hm⟩:=ih (M / 2) (by omega) (by omega)
      refine ⟨l + 1,m,?_⟩
      rw [Int.pow_succ,<- Int.mul_assoc,<- hm]; omega
theorem isLow_ex {M:Int} (h:0 < M):∃ l,IsLow M l:=low_ex M.natAbs M (Nat.le_refl _) h
def gaveUp:Ending:=.panicked [{ v:=.iface 25 (.int .i64 2),recovered:=false }]
theorem settle_ok {ng:Bool} {ao:Option Addr} {n cap:Nat} {d:Nat->Int} {e:Int} {w:World} (h:Row w ao n cap d) (hd:Dig d n) (hn:n <= 100000) (hT:Tab w) (he:-4194304 <= e) {V:Int} (hV:V=sg ng (val d n) * pw e) (hok:Dok V) :
    Calls Tryz.prog 97 #[.agg #[.bool ng,.slice ao n cap,.int .i64 e]] w fun r w'=>∃ v,r=.returned v∧DAns w w' V v:=by
  by_cases h0:val d n=0
  . refine (settle_zero ng ao n cap d e w h hd h0).mono ?_
    rintro r w' ⟨rfl,hb⟩
    exact ⟨_,rfl,by rw [hV,h0,sg_zero,Int.zero_mul]; exact DAns.zero hb⟩
  . have hp:0 < val d n:=by have:=val_nonneg hd; omega
    obtain ⟨l,hl⟩:=isLow_ex hp
    have hy:=Dy.of ng hl hp he
    rw [<- hV] at hy
    obtain ⟨o1,o2,o3⟩:=hy.ok.1 hok
    refine (settle_yes ng ao n cap d e w h hd hn hT hp l hl o2 o3 o1).mono ?_
    rintro r w' ⟨s,rfl,hA⟩
    exact ⟨_,rfl,_,_,_,_,rfl,hy,hA⟩
theorem settle_long {ng:Bool} {ao:Option Addr} {n cap:Nat} {d:Nat->Int} {e:Int} {w:World} (h:Row w ao n cap d) (hd:Dig d n) (hn:n <= 100000) (hT:Tab w) (he:-4194304 <= e) {V:Int} (hV:V=sg ng (val d n) * pw e) (hok:¬ Dok V) :
    Calls Tryz.prog 97 #[.agg #[.bool ng,.slice ao n cap,.int .i64 e]] w fun r w'=>r=gaveUp∧Below w.heap.size w w':=by
  by_cases h0:val d n=0
  . exact absurd (by rw [hV,h0,sg_zero,Int.zero_mul]; exact dok_zero) hok
  . have hp:0 < val d n:=by have:=val_nonneg hd; omega
    obtain ⟨l,hl⟩:=isLow_ex hp
    have hy:=Dy.of ng hl hp he
    rw [<- hV] at hy
    have hno:=fun x=>hok (hy.ok.2 x)
    refine settle_no ng ao n cap d e w h hd hn hT hp l hl ?_
    by_cases c1:e + l < -1048576
    . exact .inl c1
    . by_cases c2:1048576 < e + l
      . exact .inr (.inl c2)
      . exact .inr (.inr (by
          by_cases c3:P 2000 <= val d n / 2 ^ l
          . exact c3
          . exact absurd ⟨by omega,by omega,by omega⟩ hno))
theorem DFit.shape {w w':World} {V er:Int} {v:Value} (h:DFit w w' V v er):∃ ng so sn sc e,v=.agg #[.bool ng,.slice so sn sc,.int .i64 e]:=by
  rcases h.2 with ⟨_,_,ng,s,m,e,h1,_,hA⟩ | ⟨_,_,h1⟩
  . obtain ⟨so,sn,sc,rfl⟩:=hA.num.shape
    exact ⟨_,_,_,_,_,h1⟩
  . exact ⟨_,_,_,_,_,h1⟩
theorem dans_res3 {w W w3:World} {V:Int} {v:Value} (hv:DAns W w3 V v) (hb:Below w.heap.size w W) {g:Nat} (h0:w.heap.size <= g) (h1:g < W.heap.size) (a b c:Value) :
    DAns w (((w3.setCell ⟨g,0,none⟩ a).setCell ⟨g,1,none⟩ b).setCell ⟨g,2,none⟩ c) V v:=by
  obtain ⟨ng,s,m,e,h2,h3,hA⟩:=hv
  exact ⟨ng,s,m,e,h2,h3,ans_res hA hb h0 h1 a b c⟩
theorem dfit_res {w W w3:World} {V er:Int} {v:Value} (hv:DFit W w3 V v er) (hb:Below w.heap.size w W) {g:Nat} (h0:w.heap.size <= g) (h1:g < W.heap.size) (a b c:Value) :
    DFit w (((w3.setCell ⟨g,0,none⟩ a).setCell ⟨g,1,none⟩ b).setCell ⟨g,2,none⟩ c) V v er:=by
  refine ⟨(((hb.trans (hv.1.mono hb.size)).setCell (p:=⟨g,0,none⟩) h0 a).setCell (p:=⟨g,1,none⟩) h0 b).setCell (p:=⟨g,2,none⟩) h0 c,?_⟩
  rcases hv.2 with ⟨o1,o2,o3⟩ | o
  . exact .inl ⟨o1,o2,dans_res3 o3 hb h0 h1 a b c⟩
  . exact .inr o
theorem told_fit {F:Nat} {cap:Array Value} {w:World} {V:Int} (hE:∀ w,(callFunc F cap).run Tryz.prog w=.ok (.enter F cap) w)
    (hy:Dok V->∀ W,Below w.heap.size w W->Calls Tryz.prog F cap W fun r W'=>∃ v,r=.returned v∧DAns W W' V v)
    (hn:¬ Dok V->∀ W,Below w.heap.size w W->Calls Tryz.prog F cap W fun r W'=>r=gaveUp∧Below W.heap.size W W') :
    Calls Tryz.prog 74 #[.func (.func F) #[] cap] w fun r w'=>∃ v er,r=.returned (.tuple #[v,.int .i64 er])∧DFit w w' V v er:=by
  by_cases h:Dok V
  . refine (told_yes F cap w V hE (hy h)).mono ?_
    rintro r w' ⟨v,rfl,hD⟩
    exact ⟨v,0,rfl,hD.below,.inl ⟨h,rfl,hD⟩⟩
  . refine (told_no F cap w hE (hn h)).mono ?_
    rintro r w' ⟨rfl,hb⟩
    exact ⟨_,2,rfl,hb,.inr ⟨h,rfl,rfl⟩⟩
theorem heap_a1 (w:World) (a:Obj):(w.alloc a).heap[w.heap.size]?=some a:=by
  show (w.heap.push a)[w.heap.size]?=some a
  simp
theorem size1 (w:World) (a:Obj):(w.alloc a).heap.size=w.heap.size + 1:=by
  show (w.heap.push a).size=_
  simp
theorem cell_keeps {w w':World} {p:Addr} {v:Value} (h:w.cell? p=some v) (hb:Below w.heap.size w w'):w'.cell? p=some v :=
  (hb.cell (World.block_lt_of_cell? w _ h)).trans h
theorem size_alloc (w:World) (a:Obj):(w.alloc a).heap.size=w.heap.size + 1:=size1 w a
theorem heap_past {w:World} {k:Nat} {x:Obj} (o:Obj) (h:w.heap[k]?=some x):(w.alloc o).heap[k]?=some x :=
  (Below.heap_alloc w o k (Array.getElem?_eq_some_iff.1 h).1).trans h
theorem heap_new {w:World} {k:Nat} (o:Obj) (h:k=w.heap.size):(w.alloc o).heap[k]?=some o:=by rw [h]; exact heap_a1 w o
theorem h3_0 (w:World) (a b c:Obj):(((w.alloc a).alloc b).alloc c).heap[w.heap.size]?=some a:=heap_past _ (heap_past _ (heap_a1 w a))
theorem h3_1 (w:World) (a b c:Obj):(((w.alloc a).alloc b).alloc c).heap[w.heap.size + 1]?=some b:=heap_past _ (heap_new _ (by rw [size_alloc]))
theorem h3_2 (w:World) (a b c:Obj):(((w.alloc a).alloc b).alloc c).heap[w.heap.size + 2]?=some c:=heap_new _ (by rw [size_alloc,size_alloc])
theorem bel_a3 (w:World) (a b c:Obj):Below w.heap.size w (((w.alloc a).alloc b).alloc c):=(bel_alloc2 w a b).alloc (by rw [size2]; omega) _
theorem size3 (w:World) (a b c:Obj):(((w.alloc a).alloc b).alloc c).heap.size=w.heap.size + 3:=by rw [size_alloc,size2]
theorem val_mono {d:Nat->Int} {n m:Nat} (h:Dig d n) (hm:m <= n):val d m <= val d n:=by
  have e:=val_split d m (n - m)
  rw [show m + (n - m)=n by omega] at e
  have a:=val_nonneg (show Dig (fun i=>d (m + i)) (n - m) from fun i hi=>h (m + i) (by omega))
  have:=Int.mul_nonneg (Int.le_of_lt (P_pos m)) a
  omega
set_option maxHeartbeats 400000 in
theorem small_any (ao:Option Addr) (n cap:Nat) (d:Nat->Int) (w:World) (h:Row w ao n cap d) (hd:Dig d n) (hn:n <= 3) (hv:val d n < 9223372036854775808) :
    Calls Tryz.prog 86 #[.slice ao n cap] w fun e w'=>e=.returned (.int .i64 (val d n))∧w'=w:=by
  have hl:=h.le
  have hm:=h.max
  have HV:Hid (val d n < 9223372036854775808):=hv
  clear hv
  go_enter Tryz.func86,Tryz.ntmps86
  go_wp2
  go_loop [3,7] (fun v i=>∃ k:Nat,k <= n∧i=.int .i64 k∧v=.int .i64 (val d k)) (fun _ i=>n - (intOf i).toNat)
  case atStart=>exact ⟨0,Nat.zero_le _,rfl,rfl⟩
  case round=>
    obtain ⟨k,hk,rfl,rfl⟩:=hrel
    by_cases hlt:k < n
    . obtain ⟨b,off,rfl,hb,hc⟩:=h.spot (by omega)
      have c:=hc k hlt
      have dk:=hd k hlt
      have v0:=val_nonneg (hd.le (show k <= n by omega))
      have v1:=val_lt (hd.le (show k <= n by omega))
      have m1:=val_mono hd (show k + 1 <= n by omega)
      have hv2:=HV.out
      rw [P_two] at v1
      have e1:val d (k + 1)=val d k + d k * 2 ^ (30 * k):=by rw [val_succ,P_two]
      have m0:0 <= d k * 2 ^ (30 * k):=Int.mul_nonneg dk.1 (Int.le_of_lt (two_pos _))
      have hw:wrap64 (d k * 2 ^ (30 * k))=d k * 2 ^ (30 * k):=IntWalk.wrap64_in _ ⟨by omega,by omega⟩
      have hor:bits .or .i64 (val d k) (d k * 2 ^ (30 * k))=val d (k + 1):=(or_add _ _ _ v0 v1 dk.1 (by omega)).trans e1.symm
      clear e1 m0 m1 hv2 v0 v1
      go_wp2
      go_round
      case rel=>exact ⟨k + 1,by omega,by go_num,rfl⟩
      case measure=>simp [intOf]; omega
    . obtain rfl:k=n:=by omega
      go_wp2
      go_ret
      exact ⟨rfl,rfl⟩
def IsRoot (A s:Int):Prop:=0 <= s∧s * s <= A∧A < (s + 1) * (s + 1)
def Abv (A s:Int):Prop:=∀ r,0 <= r->r * r <= A->r <= s
theorem abv_start {A:Int} (hA:0 <= A) {k:Nat} (h:A < 2 ^ (2 * k)):Abv A (2 ^ k):=fun r h0 hr=>by
  rcases Int.lt_or_le (2 ^ k) r with q | q
  . have h1:=Int.mul_le_mul (Int.le_of_lt q) (Int.le_of_lt q) (Int.le_of_lt (two_pos k)) h0
    rw [<- Int.pow_add,<- Nat.two_mul] at h1
    omega
  . exact q
theorem abv_next {A s:Int} (hs:0 < s) (h:Abv A s):Abv A ((s + A / s) / 2):=fun r h0 hr=>newton_above hs hr
theorem abv_done {A s:Int} (hs:0 < s) (h:Abv A s) (hst:s <= (s + A / s) / 2):IsRoot A s:=by
  refine ⟨by omega,newton_stop hs hst,?_⟩
  rcases Int.lt_or_le A ((s + 1) * (s + 1)) with q | q
  . exact q
  . have:=h (s + 1) (by omega) q
    omega
theorem Num.parts {w:World} {v:Value} {V:Int} (h:Num w v V) {k:Nat} (hV:V < P k):∃ ao n cap d,v=.slice ao n cap∧Row w ao n cap d∧Nrm d n∧val d n=V∧n <= k:=by
  obtain ⟨ao,n,cap,rfl⟩:=h.shape
  have hl:=h.len hV
  obtain ⟨ao',n',cap',d,e,hR,h2,h3⟩:=h
  simp only [Value.slice.injEq] at e
  obtain ⟨rfl,rfl,rfl⟩:=e
  exact ⟨ao,n,cap,d,rfl,hR,h2,h3,hl⟩
theorem divide_num {w:World} {x y:Value} {A B:Int} (hx:Num w x A) (hy:Num w y B) (hA:A < P 5000) (hB:0 < B) :
    Calls Tryz.prog 127 #[x,y] w fun e w'=>∃ v1 v2,e=.returned (.tuple #[v1,v2])∧Ans2 w w' (A / B) v1 (A % B) v2:=by
  obtain ⟨ao,n,ca,d,rfl,hR,h2,rfl,hl⟩:=hx.parts hA
  obtain ⟨bo,m,cb,e,rfl,kR,k2,rfl⟩:=hy
  have hm:0 < m:=by
    by_cases h:0 < m
    . exact h
    . obtain rfl:m=0:=by omega
      exact absurd hB (Int.lt_irrefl 0)
  exact divide_any _ _ _ _ _ _ _ _ _ hR kR h2 k2 hl hm
theorem sum_num {w:World} {x y:Value} {A B:Int} (hx:Num w x A) (hy:Num w y B) (hA:A < P 5000) (hB:B < P 5000) :
    Calls Tryz.prog 128 #[x,y] w fun e w'=>∃ v,e=.returned v∧Ans w w' (A + B) v:=by
  obtain ⟨ao,n,ca,d,rfl,hR,h2,rfl,hl⟩:=hx.parts hA
  obtain ⟨bo,m,cb,e,rfl,kR,k2,rfl,kl⟩:=hy.parts hB
  exact sum_any _ _ _ _ _ _ _ _ _ hR kR h2.1 k2.1 (by omega) (by omega)
theorem lower_num {w:World} {x:Value} {A:Int} (hx:Num w x A) (hA:A < P 6000) (k:Nat) (hk:(k:Int) < 9223372036854775808) :
    Calls Tryz.prog 110 #[x,.int .i64 k] w fun e w'=>∃ v,e=.returned v∧Ans w w' (A / 2 ^ k) v:=by
  obtain ⟨ao,n,ca,d,rfl,hR,h2,rfl,hl⟩:=hx.parts hA
  exact lower_any _ _ _ _ _ _ hR h2.1 (by omega) hk
theorem lower_half {w:World} {x:Value} {A:Int} (hx:Num w x A) (hA:A < P 6000) :
    Calls Tryz.prog 110 #[x,.int .i64 1] w fun e w'=>∃ v,e=.returned v∧Ans w w' (A / 2) v:=lower_num hx hA 1 (by decide)
theorem compare_num {w:World} {x y:Value} {A B:Int} (hx:Num w x A) (hy:Num w y B) :
    Calls Tryz.prog 129 #[x,y] w fun e w'=>e=.returned (.int .i64 (ord A B))∧Below w.heap.size w w':=by
  obtain ⟨ao,n,ca,d,rfl,hR,h2,rfl⟩:=hx
  obtain ⟨bo,m,cb,e,rfl,kR,k2,rfl⟩:=hy
  exact compare_any _ _ _ _ _ _ _ _ _ hR kR h2 k2
theorem raise_num {w:World} {x:Value} {A:Int} (hx:Num w x A) (hA:A < P 5000) (k:Nat) (hk:k <= 1000000) :
    Calls Tryz.prog 109 #[x,.int .i64 k] w fun e w'=>∃ v,e=.returned v∧Ans w w' (A * 2 ^ k) v:=by
  obtain ⟨ao,n,ca,d,rfl,hR,h2,rfl,hl⟩:=hx.parts hA
  exact raise_any _ _ _ _ _ _ hR h2.1 (by omega) hk
theorem difference_num {w:World} {x y:Value} {A B:Int} (hx:Num w x A) (hy:Num w y B) (hA:A < P 5000) (hle:B <= A) :
    Calls Tryz.prog 113 #[x,y] w fun e w'=>∃ v,e=.returned v∧Ans w w' (A - B) v:=by
  obtain ⟨ao,n,ca,d,rfl,hR,h2,rfl,hl⟩:=hx.parts hA
  obtain ⟨bo,m,cb,e,rfl,kR,k2,rfl⟩:=hy
  exact difference_any _ _ _ _ _ _ _ _ _ hR kR h2.1 k2.1 (by omega) (nrm_le_len k2 h2.1 hle) hle
theorem bitLength_num {w:World} {x:Value} {A:Int} (hx:Num w x A) (hA:A < P 5000) :
    Calls Tryz.prog 83 #[x] w fun e w'=>e=.returned (.int .i64 (blen A))∧w'=w:=by
  obtain ⟨ao,n,ca,d,rfl,hR,h2,rfl,hl⟩:=hx.parts hA
  exact bitLength_any _ _ _ _ _ hR h2 (by omega)
def RootA (w w':World) (A:Int) (v:Value):Prop:=∃ s,Ans w w' s v∧IsRoot A s
theorem root_bnd {A s:Int} (hA:A < P 2000) (hA0:0 <= A) (hs:0 < s) (h3:s < P 3000):A / s < P 5000∧s < P 5000∧s + A / s < P 6000:=by
  have h1:A / s <= A:=Int.ediv_le_self _ hA0
  have p1:=P_le (show 2000 <= 3000 by decide)
  have p2:=P_le (show 3000 <= 5000 by decide)
  have p3:P 3000 + P 3000 <= P 6000:=by
    have h:=P_le (show 3001 <= 6000 by decide)
    have e:P 3001=P 3000 * 1073741824:=P_succ 3000
    have:=P_pos 3000
    generalize P 3000=X at *
    generalize P 6000=Y at *
    generalize P 3001=Z at *
    omega
  generalize P 3000=X at *
  generalize P 6000=Y at *
  generalize P 5000=Z at *
  generalize P 2000=T at *
  refine ⟨?_,?_,?_⟩ <;> omega
def RootR (w0:World) (A:Int) (v:Value) (s:Int) (wr:World):Prop:=Ans w0 wr s v∧0 < s∧Abv A s∧s < P 3000
set_option maxRecDepth 100000 in
set_option maxHeartbeats 1000000 in
theorem root_any (ao:Option Addr) (n ca:Nat) (A:Int) (w:World) (ha:Num w (.slice ao n ca) A) (hA:A < P 2000) :
    Calls Tryz.prog 112 #[.slice ao n ca] w fun e w'=>∃ v,e=.returned v∧RootA w w' A v:=by
  have hA0:=ha.nonneg
  have hz:=ha.zero
  have hn:=ha.len hA
  have HA5:Hid (A < P 5000):=Int.lt_of_lt_of_le hA (P_le (by decide))
  have HA:Hid (A < P 2000):=hA
  clear hA
  by_cases h0:n=0
  . subst h0
    have HZ:Hid (IsRoot A 0):=by have:A=0:=hz.2 rfl; subst this; exact ⟨by omega,by omega,by omega⟩
    clear hz
    go_enter Tryz.func112,Tryz.ntmps112
    go_wp2
    go_ret
    exact ⟨_,rfl,0,Ans.nil (bel_refl _),HZ.out⟩
  . have e0:((n:Int) == 0)=false:=by simp; omega
    have hAp:0 < A:=by
      rcases Int.lt_or_eq_of_le hA0 with q | q
      . exact q
      . exact absurd (hz.1 q.symm) h0
    have hbl:blen A <= 60000:=blen_le (by rw [show (2:Int) ^ 60000=P 2000 from (P_two 2000).symm]; exact HA.out)
    obtain ⟨k,hk⟩:∃ k:Nat,(((blen A:Nat):Int) + 1) / 2=k:=⟨(blen A + 1) / 2,by omega⟩
    have hk1:k <= 30000:=by omega
    have HAB:Hid (Abv A (2 ^ k)):=abv_start hA0 (by
      have h1:=blen_lt A
      have h2:(2:Int) ^ blen A <= 2 ^ (2 * k):=two_le (by omega)
      omega)
    have HP3:Hid ((2:Int) ^ k < P 3000):=by
      have h1:(2:Int) ^ k < 2 ^ (30 * 3000):=two_lt (by omega)
      rw [<- P_two] at h1; exact h1
    have HR0:∀ w1 v,Ans w w1 (1 * 2 ^ k) v->RootR w A v (2 ^ k) w1:=fun w1 v h=>⟨by rw [Int.one_mul] at h; exact h,two_pos k,HAB.out,HP3.out⟩
    have P1:Hid ((1:Int) < P 5000):=Int.lt_of_lt_of_le (show (1:Int) < P 1 by decide) (P_le (by decide))
    clear hz
    go_enter Tryz.func112,Tryz.ntmps112
    go_wp2_with fail
    refine (bitLength_num (ha.alloc _) HA5.out).mono ?_
    rintro e w1 ⟨rfl,rfl⟩
    go_wp2_with fail
    refine (raise_num (num1 w 1 (by decide) (by decide) rfl) P1.out k (by omega)).mono ?_
    rintro e w2 ⟨v,rfl,hv⟩
    have hR2:=HR0 w2 v (hv.from (bel_alloc _ _))
    clear hv HR0
    go_wp2
    go_loopg [3] (((2:Int) ^ k).toNat) (fun g v wr=>∃ s:Int,RootR w A v s wr∧g=s.toNat)
    case atStart=>exact ⟨_,hR2,rfl⟩
    case round=>
      clear hR2
      obtain ⟨s,hR,hgk⟩:=hrel
      have HGK:Hid (gk=s.toNat):=hgk
      clear hgk
      obtain ⟨hs,hs0,hab,hs3⟩:=hR
      obtain ⟨B1,B2,B3⟩:=root_bnd HA.out hA0 hs0 hs3
      have HB1:Hid (A / s < P 5000):=B1
      have HB2:Hid (s < P 5000):=B2
      have HB3:Hid (s + A / s < P 6000):=B3
      have HAb:Hid (Abv A s):=hab
      have HS3:Hid (s < P 3000):=hs3
      clear B1 B2 B3 hab hs3
      go_wp2_with fail
      refine (divide_num (ha.keeps hs.below) hs.num HA5.out hs0).mono ?_
      rintro e w3 ⟨q,r,rfl,hq,hr,_⟩
      have b3:=hq.below
      go_wp2_with fail
      refine (sum_num (hs.num.keeps b3) hq.num HB2.out HB1.out).mono ?_
      rintro e w4 ⟨v4,rfl,h4⟩
      go_wp2_with fail
      refine (lower_half h4.num HB3.out).mono ?_
      rintro e w5 ⟨v5,rfl,h5⟩
      have b45:=bel_trans h4.below h5.below
      have hs5:=(hs.num.keeps b3).keeps b45
      go_wp2_with fail
      refine (compare_num h5.num hs5).mono ?_
      rintro e w6 ⟨rfl,b6⟩
      have b36:=bel_trans (bel_trans b3 b45) b6
      by_cases hge:s <= (s + A / s) / 2
      . have hd:decide (0 <= ord ((s + A / s) / 2) s)=true:=decide_eq_true (by have:=ord_ge hge; omega)
        go_wp2
        go_ret
        exact ⟨_,rfl,s,hs.stays b36,abv_done hs0 HAb.out hge⟩
      . have hd:decide (0 <= ord ((s + A / s) / 2) s)=false:=decide_eq_false (by rw [ord_lt (by omega)]; omega)
        have hn0:0 < (s + A / s) / 2:=by
          have:=abv_next hs0 HAb.out 1 (by omega) (by omega)
          omega
        have HN:Hid (RootR w A v5 ((s + A / s) / 2) w6):=⟨((h5.from h4.below).from (bel_trans hs.below b3)).stays b6,hn0,abv_next hs0 HAb.out,by
          have:=HS3.out
          generalize P 3000=X at *
          omega⟩
        have HLT:Hid (((s + A / s) / 2).toNat < s.toNat):=by show _ < _; omega
        go_wp2
        go_roundg (((s + A / s) / 2).toNat)
        case measure=>rw [HGK.out]; exact HLT.out
        case rel=>exact ⟨_,HN.out,rfl⟩
set_option maxRecDepth 100000 in
set_option maxHeartbeats 400000 in
theorem root_num {w:World} {x:Value} {A:Int} (hx:Num w x A) (hA:A < P 2000) :
    Calls Tryz.prog 85 #[x] w fun e w'=>∃ v1 v2,e=.returned (.tuple #[v1,v2,.int .i64 0])∧∃ s,IsRoot A s∧Ans2 w w' s v1 (A - s * s) v2:=by
  have hx':=hx
  have HA5:Hid (A < P 5000):=Int.lt_of_lt_of_le hA (P_le (by decide))
  obtain ⟨ao,n,ca,d,rfl,hR,h2,rfl⟩:=hx
  have ok:=Num.ok h2 hA
  have HA:Hid (val d n < P 2000):=hA
  clear hA
  go_enter Tryz.func85,Tryz.ntmps85
  go_wp2_with fail
  refine (valid_any _ _ _ _ _ hR).mono ?_
  rintro e w' ⟨rfl,rfl⟩
  go_wp2_with fail
  refine (root_any _ _ _ _ _ hx' HA.out).mono ?_
  rintro e w1 ⟨v1,rfl,s,h1,hroot⟩
  have hs0:=hroot.1
  have hs1:=hroot.2.1
  have HSB:Hid (s < P 100000):=by
    have h3:s <= val d n:=by
      rcases Int.lt_or_eq_of_le hs0 with q | q
      . have:1 * s <= s * s:=mul_le_r (by omega) hs0
        omega
      . rw [<- q]; exact val_nonneg h2.1
    exact Int.lt_of_le_of_lt h3 (Int.lt_of_lt_of_le HA.out (P_le (by decide)))
  go_wp2_with fail
  refine (product_num h1.num h1.num HSB.out HSB.out).mono ?_
  rintro e w2 ⟨v2,rfl,h3⟩
  go_wp2_with fail
  refine (difference_num (hx'.keeps (bel_trans h1.below h3.below)) h3.num HA5.out hs1).mono ?_
  rintro e w3 ⟨v3,rfl,h4⟩
  have b13:=bel_trans h3.below h4.below
  go_wp2
  go_ret3
  refine ⟨_,_,rfl,s,hroot,h1.stays b13,h4.from (bel_trans h1.below h3.below),?_⟩
  intro c hc hc2
  obtain ⟨t1,d1,hO1,_⟩:=h1
  obtain ⟨t4,d4,hO4,_⟩:=h4
  have e1:=(World.ownsRow.lt hO1 c hc).2
  have e2:=own_ge hO4 c hc2
  have:=h3.below.size
  omega
structure NumR where
  ng:Bool
  ao:Option Addr
  n:Nat
  cap:Nat
  d:Nat->Int
  e:Int
instance:Inhabited NumR:=⟨⟨false,none,0,0,fun _=>0,0⟩⟩
def NumR.v (r:NumR):Value:=.agg #[.bool r.ng,.slice r.ao r.n r.cap,.int .i64 r.e]
structure At3 (w:World) (b o:Nat) (r:NumR):Prop where
  c0:w.cell? ⟨b,o,none⟩=some (.bool r.ng)
  c1:w.cell? ⟨b,o + 1,none⟩=some (.slice r.ao r.n r.cap)
  c2:w.cell? ⟨b,o + 2,none⟩=some (.int .i64 r.e)
  row:Row w r.ao r.n r.cap r.d
structure Nums (w:World) (ao:Option Addr) (n cap:Nat) (r:Nat->NumR):Prop where
  le:n <= cap
  max:cap <= 9223372036854775807
  spot:0 < n->∃ b off,ao=some ⟨b,off,none⟩∧b < w.heap.size∧∀ i,i < n->At3 w b (off + i * 3) (r i)
theorem At3.keeps {w w':World} {b o:Nat} {r:NumR} (h:At3 w b o r) (hb:Below w.heap.size w w') (hlt:b < w.heap.size):At3 w' b o r :=
  ⟨(hb.cell (p:=⟨b,o,none⟩) hlt).trans h.c0,(hb.cell (p:=⟨b,o + 1,none⟩) hlt).trans h.c1,(hb.cell (p:=⟨b,o + 2,none⟩) hlt).trans h.c2,h.row.keeps hb⟩
theorem Nums.keeps {w w':World} {ao:Option Addr} {n cap:Nat} {r:Nat->NumR} (h:Nums w ao n cap r) (hb:Below w.heap.size w w'):Nums w' ao n cap r :=
  ⟨h.le,h.max,fun hn=>by
    obtain ⟨b,off,rfl,hlt,hc⟩:=h.spot hn
    exact ⟨b,off,rfl,Nat.lt_of_lt_of_le hlt hb.size,fun i hi=>(hc i hi).keeps hb hlt⟩⟩
def okR (r:NumR):Bool:=okN r.ng r.d r.n r.e
def allOk (r:Nat->NumR) (n:Nat):Bool:=decide (∀ i,i < n->okR (r i)=true)
set_option maxRecDepth 100000 in
set_option maxHeartbeats 1000000 in
theorem dvalids_any (ao:Option Addr) (n cap:Nat) (r:Nat->NumR) (w:World) (h:Nums w ao n cap r) :
    Calls Tryz.prog 73 #[.slice ao n cap] w fun x w'=>x=.returned (.bool (allOk r n))∧Below w.heap.size w w':=by
  have hl:=h.le
  have hm:=h.max
  go_enter Tryz.func73,Tryz.ntmps73
  go_wp2_with fail
  go_loopw [7] (fun i wr=>∃ k:Nat,k <= n∧i=.int .i64 k∧Hid (∀ j,j < k->okR (r j)=true)∧Below w.heap.size w wr) (fun i _=>n - (intOf i).toNat)
  case atStart=>exact ⟨0,Nat.zero_le _,rfl,fun j hj=>by omega,bel_refl _⟩
  case round=>
    obtain ⟨k,hk,rfl,HO,hbw⟩:=hrel
    by_cases hlt:k < n
    . obtain ⟨b,off,rfl,hb,hc⟩:=h.spot (by omega)
      obtain ⟨c0,c1,c2,hR⟩:=(hc k hlt).keeps hbw hb
      generalize hr:r k=x at *
      obtain ⟨ng,xo,xn,xc,xd,xe⟩:=x
      simp only at c0 c1 c2 hR
      by_cases hok:okN ng xd xn xe=true
      . go_wp2_with (go_at_call 82; refine (dvalid_any ng xo xn xc xd xe _ (hR.alloc _)).mono ?_; rintro x w1 ⟨rfl,hb1⟩)
        go_roundw
        case rel=>exact ⟨k + 1,by omega,by go_num,fun j hj=>by
            by_cases e:j=k
            . subst e; rw [hr]; exact hok
            . exact HO.out j (by omega),hbw.trans ((bel_trans (bel_alloc _ _) hb1).mono hbw.size)⟩
        case measure=>simp [intOf]; omega
      . have hok':okN ng xd xn xe=false:=by simpa using hok
        go_wp2_with (go_at_call 82; refine (dvalid_any ng xo xn xc xd xe _ (hR.alloc _)).mono ?_; rintro x w1 ⟨rfl,hb1⟩)
        go_ret
        exact ⟨ret_bool (by
          symm
          refine decide_eq_false fun hx=>?_
          have:=hx k hlt
          rw [hr] at this
          exact hok this),hbw.trans ((bel_trans (bel_alloc _ _) hb1).mono hbw.size)⟩
    . obtain rfl:k=n:=by omega
      go_wp2
      go_ret
      exact ⟨ret_bool (decide_eq_true HO.out).symm,hbw⟩
theorem keepB {W w':World} {g:Nat} {a b c:Value} (h:W.cell? ⟨g,0,none⟩=some a∧W.cell? ⟨g,1,none⟩=some b∧W.cell? ⟨g,2,none⟩=some c) (hb:Below W.heap.size W w') :
    w'.cell? ⟨g,0,none⟩=some a∧w'.cell? ⟨g,1,none⟩=some b∧w'.cell? ⟨g,2,none⟩=some c:=⟨cell_keeps h.1 hb,cell_keeps h.2.1 hb,cell_keeps h.2.2 hb⟩
theorem keepW {W w':World} {g o:Nat} {a b c:Value} (h:W.cell? ⟨g,0,none⟩=some a∧W.cell? ⟨g,1,none⟩=some b∧W.cell? ⟨g,2,none⟩=some c) (hw:Wr o W w') (hg:g ≠ o) :
    w'.cell? ⟨g,0,none⟩=some a∧w'.cell? ⟨g,1,none⟩=some b∧w'.cell? ⟨g,2,none⟩=some c :=
  ⟨(hw.cell (World.block_lt_of_cell? W _ h.1) hg).trans h.1,(hw.cell (World.block_lt_of_cell? W _ h.2.1) hg).trans h.2.1,(hw.cell (World.block_lt_of_cell? W _ h.2.2) hg).trans h.2.2⟩
theorem keepS {W:World} {g o:Nat} {a b c:Value} (h:W.cell? ⟨g,0,none⟩=some a∧W.cell? ⟨g,1,none⟩=some b∧W.cell? ⟨g,2,none⟩=some c) (hg:g ≠ o) (x y z:Value) :
    (((W.setCell ⟨o,0,none⟩ x).setCell ⟨o,1,none⟩ y).setCell ⟨o,2,none⟩ z).cell? ⟨g,0,none⟩=some a∧(((W.setCell ⟨o,0,none⟩ x).setCell ⟨o,1,none⟩ y).setCell ⟨o,2,none⟩ z).cell? ⟨g,1,none⟩=some b∧(((W.setCell ⟨o,0,none⟩ x).setCell ⟨o,1,none⟩ y).setCell ⟨o,2,none⟩ z).cell? ⟨g,2,none⟩=some c :=
  keepW h (((Wr.refl o W).setCell 0 x |>.setCell 1 y).setCell 2 z) hg
def Sane (r:NumR):Prop:=Nrm r.d r.n∧r.n <= 5000∧-1100000 <= r.e∧r.e <= 1100000
structure Rch (r:Nat->NumR) (k:Nat) (low high:Int):Prop where
  none:(∀ i,i < k->(r i).n=0)->low=9223372036854775807∧high=-9223372036854775808
  some:(∃ i,i < k∧0 < (r i).n)->-1100000 <= low∧low <= 1100000∧-1100000 <= high∧high <= 1250000
  all:∀ i,i < k->0 < (r i).n->low <= (r i).e∧(r i).e + blen (val (r i).d (r i).n) <= high
theorem Sane.len {x:NumR} (h:Sane x):blen (val x.d x.n) <= 150000:=by
  have:=blen_le (V:=val x.d x.n) (k:=30 * x.n) (by rw [<- P_two]; exact val_lt h.1.1)
  have:=h.2.1
  omega
theorem Rch.zero {r:Nat->NumR} {k:Nat} {low high:Int} (h:Rch r k low high) (h0:(r k).n=0):Rch r (k + 1) low high :=
  ⟨fun hx=>h.none fun i hi=>hx i (by omega),fun ⟨i,hi,hp⟩=>h.some ⟨i,by
    by_cases e:i=k
    . subst e; omega
    . omega,hp⟩,fun i hi hp=>by
    by_cases e:i=k
    . subst e; omega
    . exact h.all i (by omega) hp⟩
theorem Rch.step {r:Nat->NumR} {k:Nat} {low high:Int} (h:Rch r k low high) (h0:0 < (r k).n) (hs:Sane (r k)):Rch r (k + 1) (min low (r k).e) (max high ((r k).e + blen (val (r k).d (r k).n))):=by
  obtain ⟨s1,s2,s3,s4⟩:=id hs
  have s5:=hs.len
  refine ⟨fun hx=>by have:=hx k (by omega); omega,fun _=>?_,fun i hi hp=>?_⟩
  . by_cases hx:∀ i,i < k->(r i).n=0
    . obtain ⟨a,b⟩:=h.none hx
      subst a b
      omega
    . have:∃ i,i < k∧0 < (r i).n:=by
        simp only [Classical.not_forall] at hx
        obtain ⟨i,hi,hp⟩:=hx
        exact ⟨i,hi,by omega⟩
      have:=h.some this
      omega
  . by_cases e:i=k
    . subst e; omega
    . have:=h.all i (by omega) hp; omega
set_option maxRecDepth 100000 in
set_option maxHeartbeats 1000000 in
theorem reach_any (ao:Option Addr) (n cap:Nat) (r:Nat->NumR) (w:World) (h:Nums w ao n cap r) (hs:∀ i,i < n->Sane (r i)) :
    Calls Tryz.prog 100 #[.slice ao n cap] w fun x w'=>∃ low high,x=.returned (.tuple #[.int .i64 low,.int .i64 high])∧Rch r n low high∧Below w.heap.size w w':=by
  have hl:=h.le
  have hm:=h.max
  have HS:Hid (∀ i,i < n->Sane (r i)):=hs
  clear hs
  have hmin:∀ (ts:Array TypeId) (t:TypeId) (x y:Int) (w:World),(Builtin.min_ ts t #[.int .i64 x,.int .i64 y]).run Tryz.prog w=.ok (.int .i64 (min x y)) w:=fun ts t x y w=>by rw [run_min_int2]; congr 2; omega
  have hmax:∀ (ts:Array TypeId) (t:TypeId) (x y:Int) (w:World),(Builtin.max_ ts t #[.int .i64 x,.int .i64 y]).run Tryz.prog w=.ok (.int .i64 (max x y)) w:=fun ts t x y w=>by rw [run_max_int2]; congr 2; omega
  go_enter Tryz.func100,Tryz.ntmps100
  go_wp2_with fail
  go_loopw [2,3,8] (fun lo hi i wr=>∃ (k:Nat) (low high:Int),k <= n∧i=.int .i64 k∧lo=.int .i64 low∧hi=.int .i64 high∧Hid (Rch r k low high)∧Below w.heap.size w wr) (fun _ _ i _=>n - (intOf i).toNat)
  case atStart=>exact ⟨0,_,_,Nat.zero_le _,rfl,rfl,rfl,⟨fun _=>⟨rfl,rfl⟩,fun ⟨i,hi,_⟩=>by omega,fun i hi=>by omega⟩,bel_refl _⟩
  case round=>
    obtain ⟨k,low,high,hk,rfl,rfl,rfl,HR,hbw⟩:=hrel
    by_cases hlt:k < n
    . obtain ⟨b,off,rfl,hb,hc⟩:=h.spot (by omega)
      obtain ⟨c0,c1,c2,hR⟩:=(hc k hlt).keeps hbw hb
      have hsk:=HS.out k hlt
      have hst:=fun h0=>HR.out.step (k:=k) h0 hsk
      have hze:=fun h0=>HR.out.zero (k:=k) h0
      have hlen:=hsk.len
      generalize hr:r k=x at *
      obtain ⟨ng,xo,xn,xc,xd,xe⟩:=x
      obtain ⟨s1,s2,s3,s4⟩:=hsk
      simp only at c0 c1 c2 hR s1 s2 s3 s4 hst hze hlen
      by_cases h0:xn=0
      . subst h0
        have HZ:Hid (Rch r (k + 1) low high):=hze rfl
        clear hst hze
        go_wp2
        go_roundw
        case rel=>exact ⟨k + 1,low,high,by omega,by go_num,rfl,rfl,HZ,hbw.trans ((bel_alloc _ _).mono hbw.size)⟩
        case measure=>simp [intOf]; omega
      . have HZ:Hid (Rch r (k + 1) (min low xe) (max high (xe + blen (val xd xn)))):=hst (by omega)
        have hlp:(0:Int) < xn:=by omega
        have HM:Hid (∀ L H,L=min low xe->H=max high (xe + blen (val xd xn))->Rch r (k + 1) L H):=fun L H e1 e2=>by rw [e1,e2]; exact HZ.out
        have q0:=heap_a1 wr (.cells #[.bool ng,.slice xo xn xc,.int .i64 xe] 79)
        have hbx:Below w.heap.size w (wr.alloc (.cells #[.bool ng,.slice xo xn xc,.int .i64 xe] 79)):=hbw.trans ((bel_alloc _ _).mono hbw.size)
        have hRx:=hR.alloc (.cells #[.bool ng,.slice xo xn xc,.int .i64 xe] 79)
        clear HZ hst hze
        go_wp2_with fail
        generalize wr.alloc (.cells #[.bool ng,.slice xo xn xc,.int .i64 xe] 79)=wx at q0 hbx hRx ⊢
        have k0:=blkC q0 0 rfl
        have k1:=blkC q0 1 rfl
        have k2:=blkC q0 2 rfl
        have hb1:=bel_refl wx
        have C1:∀ W,Below wx.heap.size wx W->Calls Tryz.prog 123 #[.agg #[.bool ng,.slice xo xn xc,.int .i64 xe]] W fun y w'=>y=.returned (.int .i64 (xe + blen (val xd xn)))∧Below W.heap.size W w':=fun W h=>dtop_any ng xo xn xc xd xe W (hRx.keeps h) s1 (by omega) (by omega) (by omega)
        go_region_held3 (fun W=>W.cell? ⟨wr.heap.size,0,none⟩=some (.bool ng)∧W.cell? ⟨wr.heap.size,1,none⟩=some (.slice xo xn xc)∧W.cell? ⟨wr.heap.size,2,none⟩=some (.int .i64 xe))
          (first | exact ⟨k0,k1,k2⟩ | assumption | exact keepB (W:=wx.drew) ⟨k0,k1,k2⟩ hbv1)
          (first | (go_at_call 123; refine (C1 _ hb1.drew).mono ?_; rintro y w3 ⟨rfl,hbv1⟩) | fail)
        all_goals go_wp2
        all_goals
          go_roundw
          case rel=>exact ⟨k + 1,_,_,by omega,by go_num,rfl,rfl,HM.out _ _ (by omega) (by omega),hbx.trans ((bel_trans hb1.drew hbv1).mono hbx.size)⟩
          case measure=>simp [intOf]; omega
    . obtain rfl:k=n:=by omega
      go_wp2
      go_ret2
      exact ⟨_,_,rfl,HR.out,hbw⟩
set_option maxHeartbeats 1000000 in
theorem carry_low (g N:Nat) (r0:Nat->Int) (w:World) (hB0:Blk w g N r0) (hNm:N <= 1000000) (hC0:∀ i,i < N->-2305843009213693952 <= r0 i∧r0 i <= 2305843009213693952) :
    Calls Tryz.prog 124 #[.slice (some ⟨g,0,none⟩) N N] w fun e w'=>∃ o r,e=.returned (.int .i64 o)∧Blk w' g N r∧Wr g w w'∧Dig r N∧val r N + o * P N=val r0 N:=by
  have HC:Hid (∀ i,i < N->-2305843009213693952 <= r0 i∧r0 i <= 2305843009213693952):=hC0
  clear hC0
  go_enter Tryz.func124,Tryz.ntmps124
  go_wp2
  go_loopw [3,7] (fun o i wr=>∃ (k:Nat) (o':Int) (r:Nat->Int),k <= N∧i=.int .i64 k∧o=.int .i64 o'∧-2305843009213693952 <= o'∧o' <= 2305843009213693952∧Blk wr g N r∧Hid (Dig r k)∧Hid (∀ i,k <= i->r i=r0 i)∧Hid (val r k + o' * P k=val r0 k)∧Wr g w wr) (fun _ i _=>N - (intOf i).toNat)
  case atStart=>exact ⟨0,0,r0,Nat.zero_le _,rfl,rfl,by omega,by omega,hB0,fun i hi=>by omega,fun _ _=>rfl,by show (0:Int) + 0 * 1=0; omega,Wr.refl _ _⟩
  case round=>
    obtain ⟨k,o,r,hk,rfl,rfl,ho0,ho1,hB,HD,HZ,HV,hW⟩:=hrel
    by_cases hlt:k < N
    . have cg:=hB.cell hlt
      have fg:=hB.frozen k
      have hr:-2305843009213693952 <= r k∧r k <= 2305843009213693952:=by rw [HZ.out k (Nat.le_refl _)]; exact HC.out k hlt
      obtain ⟨hr0,hr1⟩:=hr
      have h30:=and_30 (o + r k)
      have hm:=mod_dig (o + r k)
      have HV2:Hid (val (upd r k ((o + r k) % 1073741824)) (k + 1) + (o + r k) / 1073741824 * P (k + 1)=val r0 (k + 1)):=by
        show _=_
        rw [val_succ,upd_same,val_upd_ge _ _ (Nat.le_refl _),P_succ,carry_step,val_succ,<- HV.out,HZ.out k (Nat.le_refl _)]
      go_wp2
      go_roundw
      case rel=>exact ⟨k + 1,(o + r k) / 1073741824,upd r k ((o + r k) % 1073741824),by omega,by go_num,rfl,by omega,by omega,hB.store k _,fun i hi=>by
          by_cases e:i=k
          . rw [e,upd_same]; exact hm
          . rw [upd_other r _ e]; exact HD.out i (by omega),fun i hi=>by rw [upd_other r _ (by omega)]; exact HZ.out i (by omega),HV2,hW.setCell _ _⟩
      case measure=>simp [intOf]; omega
    . obtain rfl:k=N:=by omega
      go_wp2
      go_ret
      exact ⟨_,r,rfl,hB,hW,HD.out,HV.out⟩
theorem carry_sign {S R o Pn:Int} (hP:0 < Pn) (h0:0 <= R) (h1:R < Pn) (e:R + o * Pn=S) (hS:-Pn < S∧S < Pn):(0 <= S∧o=0∧R=S)∨(S < 0∧o=-1∧R=S + Pn):=by
  by_cases ho:0 <= o
  . by_cases ho1:o=0
    . subst ho1; left; omega
    . have:1 * Pn <= o * Pn:=Int.mul_le_mul_of_nonneg_right (by omega) (by omega)
      omega
  . by_cases ho1:o=-1
    . subst ho1; right; omega
    . have:o * Pn <= (-2) * Pn:=Int.mul_le_mul_of_nonneg_right (by omega) (by omega)
      omega
theorem val_neg (r:Nat->Int) (n:Nat):val (fun i=>-r i) n=-val r n:=by
  induction n with
  | zero=>rfl
  | succ n ih=>rw [val_succ,val_succ,ih,Int.neg_mul]; omega
set_option maxHeartbeats 1000000 in
theorem carry_any (g N:Nat) (r0:Nat->Int) (w:World) (hB0:Blk w g N r0) (hNm:N <= 1000000) (hC0:∀ i,i < N->-2305843009213693952 <= r0 i∧r0 i <= 2305843009213693952) (hS:-P N < val r0 N∧val r0 N < P N) :
    Calls Tryz.prog 103 #[.slice (some ⟨g,0,none⟩) N N] w fun e w'=>∃ r,e=.returned (.bool (decide (val r0 N < 0)))∧Blk w' g N r∧Wr g w w'∧Dig r N∧sg (decide (val r0 N < 0)) (val r N)=val r0 N:=by
  have HS:Hid (-P N < val r0 N∧val r0 N < P N):=hS
  clear hS
  go_enter Tryz.func103,Tryz.ntmps103
  go_wp2_with fail
  refine (carry_low g N r0 w hB0 hNm hC0).mono ?_
  rintro e w1 ⟨o,r,rfl,hB1,hW1,hD1,hV1⟩
  rcases carry_sign (P_pos N) (val_nonneg hD1) (val_lt hD1) hV1 HS.out with ⟨hs,rfl,hR⟩ | ⟨hs,rfl,hR⟩
  . have HR:Hid (val r N=val r0 N):=hR
    have HH:Hid (0 <= val r0 N):=hs
    clear hV1 hR hs hC0
    go_wp2
    go_ret
    have:decide (val r0 N < 0)=false:=decide_eq_false (by have:=HH.out; omega)
    exact ⟨r,ret_bool this.symm,hB1,hW1,hD1,by rw [this]; exact HR.out⟩
  . have HR:Hid (val r N=val r0 N + P N):=hR
    have HH:Hid (val r0 N < 0):=hs
    have HD:Hid (Dig r N):=hD1
    clear hV1 hR hs hC0 hD1
    go_wp2
    go_loopw [9] (fun i wr=>∃ (k:Nat) (r':Nat->Int),k <= N∧i=.int .i64 k∧Blk wr g N r'∧Hid (∀ i,i < k->r' i=-r i)∧Hid (∀ i,k <= i->r' i=r i)∧Wr g w wr) (fun i _=>N - (intOf i).toNat)
    case atStart=>exact ⟨0,r,Nat.zero_le _,rfl,hB1,fun i hi=>by omega,fun _ _=>rfl,hW1⟩
    case round=>
      obtain ⟨k,r',hk,rfl,hB,HX,HY,hW⟩:=hrel
      by_cases hlt:k < N
      . have cg:=hB.cell hlt
        have fg:=hB.frozen k
        have hr:0 <= r' k∧r' k < 1073741824:=by rw [HY.out k (Nat.le_refl _)]; exact HD.out k hlt
        obtain ⟨hr0,hr1⟩:=hr
        go_wp2
        go_roundw
        case rel=>exact ⟨k + 1,upd r' k (-r' k),by omega,by go_num,hB.store k _,fun i hi=>by
            by_cases e:i=k
            . rw [e,upd_same,HY.out k (Nat.le_refl _)]
            . rw [upd_other r' _ e]; exact HX.out i (by omega),fun i hi=>by rw [upd_other r' _ (by omega)]; exact HY.out i (by omega),hW.setCell _ _⟩
        case measure=>simp [intOf]; omega
      . obtain rfl:k=N:=by omega
        go_wp2_with fail
        refine (carry_low g k r' _ hB hNm (fun i hi=>by rw [HX.out i hi]; have:=HD.out i hi; omega)).mono ?_
        rintro e w2 ⟨o2,r2,rfl,hB2,hW2,hD2,hV2⟩
        go_wp2
        go_ret
        have e1:val r' k=-val r k:=by rw [val_congr HX.out,val_neg]
        have hn:=HH.out
        have hR:=HR.out
        have hS:=HS.out.1
        rw [e1] at hV2
        have:decide (val r0 k < 0)=true:=decide_eq_true hn
        refine ⟨r2,ret_bool this.symm,hB2,hW.trans hW2,hD2,?_⟩
        rw [this]
        show -val r2 k=val r0 k
        have a0:=val_nonneg hD2
        have a1:=val_lt hD2
        rcases carry_sign (P_pos k) a0 a1 hV2 (by omega) with ⟨c1,rfl,c3⟩ | ⟨c1,rfl,c3⟩ <;> omega
def sumV (r:Nat->NumR):Nat->Int | 0=>0 | k + 1=>sumV r k + sg (r k).ng (val (r k).d (r k).n) * pw (r k).e
def DOut (w:World) (V:Int) (x:Ending) (w':World):Prop:=(Dok V∧∃ v,x=.returned v∧DAns w w' V v)∨(¬ Dok V∧x=gaveUp∧Below w.heap.size w w')
theorem settle_any {ng:Bool} {ao:Option Addr} {n cap:Nat} {d:Nat->Int} {e:Int} {w:World} (h:Row w ao n cap d) (hd:Dig d n) (hn:n <= 100000) (hT:Tab w) (he:-4194304 <= e) {V:Int} (hV:V=sg ng (val d n) * pw e) :
    Calls Tryz.prog 97 #[.agg #[.bool ng,.slice ao n cap,.int .i64 e]] w (DOut w V):=by
  by_cases hok:Dok V
  . refine (settle_ok h hd hn hT he hV hok).mono ?_
    rintro x w' ⟨v,rfl,hD⟩
    exact .inl ⟨hok,v,rfl,hD⟩
  . refine (settle_long h hd hn hT he hV hok).mono ?_
    rintro x w' ⟨rfl,hb⟩
    exact .inr ⟨hok,rfl,hb⟩
theorem told_any {F:Nat} {cap:Array Value} {w:World} {V:Int} (hE:∀ w,(callFunc F cap).run Tryz.prog w=.ok (.enter F cap) w) (h:∀ W,Below w.heap.size w W->Calls Tryz.prog F cap W (DOut W V)) :
    Calls Tryz.prog 74 #[.func (.func F) #[] cap] w fun r w'=>∃ v er,r=.returned (.tuple #[v,.int .i64 er])∧DFit w w' V v er:=by
  refine told_fit hE (fun hok W hW=>(h W hW).mono ?_) (fun hok W hW=>(h W hW).mono ?_)
  . rintro x w' (⟨_,v,rfl,hD⟩ | ⟨hn,_⟩)
    . exact ⟨v,rfl,hD⟩
    . exact absurd hok hn
  . rintro x w' (⟨hy,_⟩ | ⟨_,rfl,hb⟩)
    . exact absurd hy hok
    . exact ⟨rfl,hb⟩
theorem sumV_zero {r:Nat->NumR}:∀ {n:Nat},(∀ i,i < n->(r i).n=0)->sumV r n=0
  | 0,_=>rfl
  | n + 1,h=>by
    show sumV r n + _=0
    rw [sumV_zero fun i hi=>h i (by omega),h n (by omega)]
    show 0 + sg _ 0 * _=0
    rw [sg_zero,Int.zero_mul,Int.add_zero]
theorem sum_bound {r:Nat->NumR} {k:Nat} {low high:Int} (hs:Sane (r k)) (ha:low <= (r k).e∧(r k).e + blen (val (r k).d (r k).n) <= high) :
    val (r k).d (r k).n * 2 ^ ((r k).e - low).toNat < 2 ^ (high - low).toNat∧0 <= val (r k).d (r k).n * 2 ^ ((r k).e - low).toNat:=by
  have hv:=val_nonneg hs.1.1
  obtain ⟨a,b⟩:=ha
  have h1:=blen_lt (val (r k).d (r k).n)
  have h2:val (r k).d (r k).n * 2 ^ ((r k).e - low).toNat < 2 ^ blen (val (r k).d (r k).n) * 2 ^ ((r k).e - low).toNat:=Int.mul_lt_mul_of_pos_right h1 (two_pos _)
  rw [<- Int.pow_add] at h2
  have h3:(2:Int) ^ (blen (val (r k).d (r k).n) + ((r k).e - low).toNat) <= 2 ^ (high - low).toNat:=two_le (by omega)
  exact ⟨by omega,Int.mul_nonneg hv (Int.le_of_lt (two_pos _))⟩
structure TotP (r:Nat->NumR) (low high:Int) (N k:Nat) (c:Nat->Int):Prop where
  sum:val c N * pw low=sumV r k
  bnd:∀ i,i < N->-((k:Int) * 1073741823) <= c i∧c i <= k * 1073741823
  lo:-((k:Int) * 2 ^ (high - low).toNat) <= val c N
  hi:val c N <= k * 2 ^ (high - low).toNat
theorem TotP.start (r:Nat->NumR) (low high:Int) (N:Nat):TotP r low high N 0 (fun _=>0):=by
  have e:val (fun _=>0) N=0:=val_zeros (Nat.zero_le _) (fun _ _ _=>rfl)
  exact ⟨by rw [e,Int.zero_mul]; rfl,fun i _=>⟨by omega,by omega⟩,by rw [e]; simp,by rw [e]; simp⟩
theorem TotP.skip {r:Nat->NumR} {low high:Int} {N k:Nat} {c:Nat->Int} (h:TotP r low high N k c) (h0:(r k).n=0):TotP r low high N (k + 1) c:=by
  have e:sumV r (k + 1)=sumV r k:=by
    show sumV r k + _=_
    rw [h0]
    show sumV r k + sg _ 0 * _=_
    rw [sg_zero,Int.zero_mul,Int.add_zero]
  have hp:=two_pos (high - low).toNat
  have e2:((k + 1:Nat):Int) * 2 ^ (high - low).toNat=k * 2 ^ (high - low).toNat + 2 ^ (high - low).toNat:=by rw [Int.natCast_add,Int.add_mul]; simp
  refine ⟨by rw [e]; exact h.sum,fun i hi=>?_,?_,?_⟩
  . have:=h.bnd i hi; omega
  . have:=h.lo; omega
  . have:=h.hi; omega
theorem sgn_sg (ng:Bool) {n:Nat} (h:0 < n) (x:Int):sgn ng n * x=sg ng x∧(sgn ng n=1∨sgn ng n=-1):=by
  have:n ≠ 0:=by omega
  cases ng <;> simp [sgn,sg,this]
theorem TotP.put {r:Nat->NumR} {low high:Int} {N k q p:Nat} {c c':Nat->Int} (h:TotP r low high N k c) (hs:Sane (r k)) (h0:0 < (r k).n) (ha:low <= (r k).e∧(r k).e + blen (val (r k).d (r k).n) <= high) (hl:-4194304 <= low) (hqp:(r k).e - low=30 * q + p) (hp:p < 30)
    (hP:Piled N c (sgn (r k).ng (r k).n) (P q * (2 ^ p * val (r k).d (r k).n)) c'):TotP r low high N (k + 1) c':=by
  obtain ⟨b1,b0⟩:=sum_bound hs ha
  obtain ⟨a1,a2⟩:=ha
  have e1:(2:Int) ^ ((r k).e - low).toNat=P q * 2 ^ p:=by
    rw [show ((r k).e - low).toNat=30 * q + p by omega,Int.pow_add,P_two]
  have e2:P q * (2 ^ p * val (r k).d (r k).n)=val (r k).d (r k).n * 2 ^ ((r k).e - low).toNat:=by rw [e1]; grind
  rw [e2] at hP
  generalize hX:val (r k).d (r k).n * 2 ^ ((r k).e - low).toNat=X at *
  obtain ⟨s1,s2⟩:=sgn_sg (r k).ng h0 X
  have hsum:=hP.sum
  rw [s1] at hsum
  have hpp:=two_pos (high - low).toNat
  have e3:((k + 1:Nat):Int) * 2 ^ (high - low).toNat=k * 2 ^ (high - low).toNat + 2 ^ (high - low).toNat:=by rw [Int.natCast_add,Int.add_mul]; simp
  have hsx:-X <= sg (r k).ng X∧sg (r k).ng X <= X:=by cases (r k).ng <;> simp [sg] <;> omega
  refine ⟨?_,fun i hi=>?_,?_,?_⟩
  . rw [hsum,Int.add_mul,h.sum]
    show _=sumV r k + sg (r k).ng (val (r k).d (r k).n) * pw (r k).e
    rw [pw_sub hl a1,<- hX,sg_sgn,sg_sgn]; grind
  . have h1:=h.bnd i hi
    have h2:=pile_near s2 (hP.near i) (C:=k * 1073741823) h1
    omega
  . have:=h.lo; omega
  . have:=h.hi; omega
theorem len_blen {d:Nat->Int} {n:Nat} (h:Nrm d n) (h0:0 < n):30 * (n - 1) + 1 <= blen (val d n):=by
  obtain ⟨m,rfl⟩:∃ m,n=m + 1:=⟨n - 1,by omega⟩
  rw [blen_val h]
  have hd:=h.1 m (by omega)
  have ht:d m ≠ 0:=by
    rcases h.2 with h1 | h1
    . omega
    . rwa [Nat.add_sub_cancel] at h1
  have:=(blen_pos (show 0 < d m by omega)).1
  omega
set_option maxRecDepth 100000 in
set_option maxHeartbeats 4000000 in
theorem total_any (ao:Option Addr) (n cap:Nat) (r:Nat->NumR) (w:World) (h:Nums w ao n cap r) (hs:∀ i,i < n->Sane (r i)) (hn:n <= 100000) (hT:Tab w) :
    Calls Tryz.prog 76 #[.slice ao n cap] w (DOut w (sumV r n)):=by
  have hl:=h.le
  have hm:=h.max
  have HS:Hid (∀ i,i < n->Sane (r i)):=hs
  go_enter Tryz.func76,Tryz.ntmps76
  go_wp2_with fail
  refine (reach_any ao n cap r _ (h.keeps (bel_alloc _ _)) hs).mono ?_
  rintro x w1 ⟨low,high,rfl,hR,hb1⟩
  clear hs
  have q0:=(hb1.block w.heap.size (by rw [size1]; omega)).trans (heap_a1 _ _)
  have x0:=blkC q0 0 rfl
  have x1:=blkC q0 1 rfl
  have x2:=blkC q0 2 rfl
  have z0:=blkF q0 0
  have z1:=blkF q0 1
  have z2:=blkF q0 2
  have hbw1:=bel_trans (bel_alloc w _) hb1
  by_cases hz:∀ i,i < n->(r i).n=0
  . obtain ⟨rfl,rfl⟩:=hR.none hz
    go_wp2
    refine bodyPost_ret (v:=zeroV) (by simp [results,Tryz.results76,go_sem,x0,x1,x2,zeroV]) rfl ?_
    rw [sumV_zero hz]
    exact .inl ⟨dok_zero,_,rfl,DAns.zero (((hbw1.setCell (p:=⟨w.heap.size,0,none⟩) (Nat.le_refl _) _).setCell (p:=⟨w.heap.size,1,none⟩) (Nat.le_refl _) _).setCell (p:=⟨w.heap.size,2,none⟩) (Nat.le_refl _) _)⟩
  . have hsome:∃ i,i < n∧0 < (r i).n:=by
      simp only [Classical.not_forall] at hz
      obtain ⟨i,hi,hp⟩:=hz
      exact ⟨i,hi,by omega⟩
    obtain ⟨l0,l1,l2,l3⟩:=hR.some hsome
    have hlh:low <= high:=by
      obtain ⟨i,hi,hp⟩:=hsome
      have:=hR.all i hi hp
      omega
    obtain ⟨N,hN⟩:∃ N:Nat,(high - low) / 30 + 3=(N:Int):=⟨((high - low) / 30 + 3).toNat,by omega⟩
    go_wp2_with (at_make; refine wpList_mk rfl _ _ rfl _ _ N rfl rfl (by omega) (by omega) (by omega) ?_; intro w2 hB2 hb2)
    have hlow:-4194304 <= low:=by omega
    have hbw2:=bel_trans hbw1 hb2
    have hb2':=hb2
    have HN:=h.keeps hbw1
    have HA:Hid (∀ i,i < n->0 < (r i).n->low <= (r i).e∧(r i).e + blen (val (r i).d (r i).n) <= high):=hR.all
    have HLH:Hid ((high - low) / 30 + 3=(N:Int)∧low <= high):=⟨hN,hlh⟩
    have hN3:3 <= N∧N <= 90000:=by omega
    have gw:w1.heap.size < w2.heap.size:=hB2.lt
    clear hR hz hsome hb2 x0 x1 x2 z0 z1 z2
    go_loopw [26] (fun i wr=>∃ (k:Nat) (c:Nat->Int),k <= n∧i=.int .i64 k∧Blk wr w1.heap.size N c∧Hid (TotP r low high N k c)∧Below w1.heap.size w1 wr∧w2.heap.size <= wr.heap.size) (fun i _=>n - (intOf i).toNat)
    case atStart=>exact ⟨0,_,Nat.zero_le _,rfl,hB2,TotP.start _ _ _ _,hb2',Nat.le_refl _⟩
    case round=>
      obtain ⟨k,c,hk,rfl,hB,HT,hbw,hgw⟩:=hrel
      by_cases hlt:k < n
      . obtain ⟨b,off,rfl,hb,hc⟩:=HN.spot (by omega)
        obtain ⟨c0,c1,c2,hRow⟩:=(hc k hlt).keeps hbw hb
        have hRX:=RowX.of (hc k hlt).row (Nat.le_refl _)
        have hsk:=HS.out k hlt
        have hak:=HA.out k hlt
        have hput:=fun q p c' h0=>HT.out.put (q:=q) (p:=p) (c':=c') hsk h0 (hak h0) hlow
        have hskip:=fun h0=>HT.out.skip (k:=k) h0
        have hbnd:=HT.out.bnd
        clear hc
        generalize hr:r k=x at *
        obtain ⟨ng,xo,xn,xc,xd,xe⟩:=x
        obtain ⟨s1,s2,s3,s4⟩:=hsk
        simp only at c0 c1 c2 hRX hRow s1 s2 s3 s4 hput hskip hak
        by_cases h0:xn=0
        . subst h0
          have HZ:Hid (TotP r low high N (k + 1) c):=hskip rfl
          clear hput hskip hak hbnd hN hlh hRX HN
          go_wp2
          go_roundw
          case rel=>exact ⟨k + 1,c,by omega,by go_num,hB.alloc _,HZ,hbw.trans ((bel_alloc _ _).mono hbw.size),by rw [size1]; omega⟩
          case measure=>simp [intOf]; omega
        . have hlp:(0:Int) < xn:=by omega
          obtain ⟨a1,a2⟩:=hak (by omega)
          have hlb:=len_blen s1 (by omega)
          obtain ⟨q,p,hqp,hp⟩:∃ q p:Nat,xe - low=30 * q + p∧p < 30:=⟨((xe - low) / 30).toNat,((xe - low) % 30).toNat,by omega,by omega⟩
          have hqN:q + xn + 1 <= N:=by omega
          have HP:Hid (∀ c',Piled N c (sgn ng xn) (P q * (2 ^ p * val xd xn)) c'->TotP r low high N (k + 1) c'):=fun c' hP=>hput q p c' (by omega) hqp hp hP
          obtain ⟨_,hsg⟩:=sgn_sg ng (show 0 < xn by omega) 0
          have HSG:Hid (sgn ng xn=1∨sgn ng xn=-1):=hsg
          have HQP:Hid (xe - low=30 * q + p):=hqp
          have HBD:Hid (∀ i,i < N->-((k:Int) * 1073741823) <= c i∧c i <= k * 1073741823):=hbnd
          have hw1:wrap64 (xe - low)=xe - low:=IntWalk.wrap64_in _ ⟨by omega,by omega⟩
          have hw2:IntKind.i64.wrap (xe - low)=xe - low:=by rw [wrap_i64_eq]; omega
          have hlen:xn <= 100000:=by omega
          have q0:=heap_a1 wr (.cells #[.bool ng,.slice xo xn xc,.int .i64 xe] 79)
          have hsz:=size1 wr (.cells #[.bool ng,.slice xo xn xc,.int .i64 xe] 79)
          have hbx:Below w1.heap.size w1 (wr.alloc (.cells #[.bool ng,.slice xo xn xc,.int .i64 xe] 79)):=hbw.trans ((bel_alloc _ _).mono hbw.size)
          have hBx:=hB.alloc (.cells #[.bool ng,.slice xo xn xc,.int .i64 xe] 79)
          have hgx:wr.heap.size ≠ w1.heap.size:=by omega
          clear hput hskip hak hbnd hN hlh hsg hqp HN a1 a2 hlb
          go_wp2_with fail
          generalize wr.alloc (.cells #[.bool ng,.slice xo xn xc,.int .i64 xe] 79)=wx at q0 hsz hbx hBx ⊢
          have k0:=blkC q0 0 rfl
          have k1:=blkC q0 1 rfl
          have k2:=blkC q0 2 rfl
          have hb1:=bel_refl wx
          have C1:∀ W,Below wx.heap.size wx W->Calls Tryz.prog 102 #[.agg #[.bool ng,.slice xo xn xc,.int .i64 xe]] W fun y w'=>y=.returned (.int .i64 (sgn ng xn))∧Below W.heap.size W w':=fun W _=>dsign_any ng xo xn xc xe W (by omega)
          have C2:∀ W,Below wx.heap.size wx W->Calls Tryz.prog 101 #[.slice (some ⟨w1.heap.size,0,none⟩) N N,.slice xo xn xc,.int .i64 (xe - low),.int .i64 (sgn ng xn)] W fun y w'=>y=.returned (.tuple #[])∧∃ c4,Blk w' w1.heap.size N c4∧Wr w1.heap.size W w'∧Piled N c (sgn ng xn) (P q * (2 ^ p * val xd xn)) c4:=fun W h=>
            pile_qp w1.heap.size N c xo xn xc q p xd W (hBx.keeps h) (hRX.keeps (wr_of (hbx.trans (h.mono hbx.size)))) s1.1 hlen hqN (by omega) hp _ HQP.out _ HSG.out (k * 1073741823) HBD.out (by omega)
          go_region_held3 (fun W=>W.cell? ⟨wr.heap.size,0,none⟩=some (.bool ng)∧W.cell? ⟨wr.heap.size,1,none⟩=some (.slice xo xn xc)∧W.cell? ⟨wr.heap.size,2,none⟩=some (.int .i64 xe))
            (first | exact ⟨k0,k1,k2⟩ | exact keepB (by assumption) (by assumption) | exact keepW (by assumption) (by assumption) hgx)
            (first | (go_at_call 102; refine (C1 _ hb1.drew).mono ?_; rintro y w3 ⟨rfl,hbv1⟩) | (go_at_call 101; have _t:=hbv1; refine (C2 _ (bel_trans hb1.drew hbv1)).mono ?_; rintro y w4 ⟨rfl,c4,hB5,hW5,hP5⟩))
          go_wp2
          go_roundw
          case rel=>exact ⟨k + 1,c4,by omega,by go_num,hB5,HP.out _ hP5,hW5.below (hbx.trans ((bel_trans hb1.drew hbv1).mono hbx.size)) (by have:=hbx.size; have:=hbv1.size; exact Nat.le_trans hbx.size hbv1.size) (Nat.le_refl _),by have:=hW5.size; have:wx.heap.size <= w3.heap.size:=hbv1.size; omega⟩
          case measure=>simp [intOf]; omega
      . obtain rfl:k=n:=by omega
        have hbig:-P N < val c N∧val c N < P N:=by
          have h1:=HT.out.lo
          have h2:=HT.out.hi
          obtain ⟨e1,e2⟩:=HLH.out
          have h3:((k:Int)) * 2 ^ (high - low).toNat < 2 ^ 60 * 2 ^ (high - low).toNat:=Int.mul_lt_mul_of_pos_right (by omega) (two_pos _)
          rw [<- Int.pow_add] at h3
          have h4:(2:Int) ^ (60 + (high - low).toNat) <= P N:=by rw [P_two]; exact two_le (by omega)
          omega
        go_wp2_with fail
        refine (carry_any w1.heap.size N c wr hB (by omega) (fun i hi=>by have:=HT.out.bnd i hi; omega) hbig).mono ?_
        rintro y w5 ⟨c5,rfl,hB5,hW5,hD5,hV5⟩
        have hbw5:Below w1.heap.size w1 w5:=hW5.below hbw hbw.size (Nat.le_refl _)
        have hbw6:=bel_trans hbw1 hbw5
        have hsum:sumV r k=sg (decide (val c N < 0)) (val c5 N) * pw low:=by rw [hV5]; exact HT.out.sum.symm
        have HSUM:Hid (sumV r k=sg (decide (val c N < 0)) (val c5 N) * pw low):=hsum
        clear hsum hbig hV5
        generalize hneg:decide (val c N < 0)=neg at *
        go_wp2_with fail
        refine (settle_any (hB5.row0 (Nat.le_refl _) (by omega)) hD5 (by omega) (hT.keeps hbw6) hlow HSUM.out).mono ?_
        rintro y w7 (⟨hok,v,rfl,hD⟩ | ⟨hno,rfl,hb7⟩)
        . have hb7:=hD.below
          have hf7:=hD.from hbw6
          obtain ⟨ng',s',m',e',rfl,hy,hA⟩:=id hD
          obtain ⟨so,sn,sc,rfl⟩:=hA.num.shape
          have g0:=(hb7.block w.heap.size (Nat.lt_of_lt_of_le (Nat.lt_of_lt_of_le (by rw [size1]; omega) hb1.size) hbw5.size)).trans ((hbw5.block w.heap.size (Nat.lt_of_lt_of_le (by rw [size1]; omega) hb1.size)).trans q0)
          have x0:=blkC g0 0 rfl
          have x1:=blkC g0 1 rfl
          have x2:=blkC g0 2 rfl
          have z0:=blkF g0 0
          have z1:=blkF g0 1
          have z2:=blkF g0 2
          go_wp2
          refine bodyPost_ret (v:=.agg #[.bool ng',.slice so sn sc,.int .i64 e']) (by simp [results,Tryz.results76,go_sem,x0,x1,x2]) rfl ?_
          exact .inl ⟨hok,_,rfl,dans_res3 (g:=w.heap.size) hD hbw6 (Nat.le_refl _) (Nat.lt_of_lt_of_le (Nat.lt_of_lt_of_le (by rw [size1]; omega) hb1.size) hbw5.size) _ _ _⟩
        . exact ⟨rfl,.inr ⟨hno,rfl,bel_trans hbw6 hb7⟩⟩
def NumR.V (r:NumR):Int:=sg r.ng (val r.d r.n) * pw r.e
theorem okR_sane {x:NumR} (h:okR x=true):Sane x:=by
  rcases of_decide_eq_true h with ⟨h1,h2,h3⟩ | ⟨h1,⟨h2,h3⟩,h4,h5,h6⟩
  . exact ⟨⟨fun i hi=>by omega,.inl h1⟩,by omega,by omega,by omega⟩
  . exact ⟨h3,by omega,by omega,by omega⟩
theorem okR_dy {x:NumR} (h:okR x=true):Dy x.V x.ng (val x.d x.n) x.e∧val x.d x.n < P 2000∧Dok x.V:=by
  have hd:Dy x.V x.ng (val x.d x.n) x.e∧val x.d x.n < P 2000∧-1048576 <= x.e∧x.e <= 1048576:=by
    rcases of_decide_eq_true h with ⟨h1,h2,h3⟩ | ⟨h1,⟨h2,h3⟩,h4,h5,h6⟩
    . exact ⟨⟨rfl,by omega,.inl ⟨by rw [h1]; rfl,h2,h3⟩⟩,by rw [h1]; show (0:Int) < P 2000; exact P_pos 2000,by omega,by omega⟩
    . refine ⟨⟨rfl,by omega,.inr ⟨val_pos h3 h1,?_⟩⟩,?_,h5,h6⟩
      . obtain ⟨m,hm⟩:∃ m,x.n=m + 1:=⟨x.n - 1,by omega⟩
        have:=val_split x.d 1 m
        rw [show 1 + m=x.n by omega] at this
        rw [this]
        rw [show val x.d 1=x.d 0 by show 0 + x.d 0 * 1=_; omega,show P 1=1073741824 from rfl]
        omega
      . exact Int.lt_of_lt_of_le (val_lt h3.1) (P_le h2)
  exact ⟨hd.1,hd.2.1,hd.1.ok.2 hd.2⟩
theorem bel_set3 {w w1:World} (h:Below w.heap.size w w1) {g:Nat} (hg:w.heap.size <= g) (a b c:Value):Below w.heap.size w (((w1.setCell ⟨g,0,none⟩ a).setCell ⟨g,1,none⟩ b).setCell ⟨g,2,none⟩ c) :=
  ((h.setCell (p:=⟨g,0,none⟩) hg a).setCell (p:=⟨g,1,none⟩) hg b).setCell (p:=⟨g,2,none⟩) hg c
theorem heap_set {w:World} {g:Nat} {xs:Array Value} {t:TypeId} (h:w.heap[g]?=some (.cells xs t (0,0))) (i:Nat) (v:Value):(w.setCell ⟨g,i,none⟩ v).heap[g]?=some (.cells (xs.setIfInBounds i v) t (0,0)):=by
  simp [World.setCell,Array.getElem?_modify,h]
def RFit (w w':World) (V:Int) (v:Value) (er:Int):Prop:=DFit w w' V v er
theorem RFit.shape {w w':World} {V er:Int} {v:Value} (h:RFit w w' V v er):∃ ng so sn sc e,v=.agg #[.bool ng,.slice so sn sc,.int .i64 e]:=by
  exact DFit.shape h
def NumR.neg (r:NumR):NumR:=⟨!r.ng,r.ao,r.n,r.cap,r.d,r.e⟩
end Go.Proofs.YteglfnnbpilheaaGreatDoor
