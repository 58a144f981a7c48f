/- Parts of the proof. -/
import Derived.Test.YtfgapefckpnjjaaGreatDoorPart4
import Derived.Lib.BitFns
import Derived.Lib.TrailingZeros
import Derived.Laws.Bits64b
import Derived.Test.YtfgapefckpnjjaaGreatDoorPart2
import Derived.Deep.RegionWith
import Derived.WalkLawsBesides
import Derived.Deep.RegionHeld3
import Derived.Test.YtfgapefckpnjjaaGreatDoorPart1
import Derived.Test.YtfgapefckpnjjaaGreatDoorPart3
set_option linter.unusedVariables false
set_option linter.unusedSimpArgs false
namespace Go.Proofs.YtfgapefckpnjjaaGreatDoor
open Go Go.RowKit Go.Proofs.YtfgapefckpnjjaaGreatDoor.M
def Tab (w:World):Prop:=∀ j,j < 64->w.cell? ⟨2,j,none⟩=some (.int .u8 ((Lib.deBruijn64tab.getD j 0:Nat):Int))
theorem Tab.keeps {w w':World} (h:Tab w) (hb:Below w.heap.size w w'):Tab w':=fun j hj=>
  (hb.cell (p:=⟨2,j,none⟩) (World.block_lt_of_cell? w _ (h j hj))).trans (h j hj)
theorem tz_key (x a:Nat) (hx:x < 18446744073709551616) (hx0:x ≠ 0) (hlow:x &&& (18446744073709551616 - x)=a) :
    IntKind.u64.wrap (bits .and .u64 (x:Int) (IntKind.u64.wrap (-(x:Int))) * 285870213051353865) / 288230376151711744=((a * 285870213051353865 % 18446744073709551616 / 288230376151711744:Nat):Int):=by
  have e1:IntKind.u64.wrap (-(x:Int))=((18446744073709551616 - x:Nat):Int):=by rw [IntKind.wrap_u64]; omega
  rw [e1,bits_and_u64_nat x _ hx (by omega),hlow,IntKind.wrap_u64]
  omega
set_option maxHeartbeats 1000000 in
theorem tz_core (x k idx:Nat) (w:World) (hx0:((x:Int) == 0)=false)
    (key:IntKind.u64.wrap (bits .and .u64 (x:Int) (IntKind.u64.wrap (-(x:Int))) * 285870213051353865) / 288230376151711744=(idx:Int))
    (hi:idx < 64) (hk:k < 64) (hcell:w.cell? ⟨2,idx,none⟩=some (.int .u8 k)) :
    Calls Tryz.prog 132 #[.int .u64 x] w fun e w'=>e=.returned (.int .i64 k)∧w'=w:=by
  go_enter Tryz.func132,Tryz.ntmps132
  go_wp2_with (simp only [key])
  go_ret
  exact ⟨rfl,rfl⟩
theorem trailing64 (x:Nat) (hx:x < 18446744073709551616) (h0:x ≠ 0) (w:World) (hT:Tab w) :
    Calls Tryz.prog 132 #[.int .u64 x] w fun e w'=>e=.returned (.int .i64 (Lib.ctz 64 x))∧w'=w:=by
  obtain ⟨hlow,hk⟩:=Lib.lowest_bit 64 x h0 hx
  obtain ⟨hi,htab⟩:=Lib.deBruijn64_at _ hk
  have hcell:=hT _ hi
  rw [htab] at hcell
  exact tz_core x _ _ w (by simp; omega) (tz_key x _ hx h0 hlow) hi hk hcell
theorem trailing64I (x:Int) (hx0:0 < x) (hx:x < 1073741824) (w:World) (hT:Tab w) :
    Calls Tryz.prog 132 #[.int .u64 x] w fun e w'=>∃ l:Nat,e=.returned (.int .i64 l)∧(l < 64∧IsLow x l)∧w'=w:=by
  obtain ⟨n,rfl⟩:=Int.eq_ofNat_of_zero_le (Int.le_of_lt hx0)
  obtain ⟨m,hm,hk⟩:=Lib.ctzFrom_spec 64 n (by omega) (by omega)
  have e:Lib.ctz 64 n=Lib.ctzFrom 64 n:=by simp [Lib.ctz]; omega
  rw [<- e] at hm hk
  refine (trailing64 n (by omega) (by omega) _ hT).mono ?_
  rintro e w' ⟨rfl,rfl⟩
  refine ⟨_,rfl,⟨hk,m,?_⟩,rfl⟩
  have:((n:Nat):Int)=((2 ^ Lib.ctz 64 n * (2 * m + 1):Nat):Int):=congrArg _ hm
  rw [this,Int.natCast_mul,Int.mul_comm]; simp
theorem trailing (x:Int) (hx0:0 < x) (hx:x < 1073741824) (w:World) (hT:Tab w) :
    Calls Tryz.prog 146 #[.int .u64 x] w fun e w'=>∃ l:Nat,e=.returned (.int .i64 l)∧(l < 64∧IsLow x l)∧w'=w:=by
  go_enter Tryz.func146,Tryz.ntmps146
  go_wp2_with fail
  refine (trailing64I x hx0 hx _ hT).mono ?_
  rintro e w' ⟨l,rfl,hl,rfl⟩
  go_wp2
  go_ret
  exact ⟨_,rfl,hl,rfl⟩
theorem low_unique {V:Int} {l k:Nat} (h:IsLow V l) (h':IsLow V k):l=k:=by
  have key:∀ (l k:Nat) (V:Int),IsLow V l->IsLow V k->¬ l < k:=fun l k V ⟨m,hm⟩ ⟨m',hm'⟩ hlt=>by
    obtain ⟨d,rfl⟩:∃ d,k=l + 1 + d:=⟨k - l - 1,by omega⟩
    rw [hm,Int.pow_add,Int.pow_add] at hm'
    have e:(2 * m + 1) * 2 ^ l=((2 * m' + 1) * (2 ^ d * 2)) * 2 ^ l:=by rw [hm']; grind
    have e2:=Int.eq_of_mul_eq_mul_right (Int.ne_of_gt (two_pos l)) e
    have e3:(2 * m' + 1) * (2 ^ d * 2)=2 * ((2 * m' + 1) * 2 ^ d):=by grind
    rw [e3] at e2
    generalize (2 * m' + 1) * 2 ^ d=Z at e2
    omega
  rcases Nat.lt_trichotomy l k with q | q | q
  . exact absurd q (key l k V h h')
  . exact q
  . exact absurd q (key k l V h' h)
theorem isLow_val {d:Nat->Int} {n i l:Nat} (hi:i < n) (hz:∀ j,j < i->d j=0) (h:IsLow (d i) l) (hl:l < 30):IsLow (val d n) (30 * i + l):=by
  obtain ⟨m,hm⟩:=h
  have e1:val d n=P i * val (fun j=>d (i + j)) (n - i):=by
    have:=val_shift0 d i (n - i) hz
    rwa [show i + (n - i)=n by omega] at this
  obtain ⟨r,hr⟩:∃ r,n - i=r + 1:=⟨n - i - 1,by omega⟩
  have e2:val (fun j=>d (i + j)) (n - i)=d i + 1073741824 * val (fun j=>d (i + (j + 1))) r:=by
    rw [hr]
    have h:=val_split (fun j=>d (i + j)) 1 r
    rw [Nat.add_comm 1 r] at h
    rw [h]
    have e:(fun j=>d (i + (1 + j)))=fun j=>d (i + (j + 1)):=by funext j; rw [Nat.add_comm 1 j]
    show 0 + d (i + 0) * 1 + 1 * 1073741824 * _=_
    rw [e,Nat.add_zero]; omega
  have e3:(1073741824:Int)=2 ^ l * (2 * 2 ^ (29 - l)):=by
    rw [<- Int.mul_assoc,Int.mul_comm (2 ^ l) 2,Int.mul_assoc,<- Int.pow_add,show l + (29 - l)=29 by omega]; rfl
  refine ⟨m + 2 ^ (29 - l) * val (fun j=>d (i + (j + 1))) r,?_⟩
  rw [e1,e2,hm,e3,Int.pow_add,<- P_two]
  grind
theorem low_lt {x:Int} {l:Nat} (h0:0 < x) (h1:x < 1073741824) (h:IsLow x l):l < 30:=by
  obtain ⟨m,hm⟩:=h
  rcases Nat.lt_or_ge l 30 with q | q
  . exact q
  . have h2:(2:Int) ^ 30 <= 2 ^ l:=two_le q
    have h3:0 < 2 * m + 1:=by
      rcases Int.lt_or_le 0 (2 * m + 1) with r | r
      . exact r
      . have:=Int.mul_nonneg (show 0 <= -(2 * m + 1) by omega) (Int.le_of_lt (two_pos l))
        rw [Int.neg_mul,<- hm] at this
        omega
    have h4:1 * 2 ^ l <= (2 * m + 1) * 2 ^ l:=mul_le_r (by omega) (Int.le_of_lt (two_pos l))
    have h5:(2:Int) ^ 30=1073741824:=rfl
    omega
def LowA (V l:Int):Prop:=(V=0∧l=-1)∨∃ k:Nat,l=k∧IsLow V k
set_option maxHeartbeats 400000 in
theorem lowest_any (ao:Option Addr) (n cap:Nat) (d:Nat->Int) (w:World) (h:Row w ao n cap d) (hd:Dig d n) (hn:n <= 100000) (hT:Tab w) :
    Calls Tryz.prog 136 #[.slice ao n cap] w fun e w'=>∃ l,e=.returned (.int .i64 l)∧LowA (val d n) l∧w'=w:=by
  have hl:=h.le
  have hm:=h.max
  go_enter Tryz.func136,Tryz.ntmps136
  go_wp2
  go_loop [6] (fun i=>∃ k:Nat,k <= n∧i=.int .i64 k∧Hid (∀ j,j < k->d j=0)) (fun i=>n - (intOf i).toNat)
  case atStart=>exact ⟨0,Nat.zero_le _,rfl,fun j hj=>by omega⟩
  case round=>
    obtain ⟨k,hk,rfl,HZ⟩:=hrel
    by_cases hlt:k < n
    . obtain ⟨b,off,rfl,hb,hc⟩:=h.spot (by omega)
      have c:=hc k hlt
      have dk:=hd k hlt
      by_cases hz:d k=0
      . go_wp2
        go_round
        case rel=>exact ⟨k + 1,by omega,by go_num,fun j hj=>by by_cases e:j=k; (· rw [e]; exact hz); (· exact HZ.out j (by omega))⟩
        case measure=>simp [intOf]; omega
      . have hp:0 < d k:=by omega
        go_wp2_with fail
        refine (trailing (d k) hp dk.2 _ hT).mono ?_
        rintro e w' ⟨l,rfl,⟨hl64,hlow⟩,rfl⟩
        go_wp2
        go_ret
        exact ⟨_,rfl,.inr ⟨30 * k + l,by omega,isLow_val hlt HZ.out hlow (low_lt hp dk.2 hlow)⟩,rfl⟩
    . obtain rfl:k=n:=by omega
      go_wp2
      go_ret
      exact ⟨_,rfl,.inl ⟨val_zeros (Nat.zero_le k) (fun i _ hi=>HZ.out i hi),rfl⟩,rfl⟩
def bitB (V:Int) (i:Nat):Bool:=V / 2 ^ i % 2 == 1
theorem bit_val {d:Nat->Int} {n q p:Nat} (hd:Dig d n) (hq:q < n) (hp:p < 30):val d n / 2 ^ (30 * q + p) % 2=d q / 2 ^ p % 2:=by
  have hpw:=P_pos q
  rw [Int.pow_add,<- P_two,<- Int.ediv_ediv_of_nonneg (Int.le_of_lt hpw),<- val_drop d (by omega) hd]
  obtain ⟨r,hr⟩:∃ r,n - q=r + 1:=⟨n - q - 1,by omega⟩
  have h:=val_split (fun j=>d (q + j)) 1 r
  rw [Nat.add_comm 1 r] at h
  rw [hr,h]
  have e3:(1073741824:Int)=2 * 2 ^ (29 - p) * 2 ^ p:=by
    rw [Int.mul_assoc,<- Int.pow_add,show 29 - p + p=29 by omega]; rfl
  have e4:val (fun j=>d (q + j)) 1 + P 1 * val (fun i=>d (q + (1 + i))) r=d q + (2 * 2 ^ (29 - p) * val (fun i=>d (q + (1 + i))) r) * 2 ^ p:=by
    show 0 + d (q + 0) * 1 + 1 * 1073741824 * _=_
    rw [Nat.add_zero,e3]; grind
  rw [e4,Int.add_mul_ediv_right _ _ (Int.ne_of_gt (two_pos p)),Int.mul_assoc 2,Int.add_mul_emod_self_left]
theorem bit_high {V:Int} {i:Nat} (h0:0 <= V) (h:blen V <= i):bitB V i=false:=by
  have h1:=blen_lt V
  have h2:(2:Int) ^ blen V <= 2 ^ i:=two_le h
  unfold bitB
  rw [Int.ediv_eq_zero_of_lt h0 (Int.lt_of_lt_of_le h1 h2)]; rfl
theorem lowA_pos {V l:Int} (h:LowA V l) (h0:0 < V):∃ k:Nat,l=k∧IsLow V k:=by
  rcases h with ⟨h1,_⟩ | h
  . omega
  . exact h
theorem isLow_lt {d:Nat->Int} {n k:Nat} (hd:Dig d n) (h0:0 < val d n) (h:IsLow (val d n) k):k < 30 * n:=by
  have h1:=val_lt hd
  rw [P_two] at h1
  obtain ⟨a,b,c⟩:=isLow_odd h h0
  have h2:(1:Int) * 2 ^ k <= val d n / 2 ^ k * 2 ^ k:=Int.mul_le_mul_of_nonneg_right (by omega) (Int.le_of_lt (two_pos k))
  exact two_lt_iff (by omega)
theorem ans_res {w W w3:World} {V:Int} {v:Value} (hv:Ans W w3 V v) (hb:Below w.heap.size w W) {g:Nat} (h0:w.heap.size <= g) (h1:g < W.heap.size) (a b c:Value) :
    Ans w (((w3.setCell ⟨g,0,none⟩ a).setCell ⟨g,1,none⟩ b).setCell ⟨g,2,none⟩ c) V v:=by
  obtain ⟨t,d,hO,hN,hV,hB⟩:=hv
  refine ⟨t,d,?_,hN,hV,?_⟩
  . exact (((hO.set_below (a:=⟨g,0,none⟩) h1 a).set_below (a:=⟨g,1,none⟩) h1 b).set_below (a:=⟨g,2,none⟩) h1 c).lower hb.size
  . exact (((hb.trans (hB.mono hb.size)).setCell (p:=⟨g,0,none⟩) h0 a).setCell (p:=⟨g,1,none⟩) h0 b).setCell (p:=⟨g,2,none⟩) h0 c
set_option maxHeartbeats 1000000 in
theorem settle_zero (ng:Bool) (ao:Option Addr) (n cap:Nat) (d:Nat->Int) (e:Int) (w:World) (h:Row w ao n cap d) (hd:Dig d n) (h0:val d n=0) :
    Calls Tryz.prog 153 #[.agg #[.bool ng,.slice ao n cap,.int .i64 e]] w fun r w'=>r=.returned zeroV∧Below w.heap.size w w':=by
  have hR:=h.keeps (bel_alloc2 w (.cells #[.bool ng,.slice ao n cap,.int .i64 e] 26) (.cells #[.bool false,.slice none 0 0,.int .i64 0] 26))
  go_enter Tryz.func153,Tryz.ntmps153
  go_wp2_with fail
  refine (trim_any _ _ _ _ _ hR).mono ?_
  rintro r w1 ⟨t,ht,htop,hz,rfl,rfl⟩
  obtain ⟨hN,hv⟩:=nrm_of_top hd ht htop hz
  have ht0:t=0:=(val_zero hN).1 (by rw [hv]; exact h0)
  subst ht0
  rw [show cutV ao 0 cap=.slice none 0 0 from rfl]
  go_wp2
  refine bodyPost_ret (v:=zeroV) (by simp [results,Tryz.results153,go_sem,zeroV]) rfl ⟨rfl,?_⟩
  exact bel_alloc2 _ _ _
set_option maxRecDepth 100000 in
set_option maxHeartbeats 4000000 in
theorem settle_yes (ng:Bool) (ao:Option Addr) (n cap:Nat) (d:Nat->Int) (e:Int) (w:World) (h:Row w ao n cap d) (hd:Dig d n) (hn:n <= 100000) (hT:Tab w) (h0:0 < val d n) (l:Nat) (hl:IsLow (val d n) l)
    (he0:-1048576 <= e + l) (he1:e + l <= 1048576) (hs:val d n / 2 ^ l < P 2000) :
    Calls Tryz.prog 153 #[.agg #[.bool ng,.slice ao n cap,.int .i64 e]] w fun r w'=>∃ s,r=.returned (.agg #[.bool ng,s,.int .i64 (e + l)])∧Ans w w' (val d n / 2 ^ l) s:=by
  have hR:=h.keeps (bel_alloc2 w (.cells #[.bool ng,.slice ao n cap,.int .i64 e] 26) (.cells #[.bool false,.slice none 0 0,.int .i64 0] 26))
  have hln:=isLow_lt hd h0 hl
  have hb1:=bel_alloc2 w (.cells #[.bool ng,.slice ao n cap,.int .i64 e] 26) (.cells #[.bool false,.slice none 0 0,.int .i64 0] 26)
  go_enter Tryz.func153,Tryz.ntmps153
  go_wp2_with fail
  refine (trim_any _ _ _ _ _ hR).mono ?_
  rintro r w1 ⟨t,ht,htop,hz,rfl,rfl⟩
  obtain ⟨hN,hv⟩:=nrm_of_top hd ht htop hz
  have ht0:t ≠ 0:=by rintro rfl; have:=(val_zero hN).2 rfl; omega
  rw [show cutV ao t cap=.slice ao t cap by unfold cutV; rw [if_neg ht0]]
  have hn0:((t:Int) == 0)=false:=by simp; omega
  obtain ⟨bb,fb,rfl,hbb,hcb⟩:=h.spot (by omega)
  have hRt:Row ((w.alloc (.cells #[.bool ng,.slice (some ⟨bb,fb,none⟩) n cap,.int .i64 e] 26)).alloc (.cells #[.bool false,.slice none 0 0,.int .i64 0] 26)) (some ⟨bb,fb,none⟩) t cap d:=⟨by have:=h.le; omega,h.max,fun hx=>by simp at hx,fun _=>by
    obtain ⟨b',f',e',q1,q2⟩:=hR.spot (by omega)
    exact ⟨b',f',e',q1,fun i hi=>q2 i (by omega)⟩⟩
  have hbl:blen (val d n) <= 60000 + l:=by
    refine blen_le ?_
    obtain ⟨_,_,c⟩:=isLow_odd hl h0
    have:(val d n / 2 ^ l) * 2 ^ l < P 2000 * 2 ^ l:=Int.mul_lt_mul_of_pos_right hs (two_pos l)
    rw [c,P_two,<- Int.pow_add] at this
    exact this
  have HS:Hid (val d n / 2 ^ l < P 2000):=hs
  clear hs
  go_wp2_with fail
  refine (lowest_any _ _ _ _ _ hRt hN.1 (by omega) (hT.keeps hb1)).mono ?_
  rintro r w1 ⟨lo,rfl,hlo,rfl⟩
  rw [hv] at hlo
  obtain ⟨k,rfl,hk⟩:=lowA_pos hlo h0
  obtain rfl:=low_unique hk hl
  have HL:Hid (IsLow (val d n) k):=hl
  clear hlo hk hl
  have HV:Hid (val d t=val d n):=hv
  go_wp2_with fail
  refine (bitLength_any _ _ _ _ _ hRt hN (by omega)).mono ?_
  rw [hv]
  rintro r w1 ⟨rfl,rfl⟩
  go_wp2_with fail
  have hwr:IntKind.i64.wrap (e + (k:Int))=e + k:=by rw [wrap_i64_eq]; omega
  have hb2:Below w.heap.size w ((w.alloc (.cells #[.bool ng,.slice (some ⟨bb,fb,none⟩) n cap,.int .i64 e] 26)).alloc (.cells #[.bool false,.slice none 0 0,.int .i64 0] 26)).drew:=hb1.drew
  have q0:((w.alloc (.cells #[.bool ng,.slice (some ⟨bb,fb,none⟩) n cap,.int .i64 e] 26)).alloc (.cells #[.bool false,.slice none 0 0,.int .i64 0] 26)).drew.heap[w.heap.size]?=some (.cells #[.bool ng,.slice (some ⟨bb,fb,none⟩) n cap,.int .i64 e] 26):=heap_a2 _ _ _
  have q1:((w.alloc (.cells #[.bool ng,.slice (some ⟨bb,fb,none⟩) n cap,.int .i64 e] 26)).alloc (.cells #[.bool false,.slice none 0 0,.int .i64 0] 26)).drew.heap[w.heap.size + 1]?=some (.cells #[.bool false,.slice none 0 0,.int .i64 0] 26):=heap_b2 _ _ _
  have qs:((w.alloc (.cells #[.bool ng,.slice (some ⟨bb,fb,none⟩) n cap,.int .i64 e] 26)).alloc (.cells #[.bool false,.slice none 0 0,.int .i64 0] 26)).drew.heap.size=w.heap.size + 2:=size2 _ _ _
  go_region_with (go_at_call 135; refine (lower_any _ _ _ k d _ hRt.drew hN.1 (by omega) (by omega)).mono ?_; rintro r w3 ⟨v,rfl,hv⟩; obtain ⟨vo,vn,vc,rfl⟩:=hv.num.shape; have g0:=(hv.below.block w.heap.size (by omega)).trans q0; have g1:=(hv.below.block (w.heap.size + 1) (by omega)).trans q1; have k0:=blkC g0 0 rfl; have k2:=blkC g0 2 rfl; have k3:=blkC g1 0 rfl; have k4:=blkC g1 1 rfl; have k5:=blkC g1 2 rfl; have f0:=blkF g1 0; have f1:=blkF g1 1; have f2:=blkF g1 2; have hvv:=hv.from hb2)
  all_goals go_wp2
  all_goals refine bodyPost_ret (v:=.agg #[.bool ng,.slice vo vn vc,.int .i64 (e + k)]) (by simp [results,Tryz.results153,go_sem,k3,k4,k5,hwr]) rfl ⟨_,rfl,?_⟩
  all_goals (rw [<- HV.out]; exact ans_res (g:=w.heap.size + 1) hv hb2 (Nat.le_succ _) (by omega) _ _ _)
set_option maxRecDepth 100000 in
set_option maxHeartbeats 1000000 in
theorem settle_no (ng:Bool) (ao:Option Addr) (n cap:Nat) (d:Nat->Int) (e:Int) (w:World) (h:Row w ao n cap d) (hd:Dig d n) (hn:n <= 100000) (hT:Tab w) (h0:0 < val d n) (l:Nat) (hl:IsLow (val d n) l)
    (hbad:e + l < -1048576∨1048576 < e + l∨P 2000 <= val d n / 2 ^ l) :
    Calls Tryz.prog 153 #[.agg #[.bool ng,.slice ao n cap,.int .i64 e]] w fun r w'=>r=.panicked [{ v:=.iface 34 (.int .i64 2),recovered:=false }]∧Below w.heap.size w w':=by
  have hR:=h.keeps (bel_alloc2 w (.cells #[.bool ng,.slice ao n cap,.int .i64 e] 26) (.cells #[.bool false,.slice none 0 0,.int .i64 0] 26))
  have hln:=isLow_lt hd h0 hl
  have hb1:=bel_alloc2 w (.cells #[.bool ng,.slice ao n cap,.int .i64 e] 26) (.cells #[.bool false,.slice none 0 0,.int .i64 0] 26)
  have HB:Hid (e + l < -1048576∨1048576 < e + l∨P 2000 <= val d n / 2 ^ l):=hbad
  clear hbad
  go_enter Tryz.func153,Tryz.ntmps153
  go_wp2_with fail
  refine (trim_any _ _ _ _ _ hR).mono ?_
  rintro r w1 ⟨t,ht,htop,hz,rfl,rfl⟩
  obtain ⟨hN,hv⟩:=nrm_of_top hd ht htop hz
  have ht0:t ≠ 0:=by rintro rfl; have:=(val_zero hN).2 rfl; omega
  rw [show cutV ao t cap=.slice ao t cap by unfold cutV; rw [if_neg ht0]]
  have hn0:((t:Int) == 0)=false:=by simp; omega
  obtain ⟨bb,fb,rfl,hbb,hcb⟩:=h.spot (by omega)
  have hRt:Row ((w.alloc (.cells #[.bool ng,.slice (some ⟨bb,fb,none⟩) n cap,.int .i64 e] 26)).alloc (.cells #[.bool false,.slice none 0 0,.int .i64 0] 26)) (some ⟨bb,fb,none⟩) t cap d:=⟨by have:=h.le; omega,h.max,fun hx=>by simp at hx,fun _=>by
    obtain ⟨b',f',e',q1,q2⟩:=hR.spot (by omega)
    exact ⟨b',f',e',q1,fun i hi=>q2 i (by omega)⟩⟩
  go_wp2_with fail
  refine (lowest_any _ _ _ _ _ hRt hN.1 (by omega) (hT.keeps hb1)).mono ?_
  rintro r w1 ⟨lo,rfl,hlo,rfl⟩
  rw [hv] at hlo
  obtain ⟨k,rfl,hk⟩:=lowA_pos hlo h0
  obtain rfl:=low_unique hk hl
  have HL:Hid (IsLow (val d n) k):=hl
  clear hlo hk hl
  by_cases c0:e < -1048576 - k
  . go_wp2
    exact ⟨rfl,rfl,hb1⟩
  . by_cases c1:1048576 - k < e
    . go_wp2
      exact ⟨rfl,rfl,hb1⟩
    . have hbl:60000 < (blen (val d n):Int) - k:=by
        obtain ⟨_,_,c⟩:=isLow_odd HL.out h0
        have h2:P 2000 <= val d n / 2 ^ k:=by rcases HB.out with x | x | x <;> first | omega | exact x
        have:P 2000 * 2 ^ k <= (val d n / 2 ^ k) * 2 ^ k:=Int.mul_le_mul_of_nonneg_right h2 (Int.le_of_lt (two_pos k))
        rw [c,P_two,<- Int.pow_add] at this
        have:=blen_ge this
        omega
      go_wp2_with fail
      refine (bitLength_any _ _ _ _ _ hRt hN (by omega)).mono ?_
      rw [hv]
      rintro r w1 ⟨rfl,rfl⟩
      have hb30:blen (val d n) <= 30 * n:=blen_le (by rw [<- P_two]; exact val_lt hd)
      go_wp2
      exact ⟨rfl,rfl,hb1⟩
theorem low_ex:∀ (n:Nat) (M:Int),M.natAbs <= n->0 < M->∃ l,IsLow M l:=by
  intro n
  induction n with
  | zero=>intro M h h0; omega
  | succ n ih=>
    intro M h h0
    by_cases hp:M % 2=1
    . exact ⟨0,M / 2,by rw [Int.pow_zero]; omega⟩
    . obtain ⟨l,m,hm⟩:=ih (M / 2) (by omega) (by omega)
      refine ⟨l + 1,m,?_⟩
      rw [Int.pow_succ,<- Int.mul_assoc,<- hm]; omega
theorem isLow_ex {M:Int} (h:0 < M):∃ l,IsLow M l:=low_ex M.natAbs M (Nat.le_refl _) h
def gaveUp:Ending:=.panicked [{ v:=.iface 34 (.int .i64 2),recovered:=false }]
theorem settle_ok {ng:Bool} {ao:Option Addr} {n cap:Nat} {d:Nat->Int} {e:Int} {w:World} (h:Row w ao n cap d) (hd:Dig d n) (hn:n <= 100000) (hT:Tab w) (he:-4194304 <= e) {V:Int} (hV:V=sg ng (val d n) * pw e) (hok:Dok V) :
    Calls Tryz.prog 153 #[.agg #[.bool ng,.slice ao n cap,.int .i64 e]] w fun r w'=>∃ v,r=.returned v∧DAns w w' V v:=by
  by_cases h0:val d n=0
  . refine (settle_zero ng ao n cap d e w h hd h0).mono ?_
    rintro r w' ⟨rfl,hb⟩
    exact ⟨_,rfl,by rw [hV,h0,sg_zero,Int.zero_mul]; exact DAns.zero hb⟩
  . have hp:0 < val d n:=by have:=val_nonneg hd; omega
    obtain ⟨l,hl⟩:=isLow_ex hp
    have hy:=Dy.of ng hl hp he
    rw [<- hV] at hy
    obtain ⟨o1,o2,o3⟩:=hy.ok.1 hok
    refine (settle_yes ng ao n cap d e w h hd hn hT hp l hl o2 o3 o1).mono ?_
    rintro r w' ⟨s,rfl,hA⟩
    exact ⟨_,rfl,_,_,_,_,rfl,hy,hA⟩
theorem settle_long {ng:Bool} {ao:Option Addr} {n cap:Nat} {d:Nat->Int} {e:Int} {w:World} (h:Row w ao n cap d) (hd:Dig d n) (hn:n <= 100000) (hT:Tab w) (he:-4194304 <= e) {V:Int} (hV:V=sg ng (val d n) * pw e) (hok:¬ Dok V) :
    Calls Tryz.prog 153 #[.agg #[.bool ng,.slice ao n cap,.int .i64 e]] w fun r w'=>r=gaveUp∧Below w.heap.size w w':=by
  by_cases h0:val d n=0
  . exact absurd (by rw [hV,h0,sg_zero,Int.zero_mul]; exact dok_zero) hok
  . have hp:0 < val d n:=by have:=val_nonneg hd; omega
    obtain ⟨l,hl⟩:=isLow_ex hp
    have hy:=Dy.of ng hl hp he
    rw [<- hV] at hy
    have hno:=fun x=>hok (hy.ok.2 x)
    refine settle_no ng ao n cap d e w h hd hn hT hp l hl ?_
    by_cases c1:e + l < -1048576
    . exact .inl c1
    . by_cases c2:1048576 < e + l
      . exact .inr (.inl c2)
      . exact .inr (.inr (by
          by_cases c3:P 2000 <= val d n / 2 ^ l
          . exact c3
          . exact absurd ⟨by omega,by omega,by omega⟩ hno))
theorem DFit.shape {w w':World} {V er:Int} {v:Value} (h:DFit w w' V v er):∃ ng so sn sc e,v=.agg #[.bool ng,.slice so sn sc,.int .i64 e]:=by
  rcases h.2 with ⟨_,_,ng,s,m,e,h1,_,hA⟩ | ⟨_,_,h1⟩
  . obtain ⟨so,sn,sc,rfl⟩:=hA.num.shape
    exact ⟨_,_,_,_,_,h1⟩
  . exact ⟨_,_,_,_,_,h1⟩
theorem dans_res3 {w W w3:World} {V:Int} {v:Value} (hv:DAns W w3 V v) (hb:Below w.heap.size w W) {g:Nat} (h0:w.heap.size <= g) (h1:g < W.heap.size) (a b c:Value) :
    DAns w (((w3.setCell ⟨g,0,none⟩ a).setCell ⟨g,1,none⟩ b).setCell ⟨g,2,none⟩ c) V v:=by
  obtain ⟨ng,s,m,e,h2,h3,hA⟩:=hv
  exact ⟨ng,s,m,e,h2,h3,ans_res hA hb h0 h1 a b c⟩
theorem dfit_res {w W w3:World} {V er:Int} {v:Value} (hv:DFit W w3 V v er) (hb:Below w.heap.size w W) {g:Nat} (h0:w.heap.size <= g) (h1:g < W.heap.size) (a b c:Value) :
    DFit w (((w3.setCell ⟨g,0,none⟩ a).setCell ⟨g,1,none⟩ b).setCell ⟨g,2,none⟩ c) V v er:=by
  refine ⟨(((hb.trans (hv.1.mono hb.size)).setCell (p:=⟨g,0,none⟩) h0 a).setCell (p:=⟨g,1,none⟩) h0 b).setCell (p:=⟨g,2,none⟩) h0 c,?_⟩
  rcases hv.2 with ⟨o1,o2,o3⟩ | o
  . exact .inl ⟨o1,o2,dans_res3 o3 hb h0 h1 a b c⟩
  . exact .inr o
theorem told_fit {F:Nat} {cap:Array Value} {w:World} {V:Int} (hE:∀ w,(callFunc F cap).run Tryz.prog w=.ok (.enter F cap) w)
    (hy:Dok V->∀ W,Below w.heap.size w W->Calls Tryz.prog F cap W fun r W'=>∃ v,r=.returned v∧DAns W W' V v)
    (hn:¬ Dok V->∀ W,Below w.heap.size w W->Calls Tryz.prog F cap W fun r W'=>r=gaveUp∧Below W.heap.size W W') :
    Calls Tryz.prog 151 #[.func (.func F) #[] cap] w fun r w'=>∃ v er,r=.returned (.tuple #[v,.int .i64 er])∧DFit w w' V v er:=by
  by_cases h:Dok V
  . refine (told_yes F cap w V hE (hy h)).mono ?_
    rintro r w' ⟨v,rfl,hD⟩
    exact ⟨v,0,rfl,hD.below,.inl ⟨h,rfl,hD⟩⟩
  . refine (told_no F cap w hE (hn h)).mono ?_
    rintro r w' ⟨rfl,hb⟩
    exact ⟨_,2,rfl,hb,.inr ⟨h,rfl,rfl⟩⟩
theorem heap_a1 (w:World) (a:Obj):(w.alloc a).heap[w.heap.size]?=some a:=by
  show (w.heap.push a)[w.heap.size]?=some a
  simp
theorem size1 (w:World) (a:Obj):(w.alloc a).heap.size=w.heap.size + 1:=by
  show (w.heap.push a).size=_
  simp
theorem cell_keeps {w w':World} {p:Addr} {v:Value} (h:w.cell? p=some v) (hb:Below w.heap.size w w'):w'.cell? p=some v :=
  (hb.cell (World.block_lt_of_cell? w _ h)).trans h
theorem size_alloc (w:World) (a:Obj):(w.alloc a).heap.size=w.heap.size + 1:=size1 w a
theorem heap_past {w:World} {k:Nat} {x:Obj} (o:Obj) (h:w.heap[k]?=some x):(w.alloc o).heap[k]?=some x :=
  (Below.heap_alloc w o k (Array.getElem?_eq_some_iff.1 h).1).trans h
theorem heap_new {w:World} {k:Nat} (o:Obj) (h:k=w.heap.size):(w.alloc o).heap[k]?=some o:=by rw [h]; exact heap_a1 w o
theorem h4_0 (w:World) (a b c d:Obj):((((w.alloc a).alloc b).alloc c).alloc d).heap[w.heap.size]?=some a:=heap_past _ (heap_past _ (heap_past _ (heap_a1 w a)))
theorem h4_1 (w:World) (a b c d:Obj):((((w.alloc a).alloc b).alloc c).alloc d).heap[w.heap.size + 1]?=some b:=heap_past _ (heap_past _ (heap_new _ (by rw [size_alloc])))
theorem h4_2 (w:World) (a b c d:Obj):((((w.alloc a).alloc b).alloc c).alloc d).heap[w.heap.size + 2]?=some c:=heap_past _ (heap_new _ (by rw [size_alloc,size_alloc]))
theorem h4_3 (w:World) (a b c d:Obj):((((w.alloc a).alloc b).alloc c).alloc d).heap[w.heap.size + 3]?=some d:=heap_new _ (by rw [size_alloc,size_alloc,size_alloc])
theorem h3_0 (w:World) (a b c:Obj):(((w.alloc a).alloc b).alloc c).heap[w.heap.size]?=some a:=heap_past _ (heap_past _ (heap_a1 w a))
theorem h3_1 (w:World) (a b c:Obj):(((w.alloc a).alloc b).alloc c).heap[w.heap.size + 1]?=some b:=heap_past _ (heap_new _ (by rw [size_alloc]))
theorem h3_2 (w:World) (a b c:Obj):(((w.alloc a).alloc b).alloc c).heap[w.heap.size + 2]?=some c:=heap_new _ (by rw [size_alloc,size_alloc])
theorem bel_a3 (w:World) (a b c:Obj):Below w.heap.size w (((w.alloc a).alloc b).alloc c):=(bel_alloc2 w a b).alloc (by rw [size2]; omega) _
theorem size3 (w:World) (a b c:Obj):(((w.alloc a).alloc b).alloc c).heap.size=w.heap.size + 3:=by rw [size_alloc,size2]
theorem bel_a4 (w:World) (a b c d:Obj):Below w.heap.size w ((((w.alloc a).alloc b).alloc c).alloc d):=(bel_a3 w a b c).alloc (by rw [size3]; omega) _
theorem size4 (w:World) (a b c d:Obj):((((w.alloc a).alloc b).alloc c).alloc d).heap.size=w.heap.size + 4:=by rw [size_alloc,size3]
theorem keepB {W w':World} {g:Nat} {a b c:Value} (h:W.cell? ⟨g,0,none⟩=some a∧W.cell? ⟨g,1,none⟩=some b∧W.cell? ⟨g,2,none⟩=some c) (hb:Below W.heap.size W w') :
    w'.cell? ⟨g,0,none⟩=some a∧w'.cell? ⟨g,1,none⟩=some b∧w'.cell? ⟨g,2,none⟩=some c:=⟨cell_keeps h.1 hb,cell_keeps h.2.1 hb,cell_keeps h.2.2 hb⟩
theorem keepW {W w':World} {g o:Nat} {a b c:Value} (h:W.cell? ⟨g,0,none⟩=some a∧W.cell? ⟨g,1,none⟩=some b∧W.cell? ⟨g,2,none⟩=some c) (hw:Wr o W w') (hg:g ≠ o) :
    w'.cell? ⟨g,0,none⟩=some a∧w'.cell? ⟨g,1,none⟩=some b∧w'.cell? ⟨g,2,none⟩=some c :=
  ⟨(hw.cell (World.block_lt_of_cell? W _ h.1) hg).trans h.1,(hw.cell (World.block_lt_of_cell? W _ h.2.1) hg).trans h.2.1,(hw.cell (World.block_lt_of_cell? W _ h.2.2) hg).trans h.2.2⟩
theorem keepS {W:World} {g o:Nat} {a b c:Value} (h:W.cell? ⟨g,0,none⟩=some a∧W.cell? ⟨g,1,none⟩=some b∧W.cell? ⟨g,2,none⟩=some c) (hg:g ≠ o) (x y z:Value) :
    (((W.setCell ⟨o,0,none⟩ x).setCell ⟨o,1,none⟩ y).setCell ⟨o,2,none⟩ z).cell? ⟨g,0,none⟩=some a∧(((W.setCell ⟨o,0,none⟩ x).setCell ⟨o,1,none⟩ y).setCell ⟨o,2,none⟩ z).cell? ⟨g,1,none⟩=some b∧(((W.setCell ⟨o,0,none⟩ x).setCell ⟨o,1,none⟩ y).setCell ⟨o,2,none⟩ z).cell? ⟨g,2,none⟩=some c :=
  keepW h (((Wr.refl o W).setCell 0 x |>.setCell 1 y).setCell 2 z) hg
def Sane (r:NumR):Prop:=Nrm r.d r.n∧r.n <= 5000∧-1100000 <= r.e∧r.e <= 1100000
structure Rch (r:Nat->NumR) (k:Nat) (low high:Int):Prop where
  none:(∀ i,i < k->(r i).n=0)->low=9223372036854775807∧high=-9223372036854775808
  some:(∃ i,i < k∧0 < (r i).n)->-1100000 <= low∧low <= 1100000∧-1100000 <= high∧high <= 1250000
  all:∀ i,i < k->0 < (r i).n->low <= (r i).e∧(r i).e + blen (val (r i).d (r i).n) <= high
theorem Sane.len {x:NumR} (h:Sane x):blen (val x.d x.n) <= 150000:=by
  have:=blen_le (V:=val x.d x.n) (k:=30 * x.n) (by rw [<- P_two]; exact val_lt h.1.1)
  have:=h.2.1
  omega
theorem Rch.zero {r:Nat->NumR} {k:Nat} {low high:Int} (h:Rch r k low high) (h0:(r k).n=0):Rch r (k + 1) low high :=
  ⟨fun hx=>h.none fun i hi=>hx i (by omega),fun ⟨i,hi,hp⟩=>h.some ⟨i,by
    by_cases e:i=k
    . subst e; omega
    . omega,hp⟩,fun i hi hp=>by
    by_cases e:i=k
    . subst e; omega
    . exact h.all i (by omega) hp⟩
theorem Rch.step {r:Nat->NumR} {k:Nat} {low high:Int} (h:Rch r k low high) (h0:0 < (r k).n) (hs:Sane (r k)):Rch r (k + 1) (min low (r k).e) (max high ((r k).e + blen (val (r k).d (r k).n))):=by
  obtain ⟨s1,s2,s3,s4⟩:=id hs
  have s5:=hs.len
  refine ⟨fun hx=>by have:=hx k (by omega); omega,fun _=>?_,fun i hi hp=>?_⟩
  . by_cases hx:∀ i,i < k->(r i).n=0
    . obtain ⟨a,b⟩:=h.none hx
      subst a b
      omega
    . have:∃ i,i < k∧0 < (r i).n:=by
        simp only [Classical.not_forall] at hx
        obtain ⟨i,hi,hp⟩:=hx
        exact ⟨i,hi,by omega⟩
      have:=h.some this
      omega
  . by_cases e:i=k
    . subst e; omega
    . have:=h.all i (by omega) hp; omega
def sumV (r:Nat->NumR):Nat->Int | 0=>0 | k + 1=>sumV r k + sg (r k).ng (val (r k).d (r k).n) * pw (r k).e
def DOut (w:World) (V:Int) (x:Ending) (w':World):Prop:=(Dok V∧∃ v,x=.returned v∧DAns w w' V v)∨(¬ Dok V∧x=gaveUp∧Below w.heap.size w w')
theorem settle_any {ng:Bool} {ao:Option Addr} {n cap:Nat} {d:Nat->Int} {e:Int} {w:World} (h:Row w ao n cap d) (hd:Dig d n) (hn:n <= 100000) (hT:Tab w) (he:-4194304 <= e) {V:Int} (hV:V=sg ng (val d n) * pw e) :
    Calls Tryz.prog 153 #[.agg #[.bool ng,.slice ao n cap,.int .i64 e]] w (DOut w V):=by
  by_cases hok:Dok V
  . refine (settle_ok h hd hn hT he hV hok).mono ?_
    rintro x w' ⟨v,rfl,hD⟩
    exact .inl ⟨hok,v,rfl,hD⟩
  . refine (settle_long h hd hn hT he hV hok).mono ?_
    rintro x w' ⟨rfl,hb⟩
    exact .inr ⟨hok,rfl,hb⟩
theorem told_any {F:Nat} {cap:Array Value} {w:World} {V:Int} (hE:∀ w,(callFunc F cap).run Tryz.prog w=.ok (.enter F cap) w) (h:∀ W,Below w.heap.size w W->Calls Tryz.prog F cap W (DOut W V)) :
    Calls Tryz.prog 151 #[.func (.func F) #[] cap] w fun r w'=>∃ v er,r=.returned (.tuple #[v,.int .i64 er])∧DFit w w' V v er:=by
  refine told_fit hE (fun hok W hW=>(h W hW).mono ?_) (fun hok W hW=>(h W hW).mono ?_)
  . rintro x w' (⟨_,v,rfl,hD⟩ | ⟨hn,_⟩)
    . exact ⟨v,rfl,hD⟩
    . exact absurd hok hn
  . rintro x w' (⟨hy,_⟩ | ⟨_,rfl,hb⟩)
    . exact absurd hy hok
    . exact ⟨rfl,hb⟩
theorem sum_bound {r:Nat->NumR} {k:Nat} {low high:Int} (hs:Sane (r k)) (ha:low <= (r k).e∧(r k).e + blen (val (r k).d (r k).n) <= high) :
    val (r k).d (r k).n * 2 ^ ((r k).e - low).toNat < 2 ^ (high - low).toNat∧0 <= val (r k).d (r k).n * 2 ^ ((r k).e - low).toNat:=by
  have hv:=val_nonneg hs.1.1
  obtain ⟨a,b⟩:=ha
  have h1:=blen_lt (val (r k).d (r k).n)
  have h2:val (r k).d (r k).n * 2 ^ ((r k).e - low).toNat < 2 ^ blen (val (r k).d (r k).n) * 2 ^ ((r k).e - low).toNat:=Int.mul_lt_mul_of_pos_right h1 (two_pos _)
  rw [<- Int.pow_add] at h2
  have h3:(2:Int) ^ (blen (val (r k).d (r k).n) + ((r k).e - low).toNat) <= 2 ^ (high - low).toNat:=two_le (by omega)
  exact ⟨by omega,Int.mul_nonneg hv (Int.le_of_lt (two_pos _))⟩
structure TotP (r:Nat->NumR) (low high:Int) (N k:Nat) (c:Nat->Int):Prop where
  sum:val c N * pw low=sumV r k
  bnd:∀ i,i < N->-((k:Int) * 1073741823) <= c i∧c i <= k * 1073741823
  lo:-((k:Int) * 2 ^ (high - low).toNat) <= val c N
  hi:val c N <= k * 2 ^ (high - low).toNat
theorem TotP.skip {r:Nat->NumR} {low high:Int} {N k:Nat} {c:Nat->Int} (h:TotP r low high N k c) (h0:(r k).n=0):TotP r low high N (k + 1) c:=by
  have e:sumV r (k + 1)=sumV r k:=by
    show sumV r k + _=_
    rw [h0]
    show sumV r k + sg _ 0 * _=_
    rw [sg_zero,Int.zero_mul,Int.add_zero]
  have hp:=two_pos (high - low).toNat
  have e2:((k + 1:Nat):Int) * 2 ^ (high - low).toNat=k * 2 ^ (high - low).toNat + 2 ^ (high - low).toNat:=by rw [Int.natCast_add,Int.add_mul]; simp
  refine ⟨by rw [e]; exact h.sum,fun i hi=>?_,?_,?_⟩
  . have:=h.bnd i hi; omega
  . have:=h.lo; omega
  . have:=h.hi; omega
theorem sgn_sg (ng:Bool) {n:Nat} (h:0 < n) (x:Int):sgn ng n * x=sg ng x∧(sgn ng n=1∨sgn ng n=-1):=by
  have:n ≠ 0:=by omega
  cases ng <;> simp [sgn,sg,this]
theorem TotP.put {r:Nat->NumR} {low high:Int} {N k q p:Nat} {c c':Nat->Int} (h:TotP r low high N k c) (hs:Sane (r k)) (h0:0 < (r k).n) (ha:low <= (r k).e∧(r k).e + blen (val (r k).d (r k).n) <= high) (hl:-4194304 <= low) (hqp:(r k).e - low=30 * q + p) (hp:p < 30)
    (hP:Piled N c (sgn (r k).ng (r k).n) (P q * (2 ^ p * val (r k).d (r k).n)) c'):TotP r low high N (k + 1) c':=by
  obtain ⟨b1,b0⟩:=sum_bound hs ha
  obtain ⟨a1,a2⟩:=ha
  have e1:(2:Int) ^ ((r k).e - low).toNat=P q * 2 ^ p:=by
    rw [show ((r k).e - low).toNat=30 * q + p by omega,Int.pow_add,P_two]
  have e2:P q * (2 ^ p * val (r k).d (r k).n)=val (r k).d (r k).n * 2 ^ ((r k).e - low).toNat:=by rw [e1]; grind
  rw [e2] at hP
  generalize hX:val (r k).d (r k).n * 2 ^ ((r k).e - low).toNat=X at *
  obtain ⟨s1,s2⟩:=sgn_sg (r k).ng h0 X
  have hsum:=hP.sum
  rw [s1] at hsum
  have hpp:=two_pos (high - low).toNat
  have e3:((k + 1:Nat):Int) * 2 ^ (high - low).toNat=k * 2 ^ (high - low).toNat + 2 ^ (high - low).toNat:=by rw [Int.natCast_add,Int.add_mul]; simp
  have hsx:-X <= sg (r k).ng X∧sg (r k).ng X <= X:=by cases (r k).ng <;> simp [sg] <;> omega
  refine ⟨?_,fun i hi=>?_,?_,?_⟩
  . rw [hsum,Int.add_mul,h.sum]
    show _=sumV r k + sg (r k).ng (val (r k).d (r k).n) * pw (r k).e
    rw [pw_sub hl a1,<- hX,sg_sgn,sg_sgn]; grind
  . have h1:=h.bnd i hi
    have h2:=pile_near s2 (hP.near i) (C:=k * 1073741823) h1
    omega
  . have:=h.lo; omega
  . have:=h.hi; omega
def NumR.V (r:NumR):Int:=sg r.ng (val r.d r.n) * pw r.e
def pair2 (x y:NumR):Nat->NumR:=fun i=>if i=0 then x else y
theorem nums2 {w:World} {g:Nat} {x y:NumR} {t:TypeId} (h:w.heap[g]?=some (.cells #[.bool x.ng,.slice x.ao x.n x.cap,.int .i64 x.e,.bool y.ng,.slice y.ao y.n y.cap,.int .i64 y.e] t (0,0))) (hx:Row w x.ao x.n x.cap x.d) (hy:Row w y.ao y.n y.cap y.d) :
    Nums w (some ⟨g,0,none⟩) 2 2 (pair2 x y) :=
  ⟨Nat.le_refl _,by decide,fun _=>⟨g,0,rfl,(Array.getElem?_eq_some_iff.1 h).1,fun i hi=>by
    match i,hi with
    | 0,_=>exact ⟨blkC h 0 rfl,blkC h 1 rfl,blkC h 2 rfl,hx⟩
    | 1,_=>exact ⟨blkC h 3 rfl,blkC h 4 rfl,blkC h 5 rfl,hy⟩⟩⟩
theorem allOk2 (x y:NumR):allOk (pair2 x y) 2=(okR x && okR y):=by
  unfold allOk
  by_cases hx:okR x=true
  . by_cases hy:okR y=true
    . rw [hx,hy]
      exact decide_eq_true fun i hi=>by
        match i,hi with
        | 0,_=>exact hx
        | 1,_=>exact hy
    . have:okR y=false:=by simpa using hy
      rw [hx,this]
      exact decide_eq_false fun h=>hy (h 1 (by omega))
  . have:okR x=false:=by simpa using hx
    rw [this,Bool.false_and]
    exact decide_eq_false fun h=>hx (h 0 (by omega))
theorem okR_sane {x:NumR} (h:okR x=true):Sane x:=by
  rcases of_decide_eq_true h with ⟨h1,h2,h3⟩ | ⟨h1,⟨h2,h3⟩,h4,h5,h6⟩
  . exact ⟨⟨fun i hi=>by omega,.inl h1⟩,by omega,by omega,by omega⟩
  . exact ⟨h3,by omega,by omega,by omega⟩
theorem okR_dy {x:NumR} (h:okR x=true):Dy x.V x.ng (val x.d x.n) x.e∧val x.d x.n < P 2000∧Dok x.V:=by
  have hd:Dy x.V x.ng (val x.d x.n) x.e∧val x.d x.n < P 2000∧-1048576 <= x.e∧x.e <= 1048576:=by
    rcases of_decide_eq_true h with ⟨h1,h2,h3⟩ | ⟨h1,⟨h2,h3⟩,h4,h5,h6⟩
    . exact ⟨⟨rfl,by omega,.inl ⟨by rw [h1]; rfl,h2,h3⟩⟩,by rw [h1]; show (0:Int) < P 2000; exact P_pos 2000,by omega,by omega⟩
    . refine ⟨⟨rfl,by omega,.inr ⟨val_pos h3 h1,?_⟩⟩,?_,h5,h6⟩
      . obtain ⟨m,hm⟩:∃ m,x.n=m + 1:=⟨x.n - 1,by omega⟩
        have:=val_split x.d 1 m
        rw [show 1 + m=x.n by omega] at this
        rw [this]
        rw [show val x.d 1=x.d 0 by show 0 + x.d 0 * 1=_; omega,show P 1=1073741824 from rfl]
        omega
      . exact Int.lt_of_lt_of_le (val_lt h3.1) (P_le h2)
  exact ⟨hd.1,hd.2.1,hd.1.ok.2 hd.2⟩
theorem bel_set3 {w w1:World} (h:Below w.heap.size w w1) {g:Nat} (hg:w.heap.size <= g) (a b c:Value):Below w.heap.size w (((w1.setCell ⟨g,0,none⟩ a).setCell ⟨g,1,none⟩ b).setCell ⟨g,2,none⟩ c) :=
  ((h.setCell (p:=⟨g,0,none⟩) hg a).setCell (p:=⟨g,1,none⟩) hg b).setCell (p:=⟨g,2,none⟩) hg c
theorem heap_set {w:World} {g:Nat} {xs:Array Value} {t:TypeId} (h:w.heap[g]?=some (.cells xs t (0,0))) (i:Nat) (v:Value):(w.setCell ⟨g,i,none⟩ v).heap[g]?=some (.cells (xs.setIfInBounds i v) t (0,0)):=by
  simp [World.setCell,Array.getElem?_modify,h]
theorem bitsClass (b:Int) (w:World) (L:Lays w) :
    Calls Tryz.prog 84 #[.int .i64 b] w fun e w'=>e=.returned (.int .i64 (cls b))∧Gr w w':=by
  obtain ⟨a0,a1,a2,b0,b1,b2⟩:=L
  go_enter Tryz.func84,Tryz.ntmps84
  go_wp2_with (go_at_call 106; refine (class64 _ _).mono ?_; rintro e w1 ⟨rfl,hg⟩)
  go_ret
  exact ⟨rfl,hg⟩
theorem bitsCanon (b:Int) (w:World) (L:Lays w) :
    Calls Tryz.prog 65 #[.int .i64 b] w fun e w'=>e=.returned (.int .i64 (canon b))∧Gr w w':=by
  by_cases h:cls b=4 <;> by_cases h0:cls b=0
  all_goals first
    | (exfalso; omega)
    | (go_enter Tryz.func65,Tryz.ntmps65
       go_wp2_with (go_at_call 84; refine (bitsClass _ _ L).mono ?_; rintro e w1 ⟨rfl,hg⟩)
       go_ret
       exact ⟨b_ret_int (by simp [canon,h,h0]),hg⟩)
set_option maxHeartbeats 400000 in
theorem rtrim_any (g n cap:Nat) (d:Nat->Int) (w:World) (h:Row w (some ⟨g,0,none⟩) n cap d) :
    Calls Tryz.prog 121 #[.slice (some ⟨g,0,none⟩) n cap] w fun e w'=>∃ t:Nat,t <= n∧Top d t∧(∀ i,t <= i->i < n->d i=0)∧e=.returned (.slice (some ⟨g,0,none⟩) t cap)∧w'=w:=by
  have hl:=h.le
  have hm:=h.max
  go_enter Tryz.func121,Tryz.ntmps121
  go_wp2
  go_loop [3] (fun i=>∃ k:Nat,k <= n∧i=.int .i64 k∧∀ i,k <= i->i < n->d i=0) (fun i=>(intOf i).toNat)
  case atStart=>exact ⟨n,Nat.le_refl _,rfl,fun i a b=>by omega⟩
  case round=>
    obtain ⟨k,hk,rfl,hz⟩:=hrel
    have HZ:Hid (∀ i,k <= i->i < n->d i=0):=hz
    clear hz
    by_cases h0:k=0
    . subst h0
      go_wp2
      go_ret
      exact ⟨0,by omega,.inl rfl,HZ.out,by simp,rfl⟩
    . obtain ⟨b,off,eb,hb,hc⟩:=h.spot (by omega)
      simp only [Option.some.injEq,Addr.mk.injEq,and_true] at eb
      obtain ⟨rfl,rfl⟩:=eb
      have c:=hc (k - 1) (by omega)
      rw [Nat.zero_add] at c
      by_cases h1:d (k - 1)=0
      . go_wp2
        go_round
        case rel=>exact ⟨k - 1,by omega,by go_num,fun i a b=>by by_cases e:i=k - 1; (· rw [e]; exact h1); (· exact HZ.out i (by omega) b)⟩
        case measure=>simp [intOf]; omega
      . go_wp2
        go_ret
        exact ⟨k,hk,.inr h1,HZ.out,by simp,rfl⟩
theorem top_of {d:Nat->Int} {t:Nat} (hd:Dig d t) (h:0 < t->P (t - 1) <= val d t):Top d t:=by
  by_cases h0:t=0
  . exact .inl h0
  . refine .inr fun e=>?_
    obtain ⟨k,rfl⟩:∃ k,t=k + 1:=⟨t - 1,by omega⟩
    rw [Nat.add_sub_cancel] at e h
    have h1:=h (by omega)
    rw [val_succ,e] at h1
    have h2:=val_lt (hd.le (Nat.le_succ k))
    omega
theorem cat_upd (r:Nat->Int) (k:Nat) (x:Int):∀ i,i < k + 1->cat r k (fun _=>x) i=upd r k x i:=fun i hi=>by
  by_cases e:i < k
  . simp [cat,e,upd_other r _ (show i ≠ k by omega)]
  . obtain rfl:i=k:=by omega
    simp [cat,upd_same]
theorem dig_upd2 {r:Nat->Int} {k:Nat} {x:Int} (h:Dig r k) (hx:0 <= x∧x < 1073741824):Dig (upd r k x) (k + 1):=fun i hi=>by
  by_cases e:i=k
  . rw [e,upd_same]; exact hx
  . rw [upd_other r x e]; exact h i (by omega)
set_option maxHeartbeats 1000000 in
theorem radd_any (ao bo:Option Addr) (n m ca cb:Nat) (a b:Nat->Int) (w:World) (ha:Row w ao n ca a) (hb:Row w bo m cb b) (na:Nrm a n) (nb:Nrm b m) (hn:n <= 100000) (hm:m <= 100000) :
    Calls Tryz.prog 99 #[.slice ao n ca,.slice bo m cb] w fun e w'=>∃ v,e=.returned v∧Ans w w' (val a n + val b m) v:=by
  have hla:=ha.le
  have hma:=ha.max
  have hlb:=hb.le
  have hmb:=hb.max
  have da:=na.1
  have db:=nb.1
  obtain ⟨M,hM1,hM2,hM3⟩:∃ M,n <= M∧m <= M∧(M <= n∨M <= m):=⟨max n m,by omega,by omega,by omega⟩
  go_enter Tryz.func99,Tryz.ntmps99
  go_wp2
  go_loopw [5,6,7] (fun l c i wr=>∃ (k:Nat) (q:Int) (r:Nat->Int),(k <= M∨(k=M + 1∧q=0))∧i=.int .i64 k∧c=.int .i64 q∧0 <= q∧q <= 1∧Out w.heap.size wr l k r∧Dig r k∧Hid (val r k + q * P k=val (ext a n) k + val (ext b m) k)∧Hid (k=M + 1->P M <= val a n + val b m)∧Below w.heap.size w wr) (fun _ _ i _=>M + 1 - (intOf i).toNat)
  case atStart=>exact ⟨0,0,fun _=>0,.inl (Nat.zero_le _),rfl,rfl,by omega,by omega,Out.nil _ _ _,fun i hi=>by omega,by show _=_; rfl,fun h=>by omega,bel_refl _⟩
  case round=>
    obtain ⟨k,q,r,hk,rfl,rfl,hq0,hq1,hO,hD,HV,HT,hbw⟩:=hrel
    have hkM:k <= M + 1:=by omega
    by_cases hkn:k < n
    . by_cases hkm:k < m
      . obtain ⟨ba,fa,rfl,hba,hca⟩:=ha.spot (by omega)
        have c1:=(hbw.cell (p:=⟨ba,fa + k,none⟩) hba).trans (hca k hkn)
        have dk:=da k hkn
        obtain ⟨bb,fb,rfl,hbb,hcb⟩:=hb.spot (by omega)
        have c2:=(hbw.cell (p:=⟨bb,fb + k,none⟩) hbb).trans (hcb k hkm)
        have dbk:=db k hkm
        have HX:Hid (q + a k + b k=q + (ext a n k + ext b m k)):=by show _=_; rw [ext_lt a hkn,ext_lt b hkm]; omega
        go_wp2_with (at_builtin; refine wpList_app rfl _ _ rfl w.heap.size _ k r rfl (hO.stays (bel_alloc _ _)) _ 1 1 (fun _=>(q + a k + b k) % 1073741824) rfl (row1 _ _ rfl) (by omega) (by have:=hbw.size; simp; omega) ?_; intro v' w1 hO1 hg1)
        have hb1:Below w.heap.size w w1:=(hbw.alloc hbw.size _).grown hg1 (by have:=hbw.size; simp; omega) (own_ge hO)
        have hs:=sum_step (x:=ext a n k + ext b m k) HV.out
        rw [<- HX.out] at hs
        go_roundw
        case rel=>exact ⟨k + 1,(q + a k + b k) / 1073741824,upd r k ((q + a k + b k) % 1073741824),by omega,by go_num,rfl,by omega,by omega,hO1.congr (cat_upd r k _),dig_upd2 hD (mod_dig _),by show _=_; rw [hs,val_succ,val_succ]; grind,fun h=>by omega,hb1⟩
        case measure=>simp [intOf]; omega
      . obtain ⟨ba,fa,rfl,hba,hca⟩:=ha.spot (by omega)
        have c1:=(hbw.cell (p:=⟨ba,fa + k,none⟩) hba).trans (hca k hkn)
        have dk:=da k hkn
        have HX:Hid (q + a k=q + (ext a n k + ext b m k)):=by show _=_; rw [ext_lt a hkn,ext_ge b (by omega)]; omega
        go_wp2_with (at_builtin; refine wpList_app rfl _ _ rfl w.heap.size _ k r rfl (hO.stays (bel_alloc _ _)) _ 1 1 (fun _=>(q + a k) % 1073741824) rfl (row1 _ _ rfl) (by omega) (by have:=hbw.size; simp; omega) ?_; intro v' w1 hO1 hg1)
        have hb1:Below w.heap.size w w1:=(hbw.alloc hbw.size _).grown hg1 (by have:=hbw.size; simp; omega) (own_ge hO)
        have hs:=sum_step (x:=ext a n k + ext b m k) HV.out
        rw [<- HX.out] at hs
        go_roundw
        case rel=>exact ⟨k + 1,(q + a k) / 1073741824,upd r k ((q + a k) % 1073741824),by omega,by go_num,rfl,by omega,by omega,hO1.congr (cat_upd r k _),dig_upd2 hD (mod_dig _),by show _=_; rw [hs,val_succ,val_succ]; grind,fun h=>by omega,hb1⟩
        case measure=>simp [intOf]; omega
    . by_cases hkm:k < m
      . obtain ⟨bb,fb,rfl,hbb,hcb⟩:=hb.spot (by omega)
        have c2:=(hbw.cell (p:=⟨bb,fb + k,none⟩) hbb).trans (hcb k hkm)
        have dbk:=db k hkm
        have HX:Hid (q + b k=q + (ext a n k + ext b m k)):=by show _=_; rw [ext_ge a (by omega),ext_lt b hkm]; omega
        go_wp2_with (at_builtin; refine wpList_app rfl _ _ rfl w.heap.size _ k r rfl (hO.stays (bel_alloc _ _)) _ 1 1 (fun _=>(q + b k) % 1073741824) rfl (row1 _ _ rfl) (by omega) (by have:=hbw.size; simp; omega) ?_; intro v' w1 hO1 hg1)
        have hb1:Below w.heap.size w w1:=(hbw.alloc hbw.size _).grown hg1 (by have:=hbw.size; simp; omega) (own_ge hO)
        have hs:=sum_step (x:=ext a n k + ext b m k) HV.out
        rw [<- HX.out] at hs
        go_roundw
        case rel=>exact ⟨k + 1,(q + b k) / 1073741824,upd r k ((q + b k) % 1073741824),by omega,by go_num,rfl,by omega,by omega,hO1.congr (cat_upd r k _),dig_upd2 hD (mod_dig _),by show _=_; rw [hs,val_succ,val_succ]; grind,fun h=>by omega,hb1⟩
        case measure=>simp [intOf]; omega
      . by_cases hq:0 < q
        . have hkE:k=M:=by omega
          have HTT:Hid (P M <= val a n + val b m):=by
            show _ <= _
            have h:=HV.out
            rw [val_ext a (by omega),val_ext b (by omega),show q=1 by omega,hkE] at h
            have:=val_nonneg hD
            rw [hkE] at this
            omega
          have HX:Hid (q=q + (ext a n k + ext b m k)):=by show _=_; rw [ext_ge a (by omega),ext_ge b (by omega)]; omega
          go_wp2_with (at_builtin; refine wpList_app rfl _ _ rfl w.heap.size _ k r rfl (hO.stays (bel_alloc _ _)) _ 1 1 (fun _=>(q) % 1073741824) rfl (row1 _ _ rfl) (by omega) (by have:=hbw.size; simp; omega) ?_; intro v' w1 hO1 hg1)
          have hb1:Below w.heap.size w w1:=(hbw.alloc hbw.size _).grown hg1 (by have:=hbw.size; simp; omega) (own_ge hO)
          have hs:=sum_step (x:=ext a n k + ext b m k) HV.out
          rw [<- HX.out] at hs
          go_roundw
          case rel=>exact ⟨k + 1,(q) / 1073741824,upd r k ((q) % 1073741824),by omega,by go_num,rfl,by omega,by omega,hO1.congr (cat_upd r k _),dig_upd2 hD (mod_dig _),by show _=_; rw [hs,val_succ,val_succ]; grind,fun h=>HTT.out,hb1⟩
          case measure=>simp [intOf]; omega
        . obtain rfl:q=0:=by omega
          have hkMM:M <= k:=by omega
          have hcd:decide ((0:Int) < 0)=false:=by decide
          go_wp2
          go_ret
          have hv:val r k=val a n + val b m:=by
            have h:=HV.out
            rw [val_ext a (by omega),val_ext b (by omega)] at h
            omega
          refine ⟨_,rfl,k,r,hO,⟨hD,top_of hD fun hk0=>?_⟩,hv,hbw⟩
          rw [hv]
          have A0:=val_nonneg da
          have B0:=val_nonneg db
          rcases hk with h | ⟨h,_⟩
          . obtain rfl:k=M:=by omega
            rcases hM3 with q | q
            . obtain rfl:k=n:=by omega
              have:=val_top da hk0 na.2
              omega
            . obtain rfl:k=m:=by omega
              have:=val_top db hk0 nb.2
              omega
          . rw [h,Nat.add_sub_cancel]; exact HT.out h
end Go.Proofs.YtfgapefckpnjjaaGreatDoor
