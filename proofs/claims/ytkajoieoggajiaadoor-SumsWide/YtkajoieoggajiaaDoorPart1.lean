/- Parts of the proof. -/
import Derived.WalkKit
import Derived.Laws.MathBits
import Derived.Lib.TrailingZeros
import Derived.Test.YtkajoieoggajiaaDoorProg
import Derived.OwnWalk
import Derived.Below
import Derived.Laws.OwnMore
import Derived.Laws.AppendOwnNone
import Derived.Deep.QuietTactic
import Derived.BigQuiet
import Derived.Lib.BitFns
import Derived.Lib.ItoaNum
import Derived.Laws.Bits64b
import Derived.Deep.AppendLies
import Derived.Deep.RegionHeld3
import Derived.Deep.RegionLaw
import Derived.Deep.Cut
import Derived.BigRegion
set_option linter.unusedVariables false
set_option linter.unusedSimpArgs false
namespace Go.Proofs.YtkajoieoggajiaaDoor.M
open Go
/-! signed 64-bit masks -/
theorem ofInt64_toNat (x:Int):(BitVec.ofInt 64 x).toNat=(x % 18446744073709551616).toNat:=by
  simp [BitVec.toNat_ofInt]
theorem bits_and64 (x y:Int):bits .and .i64 x y=IntKind.i64.wrap (((x % 18446744073709551616).toNat &&& (y % 18446744073709551616).toNat:Nat):Int):=by
  show IntKind.i64.wrap (((BitVec.ofInt 64 x &&& BitVec.ofInt 64 y).toNat:Nat):Int)=_
  rw [BitVec.toNat_and,ofInt64_toNat,ofInt64_toNat]
theorem bits_or64 (x y:Int):bits .or .i64 x y=IntKind.i64.wrap (((x % 18446744073709551616).toNat ||| (y % 18446744073709551616).toNat:Nat):Int):=by
  show IntKind.i64.wrap (((BitVec.ofInt 64 x ||| BitVec.ofInt 64 y).toNat:Nat):Int)=_
  rw [BitVec.toNat_or,ofInt64_toNat,ofInt64_toNat]
theorem wrap_i64_eq (n:Int):IntKind.i64.wrap n=(n + 9223372036854775808) % 18446744073709551616 - 9223372036854775808:=by
  simp only [IntKind.wrap,IntKind.bits,IntKind.signed]
  simp
  split <;> omega
theorem and_i64_mask (x:Int) (k:Nat) (hk:k < 63):bits .and .i64 x (2 ^ k - 1)=x % 2 ^ k:=by
  have hp:(2:Nat) ^ k < 2 ^ 63:=Nat.pow_lt_pow_right (by decide) hk
  have hp0:0 < (2:Nat) ^ k:=Nat.two_pow_pos k
  have e2:((2:Int) ^ k - 1)=((2 ^ k - 1:Nat):Int):=by
    rw [Int.ofNat_sub (by omega)]; simp
  have e3:(((2:Int) ^ k - 1) % 18446744073709551616).toNat=2 ^ k - 1:=by
    rw [e2]; omega
  rw [bits_and64,e3,Nat.and_two_pow_sub_one_eq_mod]
  have e4:(((x % 18446744073709551616).toNat % 2 ^ k:Nat):Int)=x % 2 ^ k:=by
    rw [Int.natCast_emod,Int.toNat_of_nonneg (Int.emod_nonneg _ (by decide))]
    rw [show ((2 ^ k:Nat):Int)=(2:Int) ^ k by simp]
    apply Int.emod_emod_of_dvd
    exact ⟨2 ^ (64 - k),by rw [<- Int.pow_add,show k + (64 - k)=64 by omega]; decide⟩
  rw [e4]
  have h5:0 <= x % 2 ^ k:=Int.emod_nonneg _ (by have:(0:Int) < 2 ^ k:=Int.pow_pos (by decide); omega)
  have h6:x % 2 ^ k < 2 ^ k:=Int.emod_lt_of_pos _ (Int.pow_pos (by decide))
  have h7:((2:Int) ^ k) < 9223372036854775808:=by
    have:((2 ^ k:Nat):Int) < ((2 ^ 63:Nat):Int):=Int.ofNat_lt.2 hp
    simpa using this
  rw [wrap_i64_eq]; omega
theorem and_i64_2047 (x:Int):bits .and .i64 x 2047=x % 2048:=and_i64_mask x 11 (by decide)
theorem and_i64_255 (x:Int):bits .and .i64 x 255=x % 256:=and_i64_mask x 8 (by decide)
theorem and_i64_m52 (x:Int):bits .and .i64 x 4503599627370495=x % 4503599627370496:=and_i64_mask x 52 (by decide)
theorem and_i64_m23 (x:Int):bits .and .i64 x 8388607=x % 8388608:=and_i64_mask x 23 (by decide)
theorem or_i64_sign (x:Int) (h0:0 <= x) (h1:x < 9223372036854775808):bits .or .i64 x (-9223372036854775808)=x - 9223372036854775808:=by
  rw [bits_or64,show ((-9223372036854775808:Int) % 18446744073709551616).toNat=2 ^ 63 from by decide,wrap_i64_eq,Nat.or_comm,nat_join 63 _ _ (by decide) (by omega)]
  omega
theorem or_i64_sign32 (x:Int) (h0:0 <= x) (h1:x < 2147483648):bits .or .i64 x 2147483648=x + 2147483648:=by
  rw [bits_or64,show ((2147483648:Int) % 18446744073709551616).toNat=2 ^ 31 from by decide,wrap_i64_eq,Nat.or_comm,nat_join 31 _ _ (by decide) (by omega)]
  omega
/-! the fields of a binary64's pattern -/
def fld (b:Int):Int:=b / 4503599627370496 % 2048
def frc (b:Int):Int:=b % 4503599627370496
def fld32 (b:Int):Int:=b / 8388608 % 256
def frc32 (b:Int):Int:=b % 8388608
def cls (b:Int):Int:=if fld b=2047 then (if frc b=0 then 3 else 4) else if fld b=0 then (if frc b=0 then 0 else 1) else 2
def cls32 (b:Int):Int:=if b < 0∨4294967296 <= b then 4 else if fld32 b=255 then (if frc32 b=0 then 3 else 4) else if fld32 b=0 then (if frc32 b=0 then 0 else 1) else 2
def pok (b:Int):Bool:=!decide (fld b=2047)
def pneg (b:Int):Bool:=pok b && decide (b < 0)
def pmag (b:Int):Int:=if fld b=2047 then 0 else if fld b=0 then frc b else 4503599627370496 + frc b
def pexp (b:Int):Int:=if fld b=2047 then 0 else if fld b=0 then -1074 else fld b - 1075
def in32 (b:Int):Bool:=decide (0 <= b∧b < 4294967296)
def pok32 (b:Int):Bool:=in32 b && !decide (fld32 b=255)
def pneg32 (b:Int):Bool:=pok32 b && decide (2147483648 <= b)
def pmag32 (b:Int):Int:=if pok32 b then (if fld32 b=0 then frc32 b else 8388608 + frc32 b) else 0
def pexp32 (b:Int):Int:=if pok32 b then (if fld32 b=0 then -149 else fld32 b - 150) else 0
def nan:Int:=9221120237041090561
def neg (b:Int):Int:=if cls b=4 then 9221120237041090561 else if b < 0 then b + 9223372036854775808 else b - 9223372036854775808
def canon (b:Int):Int:=if cls b=4 then 9221120237041090561 else if cls b=0 then 0 else b
def next (b:Int):Int:=if cls b=4 then 9221120237041090561 else if b=9218868437227405312 then b else if b=-9223372036854775808 then 1 else if b < 0 then b - 1 else b + 1
def rng (b:Int):Prop:=-9223372036854775808 <= b∧b < 9223372036854775808
theorem fld_le (b:Int):0 <= fld b∧fld b < 2048:=by unfold fld; omega
theorem frc_le (b:Int):0 <= frc b∧frc b < 4503599627370496:=by unfold frc; omega
theorem fld32_le (b:Int):0 <= fld32 b∧fld32 b < 256:=by unfold fld32; omega
theorem frc32_le (b:Int):0 <= frc32 b∧frc32 b < 8388608:=by unfold frc32; omega
theorem cls4 {b:Int}:cls b=4 ↔ fld b=2047∧frc b ≠ 0:=by
  unfold cls; repeat' split
  all_goals omega
theorem cls4_not {b:Int} (h:¬ cls b=4):fld b ≠ 2047∨frc b=0:=by
  rw [cls4] at h; omega
theorem rng_neg {b:Int} (h:rng b):rng (neg b):=by
  unfold rng neg at *; repeat' split
  all_goals omega
theorem neg_neg {b:Int} (h:rng b) (hc:¬ cls b=4):neg (neg b)=b:=by
  have hc':=cls4_not hc
  have key:¬ cls (if b < 0 then b + 9223372036854775808 else b - 9223372036854775808)=4:=by
    rw [cls4]
    unfold fld frc at *
    split <;> omega
  unfold rng at h
  unfold neg
  simp only [hc,if_false,key]
  split <;> split <;> omega
def wd (b:Int):Nat:=(b % 18446744073709551616).toNat
def P:Nat->Int | 0=>1 | n + 1=>P n * 1073741824
def val (d:Nat->Int):Nat->Int | 0=>0 | n + 1=>val d n + d n * P n
def Dig (d:Nat->Int) (n:Nat):Prop:=∀ i,i < n->0 <= d i∧d i < 1073741824
def Top (d:Nat->Int) (n:Nat):Prop:=n=0∨d (n - 1) ≠ 0
def Nrm (d:Nat->Int) (n:Nat):Prop:=Dig d n∧Top d n
theorem P_succ (n:Nat):P (n + 1)=P n * 1073741824:=rfl
theorem P_pos (n:Nat):0 < P n:=by
  induction n with
  | zero=>decide
  | succ n ih=>rw [P_succ]; omega
theorem P_add (n m:Nat):P (n + m)=P n * P m:=by
  induction m with
  | zero=>show P n=P n * 1; omega
  | succ m ih=>show P (n + m) * 1073741824=P n * (P m * 1073741824); rw [ih,Int.mul_assoc]
theorem P_le {n m:Nat} (h:n <= m):P n <= P m:=by
  obtain ⟨k,rfl⟩:=Nat.exists_eq_add_of_le h
  rw [P_add]
  have:=P_pos n
  have:=P_pos k
  have:P n * 1 <= P n * P k:=Int.mul_le_mul_of_nonneg_left (by omega) (by omega)
  omega
theorem val_succ (d:Nat->Int) (n:Nat):val d (n + 1)=val d n + d n * P n:=rfl
theorem val_congr {d e:Nat->Int} {n:Nat} (h:∀ i,i < n->d i=e i):val d n=val e n:=by
  induction n with
  | zero=>rfl
  | succ n ih=>rw [val_succ,val_succ,ih (fun i hi=>h i (by omega)),h n (by omega)]
theorem Dig.le {d:Nat->Int} {n m:Nat} (h:Dig d n) (hm:m <= n):Dig d m:=fun i hi=>h i (by omega)
theorem Dig.congr {d e:Nat->Int} {n:Nat} (h:Dig d n) (he:∀ i,i < n->d i=e i):Dig e n:=fun i hi=>by rw [<- he i hi]; exact h i hi
theorem val_nonneg {d:Nat->Int} {n:Nat} (h:Dig d n):0 <= val d n:=by
  induction n with
  | zero=>exact Int.le_refl _
  | succ n ih=>
    rw [val_succ]
    have:=ih (h.le (by omega))
    have:=Int.mul_nonneg (h n (by omega)).1 (Int.le_of_lt (P_pos n))
    omega
theorem val_lt {d:Nat->Int} {n:Nat} (h:Dig d n):val d n < P n:=by
  induction n with
  | zero=>show (0:Int) < 1; decide
  | succ n ih=>
    rw [val_succ,P_succ]
    have a:=ih (h.le (by omega))
    have b:d n * P n <= 1073741823 * P n:=Int.mul_le_mul_of_nonneg_right (by have:=(h n (by omega)).2; omega) (Int.le_of_lt (P_pos n))
    omega
theorem val_top {d:Nat->Int} {n:Nat} (h:Dig d n) (hn:0 < n) (ht:Top d n):P (n - 1) <= val d n:=by
  obtain ⟨m,rfl⟩:∃ m,n=m + 1:=⟨n - 1,by omega⟩
  rw [val_succ,Nat.add_sub_cancel]
  have a:=val_nonneg (h.le (Nat.le_succ m))
  have b:1 <= d m:=by
    rcases ht with h0 | h0
    . omega
    . rw [Nat.add_sub_cancel] at h0; have:=(h m (by omega)).1; omega
  have c:1 * P m <= d m * P m:=Int.mul_le_mul_of_nonneg_right b (Int.le_of_lt (P_pos m))
  omega
theorem val_pos {d:Nat->Int} {n:Nat} (h:Nrm d n) (hn:0 < n):0 < val d n:=by
  have:=val_top h.1 hn h.2
  have:=P_pos (n - 1)
  omega
theorem val_zero {d:Nat->Int} {n:Nat} (h:Nrm d n):val d n=0 ↔ n=0:=by
  constructor
  . intro h0
    by_cases hn:0 < n
    . have:=val_pos h hn; omega
    . omega
  . rintro rfl; rfl
theorem val_inj {d e:Nat->Int} {n:Nat} (h:Dig d n) (k:Dig e n) (hv:val d n=val e n):∀ i,i < n->d i=e i:=by
  induction n with
  | zero=>intro i hi; omega
  | succ n ih=>
    rw [val_succ,val_succ] at hv
    have a:=val_lt (h.le (Nat.le_succ n))
    have b:=val_lt (k.le (Nat.le_succ n))
    have a0:=val_nonneg (h.le (Nat.le_succ n))
    have b0:=val_nonneg (k.le (Nat.le_succ n))
    have hp:=P_pos n
    have e1:d n=e n:=by
      have x1:(val d n + d n * P n) / P n=d n:=by
        rw [Int.add_mul_ediv_right _ _ (by omega),Int.ediv_eq_zero_of_lt a0 a]; omega
      have x2:(val e n + e n * P n) / P n=e n:=by
        rw [Int.add_mul_ediv_right _ _ (by omega),Int.ediv_eq_zero_of_lt b0 b]; omega
      rw [<- x1,<- x2,hv]
    rw [e1] at hv
    intro i hi
    by_cases hi':i=n
    . rw [hi']; exact e1
    . exact ih (h.le (Nat.le_succ n)) (k.le (Nat.le_succ n)) (by omega) i (by omega)
theorem val_split (d:Nat->Int) (n m:Nat):val d (n + m)=val d n + P n * val (fun i=>d (n + i)) m:=by
  induction m with
  | zero=>show val d n=val d n + P n * 0; omega
  | succ m ih=>
    show val d (n + m) + d (n + m) * P (n + m)=val d n + P n * (val (fun i=>d (n + i)) m + d (n + m) * P m)
    rw [ih,P_add,Int.mul_add,Int.add_assoc]
    congr 2
    rw [<- Int.mul_assoc,Int.mul_comm (d (n + m)) (P n),Int.mul_assoc]
theorem val_zeros {d:Nat->Int} {n m:Nat} (hm:m <= n) (h:∀ i,m <= i->i < n->d i=0):val d n=val d m:=by
  induction n with
  | zero=>rw [show m=0 by omega]
  | succ n ih=>
    by_cases he:m=n + 1
    . rw [he]
    . rw [val_succ,h n (by omega) (by omega),ih (by omega) (fun i a b=>h i a (by omega))]; omega
def upd (d:Nat->Int) (i:Nat) (x:Int):Nat->Int:=fun j=>if j=i then x else d j
theorem upd_same (d:Nat->Int) (i:Nat) (x:Int):upd d i x i=x:=by simp [upd]
theorem upd_other (d:Nat->Int) {i j:Nat} (x:Int) (h:j ≠ i):upd d i x j=d j:=by simp [upd,h]
theorem val_upd_ge (d:Nat->Int) {i n:Nat} (x:Int) (h:n <= i):val (upd d i x) n=val d n:=val_congr fun j hj=>upd_other d x (by omega)
theorem val_upd (d:Nat->Int) {i n:Nat} (x:Int) (h:i < n):val (upd d i x) n=val d n + (x - d i) * P i:=by
  induction n with
  | zero=>omega
  | succ n ih=>
    rw [val_succ,val_succ]
    by_cases hi:i=n
    . subst hi; rw [upd_same,val_upd_ge d x (Nat.le_refl _),Int.sub_mul]; omega
    . rw [upd_other d x (by omega),ih (by omega)]; omega
theorem Dig.upd {d:Nat->Int} {n:Nat} (h:Dig d n) (i:Nat) {x:Int} (hx:0 <= x∧x < 1073741824):Dig (upd d i x) n:=fun j hj=>by
  by_cases hj':j=i
  . rw [hj',upd_same]; exact hx
  . rw [upd_other d x hj']; exact h j hj
def ext (d:Nat->Int) (n:Nat):Nat->Int:=fun i=>if i < n then d i else 0
theorem ext_lt (d:Nat->Int) {n i:Nat} (h:i < n):ext d n i=d i:=by simp [ext,h]
theorem ext_ge (d:Nat->Int) {n i:Nat} (h:n <= i):ext d n i=0:=by simp [ext]; omega
theorem ext_dig {d:Nat->Int} {n:Nat} (h:Dig d n) (m:Nat):Dig (ext d n) m:=fun i hi=>by
  by_cases hi':i < n
  . rw [ext_lt d hi']; exact h i hi'
  . rw [ext_ge d (by omega)]; omega
theorem carry_step (V c x p:Int):V + (c + x) % 1073741824 * p + (c + x) / 1073741824 * (p * 1073741824)=V + c * p + x * p:=by
  have h:=Int.emod_add_mul_ediv (c + x) 1073741824
  have:(c + x) * p=((c + x) % 1073741824 + 1073741824 * ((c + x) / 1073741824)) * p:=by rw [h]
  rw [Int.add_mul,Int.add_mul] at this
  have e:1073741824 * ((c + x) / 1073741824) * p=(c + x) / 1073741824 * (p * 1073741824):=by
    rw [Int.mul_comm 1073741824,Int.mul_assoc,Int.mul_comm 1073741824 p]
  omega
theorem and_30 (x:Int):bits .and .i64 x 1073741823=x % 1073741824:=and_i64_mask x 30 (by decide)
end Go.Proofs.YtkajoieoggajiaaDoor.M
namespace Go.Proofs.YtkajoieoggajiaaDoor
open Go Go.RowKit Go.Proofs.YtkajoieoggajiaaDoor.M
structure Row (w:World) (ao:Option Addr) (n cap:Nat) (d:Nat->Int):Prop where
  le:n <= cap
  max:cap <= 9223372036854775807
  nl:ao=none->cap=0
  spot:0 < n->∃ b off,ao=some ⟨b,off,none⟩∧b < w.heap.size∧∀ i,i < n->w.cell? ⟨b,off + i,none⟩=some (.int .i64 (d i))
def Blk (w:World) (g N:Nat) (r:Nat->Int):Prop :=
  ∃ cur,w.heap[g]?=some (.cells cur 3 (0,0))∧cur.size=N∧∀ i,i < N->cur[i]?=some (.int .i64 (r i))
def vals (d:Nat->Int) (n:Nat):List Value:=(List.range n).map fun i=>.int .i64 (d i)
theorem vals_length (d:Nat->Int) (n:Nat):(vals d n).length=n:=by simp [vals]
theorem vals_get (d:Nat->Int) {n i:Nat} (h:i < n):(vals d n)[i]?=some (.int .i64 (d i)):=by simp [vals,h]
theorem vals_one (d:Nat->Int) (n:Nat):∀ u ∈ vals d n,u.oneCell'=true:=by
  intro u hu
  obtain ⟨_,_,rfl⟩:=List.mem_map.1 hu
  rfl
theorem vals_ext {xs:List Value} {d:Nat->Int} {n:Nat} (hl:xs.length=n) (h:∀ i,i < n->xs[i]?=some (.int .i64 (d i))):xs=vals d n:=by
  apply List.ext_getElem?
  intro i
  by_cases hi:i < n
  . rw [h i hi,vals_get d hi]
  . rw [List.getElem?_eq_none (by omega),List.getElem?_eq_none (by rw [vals_length]; omega)]
def Out (B:Nat) (w:World) (v:Value) (n:Nat) (d:Nat->Int):Prop:=w.ownsRow B 3 1 v n (vals d n)
theorem Row.stays {w w':World} {ao:Option Addr} {n cap:Nat} {d:Nat->Int} (h:Row w ao n cap d) {B:Nat} (hb:Below B w w') (hB:w.heap.size <= B):Row w' ao n cap d :=
  ⟨h.le,h.max,h.nl,fun hn=>by
    obtain ⟨b,off,rfl,hlt,hc⟩:=h.spot hn
    exact ⟨b,off,rfl,Nat.lt_of_lt_of_le hlt hb.size,fun i hi=>(hb.cell (p:=⟨b,off + i,none⟩) (Nat.lt_of_lt_of_le hlt hB)).trans (hc i hi)⟩⟩
theorem Row.keeps {w w':World} {ao:Option Addr} {n cap:Nat} {d:Nat->Int} (h:Row w ao n cap d) (hb:Below w.heap.size w w'):Row w' ao n cap d:=h.stays hb (Nat.le_refl _)
theorem Row.congr {w:World} {ao:Option Addr} {n cap:Nat} {d e:Nat->Int} (h:Row w ao n cap d) (he:∀ i,i < n->d i=e i):Row w ao n cap e :=
  ⟨h.le,h.max,h.nl,fun hn=>by
    obtain ⟨b,off,rfl,hlt,hc⟩:=h.spot hn
    exact ⟨b,off,rfl,hlt,fun i hi=>by rw [<- he i hi]; exact hc i hi⟩⟩
theorem Row.nil (w:World) (d:Nat->Int):Row w none 0 0 d:=⟨Nat.le_refl _,by decide,fun _=>rfl,fun h=>by omega⟩
theorem Row.alloc {w:World} {ao:Option Addr} {n cap:Nat} {d:Nat->Int} (h:Row w ao n cap d) (o:Obj):Row (w.alloc o) ao n cap d:=h.keeps ((Below.refl _ _).alloc (Nat.le_refl _) _)
theorem Blk.cell {w:World} {g N:Nat} {r:Nat->Int} (h:Blk w g N r) {i:Nat} (hi:i < N):w.cell? ⟨g,i,none⟩=some (.int .i64 (r i)):=by
  obtain ⟨cur,hg,hs,hc⟩:=h
  rw [cell_of_row w g i cur _ _ hg]; exact hc i hi
theorem Blk.frozen {w:World} {g N:Nat} {r:Nat->Int} (h:Blk w g N r) (i:Nat):w.frozen? ⟨g,i,none⟩=false:=by
  obtain ⟨cur,hg,hs,hc⟩:=h
  exact frozen_of_row w g i cur _ hg
theorem Blk.lt {w:World} {g N:Nat} {r:Nat->Int} (h:Blk w g N r):g < w.heap.size:=by
  obtain ⟨cur,hg,hs,hc⟩:=h
  exact (Array.getElem?_eq_some_iff.1 hg).1
theorem Blk.store {w:World} {g N:Nat} {r:Nat->Int} (h:Blk w g N r) (i:Nat) (x:Int):Blk (w.setCell ⟨g,i,none⟩ (.int .i64 x)) g N (upd r i x):=by
  obtain ⟨cur,hg,hs,hc⟩:=h
  refine ⟨cur.setIfInBounds i (.int .i64 x),heap_setCell_same w g i cur _ _ hg,by simpa using hs,fun j hj=>?_⟩
  by_cases hji:j=i
  . subst hji; rw [upd_same,Array.getElem?_setIfInBounds_self_of_lt (by omega)]
  . rw [upd_other r x hji,Array.getElem?_setIfInBounds_ne (by omega)]; exact hc j hj
theorem Blk.of_block {w w':World} {g N:Nat} {r:Nat->Int} (h:Blk w g N r) (hb:w'.heap[g]?=w.heap[g]?):Blk w' g N r:=by
  obtain ⟨cur,hg,hs,hc⟩:=h
  exact ⟨cur,hb.trans hg,hs,hc⟩
theorem Blk.stays {w w':World} {g N:Nat} {r:Nat->Int} (h:Blk w g N r) {B:Nat} (hb:Below B w w') (hB:g < B):Blk w' g N r:=h.of_block (hb.block g hB)
theorem Blk.keeps {w w':World} {g N:Nat} {r:Nat->Int} (h:Blk w g N r) (hb:Below w.heap.size w w'):Blk w' g N r:=h.stays hb h.lt
theorem Blk.apart {w:World} {g N:Nat} {r:Nat->Int} (h:Blk w g N r) {a:Addr} (ha:g ≠ a.block) (u:Value):Blk (w.setCell a u) g N r:=h.of_block (heap_setCell_other w a g u ha)
theorem Blk.alloc {w:World} {g N:Nat} {r:Nat->Int} (h:Blk w g N r) (o:Obj):Blk (w.alloc o) g N r:=h.of_block (Below.heap_alloc w o g h.lt)
theorem Blk.congr {w:World} {g N:Nat} {r s:Nat->Int} (h:Blk w g N r) (he:∀ i,i < N->r i=s i):Blk w g N s:=by
  obtain ⟨cur,hg,hs,hc⟩:=h
  exact ⟨cur,hg,hs,fun i hi=>by rw [hc i hi,he i hi]⟩
theorem Blk.row {w:World} {g N:Nat} {r:Nat->Int} (h:Blk w g N r) {off n cap:Nat} (hn:off + n <= N) (hc:n <= cap) (hm:cap <= 9223372036854775807):Row w (some ⟨g,off,none⟩) n cap (fun i=>r (off + i)) :=
  ⟨hc,hm,(fun e=>by cases e),fun _=>⟨g,off,rfl,h.lt,fun i hi=>h.cell (by omega)⟩⟩
theorem Blk.row0 {w:World} {g N:Nat} {r:Nat->Int} (h:Blk w g N r) {n:Nat} (hn:n <= N) (hm:N <= 9223372036854775807):Row w (some ⟨g,0,none⟩) n N r :=
  ⟨hn,hm,(fun e=>by cases e),fun _=>⟨g,0,rfl,h.lt,fun i hi=>by rw [Nat.zero_add]; exact h.cell (by omega)⟩⟩
theorem Blk.out {w:World} {g N:Nat} {r:Nat->Int} (h:Blk w g N r) {B n:Nat} (hB:B <= g) (hn:n <= N) (hm:N <= 9223372036854775807):Out B w (.slice (some ⟨g,0,none⟩) n N) n r:=by
  obtain ⟨cur,hg,hs,hc⟩:=h
  refine ⟨by rw [vals_length]; omega,.inr ⟨g,N,cur,rfl,hB,hg,hn,by unfold maxLen; omega,by omega,?_⟩⟩
  apply vals_ext (by simp; omega)
  intro i hi
  rw [List.getElem?_take,if_pos (by omega),Array.getElem?_toList]
  exact hc i (by omega)
theorem Blk.made {w:World} {B g N:Nat} (h:w.ownsRow B 3 1 (.slice (some ⟨g,0,none⟩) N N) N (madeCells (Value.int .i64 0).cells (N * 1)).toList):Blk w g N (fun _=>0):=by
  rcases h.2 with ⟨h',_⟩ | ⟨g',cap',cur,h',_,hg,_,_,hs,htake⟩
  . simp at h'
  . simp only [Value.slice.injEq,Option.some.injEq,Addr.mk.injEq,and_true,true_and] at h'
    obtain ⟨rfl,rfl⟩:=h'
    refine ⟨cur,hg,by omega,fun i hi=>?_⟩
    have e:cur.toList[i]?=(madeCells (Value.int .i64 0).cells (N * 1)).toList[i]?:=by
      rw [<- htake,List.getElem?_take,if_pos (by omega)]
    rw [Array.getElem?_toList] at e
    rw [e]
    show (madeCells #[Value.int .i64 0] (N * 1)).toList[i]?=_
    rw [Nat.mul_one,toList_madeCells_one]
    simp [hi]
theorem Blk.new (w:World) (xs:Array Value) (r:Nat->Int) (h:∀ i,i < xs.size->xs[i]?=some (.int .i64 (r i))):Blk (w.alloc (.cells xs 3)) w.heap.size xs.size r :=
  ⟨xs,heap_alloc_new w _,rfl,h⟩
theorem Out.row {B:Nat} {w:World} {v:Value} {n:Nat} {d:Nat->Int} (h:Out B w v n d):∃ ao cap,v=.slice ao n cap∧Row w ao n cap d:=by
  rcases h.2 with ⟨rfl,rfl⟩ | ⟨g,cap,cur,rfl,hb,hg,hn,hm,hs,ht⟩
  . exact ⟨none,0,rfl,Row.nil _ _⟩
  . refine ⟨_,cap,rfl,hn,by unfold maxLen at hm; exact hm,(fun e=>by cases e),fun _=>⟨g,0,rfl,(Array.getElem?_eq_some_iff.1 hg).1,fun i hi=>?_⟩⟩
    rw [Nat.zero_add,cell_of_row w g i cur _ _ hg]
    have e:(cur.toList.take (n * 1))[i]?=(vals d n)[i]?:=by rw [ht]
    rw [List.getElem?_take,if_pos (by omega),vals_get d hi,Array.getElem?_toList] at e
    exact e
theorem Out.nil (B:Nat) (w:World) (d:Nat->Int):Out B w (.slice none 0 0) 0 d:=World.ownsRow_nil _ _ _ _
theorem Out.stays {B:Nat} {w w':World} {v:Value} {n:Nat} {d:Nat->Int} (h:Out B w v n d) (hb:Below w.heap.size w w'):Out B w' v n d:=by
  refine ⟨h.1,?_⟩
  rcases h.2 with hn | ⟨g,cap,cur,rfl,hbb,hg,rest⟩
  . exact .inl hn
  . exact .inr ⟨g,cap,cur,rfl,hbb,(hb.block g (Array.getElem?_eq_some_iff.1 hg).1).trans hg,rest⟩
theorem Out.lower {B B':Nat} {w:World} {v:Value} {n:Nat} {d:Nat->Int} (h:Out B w v n d) (hB:B' <= B):Out B' w v n d:=by
  refine ⟨h.1,?_⟩
  rcases h.2 with hn | ⟨g,cap,cur,rfl,hbb,rest⟩
  . exact .inl hn
  . exact .inr ⟨g,cap,cur,rfl,by omega,rest⟩
theorem Out.congr {B:Nat} {w:World} {v:Value} {n:Nat} {d e:Nat->Int} (h:Out B w v n d) (he:∀ i,i < n->d i=e i):Out B w v n e:=by
  unfold Out at h ⊢
  rwa [show vals e n=vals d n from (vals_ext (vals_length d n) fun i hi=>by rw [vals_get d hi,he i hi]).symm]
theorem bel_trans {a b c:World} (h:Below a.heap.size a b) (k:Below b.heap.size b c):Below a.heap.size a c:=h.trans (k.mono h.size)
theorem bel_refl (w:World):Below w.heap.size w w:=Below.refl _ _
theorem bDrewN {B:Nat} {a w:World} (h:Below B a w) (n:Nat):Below B a (w.drewN n):=⟨h.os,h.tape,h.output,h.size,h.block⟩
def cutV (ao:Option Addr) (t cap:Nat):Value:=if t=0 then .slice none 0 0 else .slice ao t cap
theorem Blk.cut {w:World} {g N:Nat} {r:Nat->Int} (h:Blk w g N r) {B t:Nat} (hB:B <= g) (ht:t <= N) (hm:N <= 9223372036854775807):Out B w (cutV (some ⟨g,0,none⟩) t N) t r:=by
  unfold cutV
  split
  . rename_i h0; subst h0; exact Out.nil _ _ _
  . exact h.out hB ht hm
def Ans (w w':World) (V:Int) (v:Value):Prop:=∃ t d,Out w.heap.size w' v t d∧Nrm d t∧val d t=V∧Below w.heap.size w w'
theorem Ans.below {w w':World} {V:Int} {v:Value} (h:Ans w w' V v):Below w.heap.size w w':=h.choose_spec.choose_spec.2.2.2
theorem Ans.from {w0 w w':World} {V:Int} {v:Value} (h:Ans w w' V v) (hb:Below w0.heap.size w0 w):Ans w0 w' V v:=by
  obtain ⟨t,d,h1,h2,h3,h4⟩:=h
  exact ⟨t,d,h1.lower hb.size,h2,h3,bel_trans hb h4⟩
theorem Ans.stays {w w1 w2:World} {V:Int} {v:Value} (h:Ans w w1 V v) (hb:Below w1.heap.size w1 w2):Ans w w2 V v:=by
  obtain ⟨t,d,h1,h2,h3,h4⟩:=h
  exact ⟨t,d,h1.stays hb,h2,h3,bel_trans h4 hb⟩
theorem Ans.nil {w w':World} (hb:Below w.heap.size w w'):Ans w w' 0 (.slice none 0 0):=⟨0,fun _=>0,Out.nil _ _ _,⟨fun i hi=>by omega,.inl rfl⟩,rfl,hb⟩
def Fit (w w':World) (V:Int) (v:Value) (er:Int):Prop:=Below w.heap.size w w'∧((V < P 2000∧er=0∧Ans w w' V v)∨(P 2000 <= V∧er=2∧v=.slice none 0 0))
theorem info_int:(Tryd.prog.info? 3).map (fun i=>(i.zero,i.size,i.bytes))=some (some (.int .i64 0),1,8):=by kernel_rfl
theorem grown_below {w w':World} (h:w.grownBy w' none):Below w.heap.size w w':=⟨h.os,h.tape,h.output,h.size,fun k hk=>h.block k hk (by simp)⟩
theorem wpList_mk {w:World} {ops:Array Oper} {rest:List Oper} {o:Oper} {a:Act} {Q:Exit->Act->World->Prop} (hg:o.guard=none) (l c:Operand) (hop:o.op=Op.makeSlice 22 l c)
    (L C:Int) (n:Nat) (hl:a.eval l=.int .i64 L) (hc:a.eval c=.int .i64 C) (hL:L=(n:Int)) (hC:C=(n:Int)) (hn:n <= 1000000)
    (hK:∀ w',Blk w' w.heap.size n (fun _=>0)->Below w.heap.size w w'->wpList Tryd.prog ops Q rest (a.put o.dst (.slice (some ⟨w.heap.size,0,none⟩) n n)) w') :
    wpList Tryd.prog ops Q (o :: rest) a w:=by
  obtain ⟨i0,hi,hz0,hz1,hz2⟩:=info_parts info_int
  exact wpList_make_full w hg l c 22 hop w.heap.size 3 i0 (.int .i64 0) 1 Tryd.underlying22 hi hz0 hz1 .i64 .i64 L C n hl hc hL hC (by rw [hz2]; omega) (by unfold maxLen; omega) (Nat.le_refl _)
    fun w' h1 h2=>hK w' (Blk.made h1) (grown_below h2)
theorem row1 (w:World) (x:Int) {g:Nat} (hg:g=w.heap.size):Row (w.alloc (.cells #[.int .i64 x] 3)) (some ⟨g,0,none⟩) 1 1 (fun _=>x):=by
  subst hg
  exact (Blk.new w #[.int .i64 x] (fun _=>x) (fun i hi=>by simp at hi; subst hi; rfl)).row0 (Nat.le_refl _) (show 1 <= 9223372036854775807 by decide)
def d2 (x y:Int):Nat->Int:=fun i=>if i=0 then x else y
def cat (d:Nat->Int) (n:Nat) (e:Nat->Int):Nat->Int:=fun i=>if i < n then d i else e (i - n)
theorem vals_cat (d e:Nat->Int) (n m:Nat):vals d n ++ vals e m=vals (cat d n e) (n + m):=by
  apply vals_ext (by simp [vals_length])
  intro i hi
  by_cases h:i < n
  . rw [List.getElem?_append_left (by rw [vals_length]; exact h),vals_get d h]; simp [cat,h]
  . rw [List.getElem?_append_right (by rw [vals_length]; omega),vals_length,vals_get e (by omega)]; simp [cat,h]
theorem add_none (b off n:Nat):(⟨b,off,none⟩:Addr).add n=⟨b,off + n,none⟩:=by
  unfold Addr.add; split <;> simp_all
theorem wpList_app {w:World} {ops:Array Oper} {rest:List Oper} {o:Oper} {a:Act} {Q:Exit->Act->World->Prop} (hgd:o.guard=none) (s x:Operand)
    (ho:o.op=.call { callee:=.builtin .append,args:=#[s,x],argTypes:=#[22,22] }) (B:Nat) (v:Value) (n:Nat) (d:Nat->Int) (hs:a.eval s=v) (hO:Out B w v n d)
    (bo:Option Addr) (m cb:Nat) (e:Nat->Int) (hx:a.eval x=.slice bo m cb) (hR:Row w bo m cb e) (hlen:n + m <= 1000000) (hB:B <= w.heap.size)
    (h:∀ v' w',Out B w' v' (n + m) (cat d n e)->w.grownBy w' v.ownBlock->wpList Tryd.prog ops Q rest (a.put o.dst v') w'):wpList Tryd.prog ops Q (o :: rest) a w:=by
  obtain ⟨i0,hi,hz0,hz1,hz2⟩:=info_parts info_int
  cases bo with
  | none=>
    have hc:=hR.nl rfl
    have hl:=hR.le
    subst hc
    obtain rfl:m=0:=by omega
    refine wpList_append_own_none hgd s x 22 ho B 3 i0 1 Tryd.underlying22 hi v n (vals d n) hs hO hx ?_
    refine h v w ?_ ⟨rfl,rfl,rfl,Nat.le_refl _,fun _ _ _=>rfl⟩
    exact Out.congr hO fun i hi=>by simp [cat]; omega
  | some ad=>
    refine wpList_append_own w hgd s x 22 ho B 3 i0 (.int .i64 0) 1 8 Tryd.underlying22 hi hz0 hz1 hz2 rfl (by decide) v n (vals d n) hs hO ad m cb (vals e m) hx (by rw [vals_length]; omega) ?_ (vals_one e m) (by unfold maxLen; omega) (by omega) hB ?_
    . intro j u hu
      have hj:j < m:=by have:=(List.getElem?_eq_some_iff.1 hu).1; rwa [vals_length] at this
      obtain ⟨b,off,hb,_,hc⟩:=hR.spot (by omega)
      obtain rfl:=Option.some.inj hb
      rw [vals_get e hj] at hu
      rw [add_none,hc j hj]; exact hu
    . intro v' w' h1 h2 _
      rw [vals_cat] at h1
      exact h v' w' h1 h2
theorem own_ge {B:Nat} {w:World} {v:Value} {n:Nat} {d:Nat->Int} (h:Out B w v n d):∀ k,v.ownBlock=some k->B <= k:=fun k hk=>(World.ownsRow.lt h k hk).1
def Num (w:World) (v:Value) (V:Int):Prop:=∃ ao n cap d,v=.slice ao n cap∧Row w ao n cap d∧Nrm d n∧val d n=V
theorem Ans.num {w w':World} {V:Int} {v:Value} (h:Ans w w' V v):Num w' v V:=by
  obtain ⟨t,d,h1,h2,h3,h4⟩:=h
  obtain ⟨ao,cap,rfl,hR⟩:=h1.row
  exact ⟨ao,t,cap,d,rfl,hR,h2,h3⟩
theorem Num.keeps {w w':World} {v:Value} {V:Int} (h:Num w v V) (hb:Below w.heap.size w w'):Num w' v V:=by
  obtain ⟨ao,n,cap,d,rfl,hR,h2⟩:=h
  exact ⟨ao,n,cap,d,rfl,hR.keeps hb,h2⟩
theorem Num.shape {w:World} {v:Value} {V:Int} (h:Num w v V):∃ ao n cap,v=.slice ao n cap:=by
  obtain ⟨ao,n,cap,d,e,_⟩:=h
  exact ⟨ao,n,cap,e⟩
theorem Num.alloc {w:World} {v:Value} {V:Int} (h:Num w v V) (o:Obj):Num (w.alloc o) v V:=h.keeps ((Below.refl _ _).alloc (Nat.le_refl _) _)
theorem Num.len {w:World} {ao:Option Addr} {n cap:Nat} {V:Int} (h:Num w (.slice ao n cap) V) {k:Nat} (hV:V < P k):n <= k:=by
  obtain ⟨ao',n',cap',d,e,hR,h2,h3⟩:=h
  simp only [Value.slice.injEq] at e
  obtain ⟨rfl,rfl,rfl⟩:=e
  by_cases hk:n <= k
  . exact hk
  . have a:=val_top h2.1 (by omega) h2.2
    have b:=P_le (show k <= n - 1 by omega)
    omega
theorem Num.zero {w:World} {ao:Option Addr} {n cap:Nat} {V:Int} (h:Num w (.slice ao n cap) V):V=0 ↔ n=0:=by
  obtain ⟨ao',n',cap',d,e,hR,h2,rfl⟩:=h
  simp only [Value.slice.injEq] at e
  obtain ⟨rfl,rfl,rfl⟩:=e
  exact val_zero h2
theorem bel_alloc (w:World) (o:Obj):Below w.heap.size w (w.alloc o):=(Below.refl _ _).alloc (Nat.le_refl _) _
theorem bel_alloc2 (w:World) (o p:Obj):Below w.heap.size w ((w.alloc o).alloc p):=(bel_alloc w o).alloc (by simp) _
end Go.Proofs.YtkajoieoggajiaaDoor
namespace Go.Proofs.YtkajoieoggajiaaDoor.M
open Go
theorem dig_mul {x y:Int} (hx:0 <= x∧x < 1073741824) (hy:0 <= y∧y < 1073741824):0 <= x * y∧x * y <= 1152921502459363329:=by
  refine ⟨Int.mul_nonneg hx.1 hy.1,?_⟩
  have h1:x * y <= 1073741823 * y:=Int.mul_le_mul_of_nonneg_right (by omega) hy.1
  omega
theorem zero_dig (n:Nat):Dig (fun _=>0) n:=fun i _=>⟨Int.le_refl 0,show (0:Int) < 1073741824 by decide⟩
theorem mod_dig (x:Int):0 <= x % 1073741824∧x % 1073741824 < 1073741824:=by omega
theorem sum_step {r:Nat->Int} {k:Nat} {c x V:Int} (h:val r k + c * P k=V):val (upd r k ((c + x) % 1073741824)) (k + 1) + (c + x) / 1073741824 * P (k + 1)=V + x * P k:=by
  rw [val_succ,val_upd_ge r _ (Nat.le_refl k),upd_same,P_succ,carry_step,h]
theorem mul_step {r r0 b:Nat->Int} {i j:Nat} {c ai:Int} (h:val r (i + j) + c * P (i + j)=val r0 (i + j) + ai * val b j * P i) (hr:r (i + j)=r0 (i + j)) :
    val (upd r (i + j) ((c + (ai * b j + r (i + j))) % 1073741824)) (i + (j + 1)) + (c + (ai * b j + r (i + j))) / 1073741824 * P (i + (j + 1))=val r0 (i + (j + 1)) + ai * val b (j + 1) * P i:=by
  have e:=sum_step (x:=ai * b j + r (i + j)) h
  rw [<- Nat.add_assoc,e,val_succ,val_succ,P_add,hr]
  grind
theorem mul_row {r r0 b:Nat->Int} {i m:Nat} {c ai A:Int} (h:val r (i + m) + c * P (i + m)=val r0 (i + m) + ai * val b m * P i) (h0:val r0 (i + m)=A * val b m) :
    val (upd r (i + m) c) (i + 1 + m)=(A + ai * P i) * val b m:=by
  rw [show i + 1 + m=i + m + 1 by omega,val_succ,upd_same,val_upd_ge r _ (Nat.le_refl _),h,h0]
  grind
theorem nrm_of_top {d:Nat->Int} {n t:Nat} (hd:Dig d n) (ht:t <= n) (htop:Top d t) (hz:∀ i,t <= i->i < n->d i=0):Nrm d t∧val d t=val d n :=
  ⟨⟨hd.le ht,htop⟩,(val_zeros ht hz).symm⟩
def ord (a b:Int):Int:=if a < b then -1 else if b < a then 1 else 0
theorem ord_lt {a b:Int} (h:a < b):ord a b=-1:=by simp [ord,h]
theorem ord_gt {a b:Int} (h:b < a):ord a b=1:=by simp [ord,h]; omega
theorem ord_eq {a b:Int} (h:a=b):ord a b=0:=by simp [ord,h]
end Go.Proofs.YtkajoieoggajiaaDoor.M
namespace Go.Proofs.YtkajoieoggajiaaDoor
open Go Go.RowKit Go.Proofs.YtkajoieoggajiaaDoor.M
instance (d:Nat->Int) (n:Nat):Decidable (Dig d n):=by unfold Dig; infer_instance
instance (d:Nat->Int) (n:Nat):Decidable (Top d n):=by unfold Top; infer_instance
instance (d:Nat->Int) (n:Nat):Decidable (Nrm d n):=by unfold Nrm; infer_instance
def okB (d:Nat->Int) (n:Nat):Bool:=decide (n <= 2000∧Nrm d n)
theorem okB_yes {d:Nat->Int} {n:Nat} (h:n <= 2000) (k:Nrm d n):okB d n=true:=by simp [okB,h,k]
theorem okB_no {d:Nat->Int} {n:Nat} (h:¬ (n <= 2000∧Nrm d n)):okB d n=false:=by simp only [okB,h,decide_false]
theorem ret_bool {a b:Bool} (h:a=b):Ending.returned (.bool a)=.returned (.bool b):=by rw [h]
theorem ret_int {k:IntKind} {a b:Int} (h:a=b):Ending.returned (.int k a)=.returned (.int k b):=by rw [h]
theorem dig_snoc {d:Nat->Int} {k:Nat} (h:Dig d k) (h0:0 <= d k) (h1:d k < 1073741824):Dig d (k + 1):=fun i hi=>by
  by_cases e:i=k
  . rw [e]; exact ⟨h0,h1⟩
  . exact h i (by omega)
set_option maxHeartbeats 400000 in
theorem valid_any (ao:Option Addr) (n cap:Nat) (d:Nat->Int) (w:World) (h:Row w ao n cap d) :
    Calls Tryd.prog 56 #[.slice ao n cap] w fun e w'=>e=.returned (.bool (okB d n))∧w'=w:=by
  have hl:=h.le
  have hm:=h.max
  by_cases h2k:n <= 2000
  . go_enter Tryd.func56,Tryd.ntmps56
    go_wp2
    go_loop [9] (fun i=>∃ k:Nat,k <= n∧i=.int .i64 k∧Dig d k) (fun i=>n - (intOf i).toNat)
    case atStart=>exact ⟨0,Nat.zero_le _,rfl,fun i hi=>absurd hi (by omega)⟩
    case round=>
      obtain ⟨k,hk,rfl,hd⟩:=hrel
      by_cases hlt:k < n
      . obtain ⟨b,off,rfl,hb,hc⟩:=h.spot (by omega)
        have c:=hc k hlt
        by_cases h0:d k < 0
        . go_wp2
          go_ret
          exact ⟨ret_bool (okB_no (fun ⟨_,q⟩=>by have:=(q.1 k hlt).1; omega)).symm,rfl⟩
        . by_cases h1:1073741823 < d k
          . go_wp2
            go_ret
            exact ⟨ret_bool (okB_no (fun ⟨_,q⟩=>by have:=(q.1 k hlt).2; omega)).symm,rfl⟩
          . go_wp2
            go_round
            case rel=>exact ⟨k + 1,by omega,by go_num,dig_snoc hd (by omega) (by omega)⟩
            case measure=>simp [intOf]; omega
      . obtain rfl:k=n:=by omega
        by_cases h0:k=0
        . subst h0
          go_wp2
          go_ret
          exact ⟨ret_bool (okB_yes h2k ⟨hd,.inl rfl⟩).symm,rfl⟩
        . obtain ⟨b,off,rfl,hb,hc⟩:=h.spot (by omega)
          have c:=hc (k - 1) (by omega)
          by_cases h1:d (k - 1)=0
          . go_wp2
            go_ret
            exact ⟨ret_bool ((show _=false by simp; omega).trans (okB_no (fun ⟨_,q⟩=>by rcases q.2 with e | e <;> omega)).symm),rfl⟩
          . go_wp2
            go_ret
            exact ⟨ret_bool ((show _=true by simp; omega).trans (okB_yes h2k ⟨hd,.inr h1⟩).symm),rfl⟩
  . go_enter Tryd.func56,Tryd.ntmps56
    go_wp2
    go_ret
    exact ⟨ret_bool (okB_no (fun ⟨q,_⟩=>h2k q)).symm,rfl⟩
set_option maxHeartbeats 400000 in
theorem trim_any (ao:Option Addr) (n cap:Nat) (d:Nat->Int) (w:World) (h:Row w ao n cap d) :
    Calls Tryd.prog 87 #[.slice ao n cap] w fun e w'=>∃ t:Nat,t <= n∧Top d t∧(∀ i,t <= i->i < n->d i=0)∧e=.returned (cutV ao t cap)∧w'=w:=by
  have hl:=h.le
  have hm:=h.max
  go_enter Tryd.func87,Tryd.ntmps87
  go_wp2
  go_loop [3] (fun i=>∃ k:Nat,k <= n∧i=.int .i64 k∧∀ i,k <= i->i < n->d i=0) (fun i=>(intOf i).toNat)
  case atStart=>exact ⟨n,Nat.le_refl _,rfl,fun i a b=>by omega⟩
  case round=>
    obtain ⟨k,hk,rfl,hz⟩:=hrel
    have HZ:Hid (∀ i,k <= i->i < n->d i=0):=hz
    clear hz
    by_cases h0:k=0
    . subst h0
      go_wp2
      go_ret
      exact ⟨0,by omega,.inl rfl,HZ.out,rfl,rfl⟩
    . obtain ⟨b,off,rfl,hb,hc⟩:=h.spot (by omega)
      have c:=hc (k - 1) (by omega)
      by_cases h1:d (k - 1)=0
      . go_wp2
        go_round
        case rel=>exact ⟨k - 1,by omega,by go_num,fun i a b=>by by_cases e:i=k - 1; (· rw [e]; exact h1); (· exact HZ.out i (by omega) b)⟩
        case measure=>simp [intOf]; omega
      . go_wp2
        go_ret
        exact ⟨k,hk,.inr h1,HZ.out,by unfold cutV; rw [if_neg h0]; simp,rfl⟩
set_option maxHeartbeats 2000000 in
theorem product_any (ao bo:Option Addr) (n m ca cb:Nat) (a b:Nat->Int) (w:World) (ha:Row w ao n ca a) (hb:Row w bo m cb b) (da:Dig a n) (db:Dig b m) (hn:n <= 100000) (hm:m <= 100000) :
    Calls Tryd.prog 95 #[.slice ao n ca,.slice bo m cb] w fun e w'=>∃ v,e=.returned v∧Ans w w' (val a n * val b m) v:=by
  have hla:=ha.le
  have hma:=ha.max
  have hlb:=hb.le
  have hmb:=hb.max
  go_enter Tryd.func95,Tryd.ntmps95
  go_wp2_with (at_make; refine wpList_mk rfl _ _ rfl _ _ (n + m) rfl rfl (by omega) (by omega) (by omega) ?_; intro w1 hB1 hb1)
  go_loopw [18] (fun i wr=>∃ (k:Nat) (r:Nat->Int),k <= n∧i=.int .i64 k∧Blk wr w.heap.size (n + m) r∧Dig r (n + m)∧Hid (∀ t,k + m <= t->r t=0)∧Hid (val r (k + m)=val a k * val b m)∧Below w.heap.size w wr) (fun i _=>n - (intOf i).toNat)
  case atStart=>exact ⟨0,fun _=>0,Nat.zero_le _,rfl,hB1,zero_dig _,fun _ _=>rfl,by show _=_; rw [val_zeros (Nat.zero_le (0 + m)) (fun _ _ _=>rfl)]; show 0=0 * val b m; omega,hb1⟩
  case round=>
    obtain ⟨i,r0,hi,rfl,hB0,hD0,HZ0,HV0,hbw0⟩:=hrel
    by_cases hlt:i < n
    . obtain ⟨ba,fa,rfl,hba,hca⟩:=ha.spot (by omega)
      have dai:=da i hlt
      go_wp2
      go_loopw [8,30] (fun c j wr=>∃ (k:Nat) (q:Int) (r:Nat->Int),k <= m∧j=.int .i64 k∧c=.int .i64 q∧0 <= q∧q < 1073741824∧Blk wr w.heap.size (n + m) r∧Dig r (n + m)∧Hid (∀ t,i + k <= t->r t=r0 t)∧Hid (val r (i + k) + q * P (i + k)=val r0 (i + k) + a i * val b k * P i)∧Below w.heap.size w wr) (fun _ j _=>m - (intOf j).toNat)
      case atStart=>exact ⟨0,0,r0,Nat.zero_le _,rfl,rfl,by omega,by omega,hB0,hD0,fun _ _=>rfl,by show _=_; show val r0 i + 0 * P i=val r0 i + a i * 0 * P i; grind,hbw0⟩
      case round=>
        obtain ⟨k,q,r,hk,rfl,rfl,hq0,hq1,hB,hD,HS,HV,hbw⟩:=hrel
        have c1:=(hbw.cell (p:=⟨ba,fa + i,none⟩) hba).trans (hca i hlt)
        by_cases hkm:k < m
        . obtain ⟨bb,fb,rfl,hbb,hcb⟩:=hb.spot (by omega)
          have c2:=(hbw.cell (p:=⟨bb,fb + k,none⟩) hbb).trans (hcb k hkm)
          have c3:=hB.cell (show i + k < n + m by omega)
          have fg:=hB.frozen (i + k)
          have drk:=hD (i + k) (by omega)
          have hmul:=dig_mul dai (db k hkm)
          have h30:=and_30 (q + (a i * b k + r (i + k)))
          go_wp2
          go_quiet (fail)
          go_wp2
          have hs:=mul_step (b:=b) (j:=k) HV.out (HS.out (i + k) (Nat.le_refl _))
          go_roundw
          case rel=>exact ⟨k + 1,_,upd r (i + k) ((q + (a i * b k + r (i + k))) % 1073741824),by omega,by go_num,rfl,by omega,by omega,hB.store (i + k) _,hD.upd _ (mod_dig _),fun t ht=>by rw [upd_other r _ (by omega)]; exact HS.out t (by omega),hs,(bDrewN hbw _).setCell (Nat.le_refl _) _⟩
          case measure=>simp [intOf]; omega
        . obtain rfl:k=m:=by omega
          have c3:=hB.cell (show i + k < n + k by omega)
          have fg:=hB.frozen (i + k)
          go_wp2
          have hr:=mul_row HV.out HV0.out
          go_roundw
          case rel=>exact ⟨i + 1,upd r (i + k) q,by omega,by go_num,hB.store (i + k) _,hD.upd _ ⟨hq0,hq1⟩,fun t ht=>by rw [upd_other r _ (by omega),HS.out t (by omega)]; exact HZ0.out t (by omega),by show _=_; rw [hr,val_succ],hbw.setCell (Nat.le_refl _) _⟩
          case measure=>simp [intOf]; omega
    . obtain rfl:i=n:=by omega
      go_wp2_with (go_at_call 87; refine (trim_any _ _ _ _ _ (hB0.row0 (Nat.le_refl _) (by omega))).mono ?_; rintro e w3 ⟨t,ht,htop,hz,rfl,rfl⟩)
      go_ret
      obtain ⟨hN,hv⟩:=nrm_of_top hD0 ht htop hz
      exact ⟨_,rfl,t,r0,hB0.cut (Nat.le_refl _) ht (by omega),hN,by rw [hv,HV0.out],hbw0⟩
def fitV (ao:Option Addr) (t cap:Nat):Value:=if 2000 < t then .slice none 0 0 else .slice ao t cap
def fitE (t:Nat):Int:=if 2000 < t then 2 else 0
theorem Fit.of {w w':World} {V:Int} {ao:Option Addr} {t cap:Nat} {d:Nat->Int} (h1:Out w.heap.size w' (.slice ao t cap) t d) (h2:Nrm d t) (h3:val d t=V) (hb:Below w.heap.size w w'):Fit w w' V (fitV ao t cap) (fitE t):=by
  refine ⟨hb,?_⟩
  by_cases h:2000 < t
  . refine .inr ⟨?_,by simp [fitE,h],by simp [fitV,h]⟩
    have a:=val_top h2.1 (by omega) h2.2
    have b:=P_le (show 2000 <= t - 1 by omega)
    omega
  . refine .inl ⟨?_,by simp [fitE,h],?_⟩
    . have a:=val_lt h2.1
      have b:=P_le (show t <= 2000 by omega)
      omega
    . rw [show fitV ao t cap=.slice ao t cap by simp [fitV,h]]
      exact ⟨t,d,h1,h2,h3,hb⟩
structure Two (w:World) (ao bo:Option Addr) (n m ca cb:Nat) (a b:Nat->Int):Prop where
  ra:Row w ao n ca a
  rb:Row w bo m cb b
theorem Two.keeps {w w':World} {ao bo:Option Addr} {n m ca cb:Nat} {a b:Nat->Int} (h:Two w ao bo n m ca cb a b) (hb:Below w.heap.size w w'):Two w' ao bo n m ca cb a b:=⟨h.ra.keeps hb,h.rb.keeps hb⟩
end Go.Proofs.YtkajoieoggajiaaDoor
namespace Go.Proofs.YtkajoieoggajiaaDoor.M
open Go
def IsLow (V:Int) (l:Nat):Prop:=∃ m:Int,V=(2 * m + 1) * 2 ^ l
theorem two_pos (k:Nat):(0:Int) < 2 ^ k:=Int.pow_pos (by decide)
theorem P_two (n:Nat):P n=2 ^ (30 * n):=by
  induction n with
  | zero=>rfl
  | succ n ih=>rw [P_succ,ih,show 30 * (n + 1)=30 * n + 30 by omega,Int.pow_add]; rfl
theorem two_split (k:Nat):(2:Int) ^ k=P (k / 30) * 2 ^ (k % 30):=by
  rw [P_two,<- Int.pow_add]; congr 1; omega
theorem two_le {j k:Nat} (h:j <= k):(2:Int) ^ j <= 2 ^ k:=by
  obtain ⟨m,rfl⟩:=Nat.exists_eq_add_of_le h
  rw [Int.pow_add]
  have h1:=two_pos j
  have h2:=two_pos m
  have h3:(2:Int) ^ j * 1 <= 2 ^ j * 2 ^ m:=Int.mul_le_mul_of_nonneg_left (by omega) (by omega)
  omega
theorem or_add (x m:Int) (k:Nat) (hx:0 <= x) (hxk:x < 2 ^ k) (hm:0 <= m) (hs:x + m * 2 ^ k < 9223372036854775808):bits .or .i64 x (m * 2 ^ k)=x + m * 2 ^ k:=by
  have hp:=two_pos k
  have hy:0 <= m * 2 ^ k:=Int.mul_nonneg hm (by omega)
  obtain ⟨m',rfl⟩:=Int.eq_ofNat_of_zero_le hm
  obtain ⟨x',rfl⟩:=Int.eq_ofNat_of_zero_le hx
  have e2:((m':Int) * 2 ^ k)=((m' * 2 ^ k:Nat):Int):=by simp
  rw [e2] at hs hy ⊢
  have hx':x' < 2 ^ k:=by
    have:((x':Nat):Int) < ((2 ^ k:Nat):Int):=by simpa using hxk
    exact Int.ofNat_lt.1 this
  have e3:x' ||| m' * 2 ^ k=m' * 2 ^ k + x':=by rw [Nat.or_comm,Nat.mul_comm m',Nat.two_pow_add_eq_or_of_lt hx' m']
  generalize m' * 2 ^ k=M at *
  rw [bits_or64,show (((x':Int)) % 18446744073709551616).toNat=x' by omega,show ((M:Int) % 18446744073709551616).toNat=M by omega,e3,wrap_i64_eq]
  omega
def low (s:Nat->Int) (u v:Int):Nat->Int:=fun i=>s i / u + s (i + 1) % u * v
theorem low_dig {s:Nat->Int} {u v:Int} {n:Nat} (hu:0 < u) (huv:u * v=1073741824) (h:Dig s (n + 1)):Dig (low s u v) n:=by
  intro i hi
  have a:=h i (by omega)
  have hv:0 < v:=by
    rcases Int.lt_or_le 0 v with h | h
    . exact h
    . have:=Int.mul_nonneg (show 0 <= u by omega) (show 0 <= -v by omega); rw [Int.mul_neg] at this; omega
  have b0:0 <= s (i + 1) % u:=Int.emod_nonneg _ (by omega)
  have b1:s (i + 1) % u < u:=Int.emod_lt_of_pos _ hu
  have c0:0 <= s i / u:=Int.ediv_nonneg a.1 (by omega)
  have c1:s i / u < v:=(Int.ediv_lt_iff_lt_mul hu).2 (by rw [Int.mul_comm,huv]; exact a.2)
  have d1:s (i + 1) % u * v <= (u - 1) * v:=Int.mul_le_mul_of_nonneg_right (by omega) (by omega)
  have d0:0 <= s (i + 1) % u * v:=Int.mul_nonneg b0 (by omega)
  rw [Int.sub_mul,huv] at d1
  unfold low
  omega
theorem low_val (s:Nat->Int) {u v:Int} (huv:u * v=1073741824) (n:Nat):val (low s u v) n * u=val s n - s 0 % u + s n % u * P n:=by
  induction n with
  | zero=>show (0:Int) * u=0 - s 0 % u + s 0 % u * 1; omega
  | succ n ih=>
    rw [val_succ,val_succ,P_succ]
    have e:s n / u * u=s n - s n % u:=by have:=Int.emod_add_ediv_mul (s n) u; omega
    unfold low at ih ⊢
    have e2:(val (fun i=>s i / u + s (i + 1) % u * v) n + (s n / u + s (n + 1) % u * v) * P n) * u=val (fun i=>s i / u + s (i + 1) % u * v) n * u + (s n / u * u) * P n + s (n + 1) % u * (u * v) * P n:=by grind
    rw [e2,ih,e,huv]; grind
theorem low_eq {s:Nat->Int} {u v:Int} (hu:0 < u) (huv:u * v=1073741824) {n:Nat} (h:s n=0):val (low s u v) n=val s n / u:=by
  have h1:=low_val s huv n
  rw [h,Int.zero_emod,Int.zero_mul,Int.add_zero] at h1
  have b0:0 <= s 0 % u:=Int.emod_nonneg _ (by omega)
  have b1:s 0 % u < u:=Int.emod_lt_of_pos _ hu
  have:val s n=s 0 % u + val (low s u v) n * u:=by omega
  rw [this,Int.add_mul_ediv_right _ _ (by omega),Int.ediv_eq_zero_of_lt b0 b1]; omega
theorem val_drop (d:Nat->Int) {w n:Nat} (h:w <= n) (hd:Dig d n):val (fun i=>d (w + i)) (n - w)=val d n / P w:=by
  have e:=val_split d w (n - w)
  rw [show w + (n - w)=n by omega] at e
  rw [e,Int.add_mul_ediv_left _ _ (by have:=P_pos w; omega),Int.ediv_eq_zero_of_lt (val_nonneg (hd.le h)) (val_lt (hd.le h))]; omega
theorem val_shift0 (d:Nat->Int) (w n:Nat) (h:∀ i,i < w->d i=0):val d (w + n)=P w * val (fun i=>d (w + i)) n:=by
  rw [val_split,val_zeros (Nat.zero_le w) (fun i _ b=>h i b)]; show 0 + _=_; omega
def blen (V:Int):Nat:=if V <= 0 then 0 else Nat.log2 V.toNat + 1
theorem blen_zero:blen 0=0:=by decide
theorem blen_lt (V:Int):V < 2 ^ blen V:=by
  unfold blen
  split
  . show V < 1; omega
  . have h:=@Nat.lt_log2_self V.toNat
    have e:((V.toNat:Nat):Int) < ((2 ^ (Nat.log2 V.toNat + 1):Nat):Int):=Int.ofNat_lt.2 h
    rw [Int.toNat_of_nonneg (by omega)] at e
    simpa using e
theorem blen_pos {V:Int} (h:0 < V):1 <= blen V∧2 ^ (blen V - 1) <= V:=by
  unfold blen
  rw [if_neg (by omega)]
  refine ⟨by omega,?_⟩
  have h1:=Nat.log2_self_le (n:=V.toNat) (by omega)
  have e:((2 ^ Nat.log2 V.toNat:Nat):Int) <= ((V.toNat:Nat):Int):=Int.ofNat_le.2 h1
  rw [Int.toNat_of_nonneg (by omega)] at e
  simpa using e
theorem two_lt_iff {j k:Nat} (h:(2:Int) ^ j < 2 ^ k):j < k:=by
  rcases Nat.lt_or_ge j k with h1 | h1
  . exact h1
  . have:=two_le h1; omega
theorem blen_le {V:Int} {k:Nat} (h:V < 2 ^ k):blen V <= k:=by
  by_cases h0:0 < V
  . obtain ⟨h1,h2⟩:=blen_pos h0
    have:=two_lt_iff (show (2:Int) ^ (blen V - 1) < 2 ^ k by omega)
    omega
  . unfold blen; rw [if_pos (by omega)]; omega
theorem blen_ge {V:Int} {k:Nat} (h:2 ^ k <= V):k < blen V:=by
  have h1:=blen_lt V
  exact two_lt_iff (by omega)
theorem blen_of {V:Int} {k:Nat} (h1:2 ^ k <= V) (h2:V < 2 ^ (k + 1)):blen V=k + 1:=by
  have a:=blen_ge h1
  have b:=blen_le h2
  omega
theorem bitLen_eq {x:Int} (h0:0 <= x) (h1:x < 18446744073709551616):(Lib.bitLen x.toNat:Int)=blen x:=by
  by_cases hx:x=0
  . subst hx; decide
  . obtain ⟨a,b,c⟩:=Lib.bitLenAux_bounds 64 x.toNat (by omega) (by omega)
    have e:blen x=Lib.bitLen x.toNat:=by
      have hb:Lib.bitLen x.toNat=Lib.bitLenAux 64 x.toNat:=rfl
      rw [<- hb] at a b c
      obtain ⟨k,hk⟩:∃ k,Lib.bitLen x.toNat=k + 1:=⟨Lib.bitLen x.toNat - 1,by omega⟩
      rw [hk] at b c ⊢
      have b':((2 ^ k:Nat):Int) <= ((x.toNat:Nat):Int):=Int.ofNat_le.2 (by simpa using b)
      have c':((x.toNat:Nat):Int) < ((2 ^ (k + 1):Nat):Int):=Int.ofNat_lt.2 c
      rw [Int.toNat_of_nonneg h0] at b' c'
      exact blen_of (by simpa using b') (by simpa using c')
    rw [e]
theorem blen_val {d:Nat->Int} {n:Nat} (h:Nrm d (n + 1)):blen (val d (n + 1))=30 * n + blen (d n):=by
  have hd:=h.1 n (by omega)
  have ht:d n ≠ 0:=by rcases h.2 with e | e; (· omega); (· simpa using e)
  have hp:0 < d n:=by omega
  obtain ⟨a,b⟩:=blen_pos hp
  have c:=blen_lt (d n)
  have v0:=val_nonneg (h.1.le (Nat.le_succ n))
  have v1:=val_lt (h.1.le (Nat.le_succ n))
  have pp:=P_pos n
  obtain ⟨k,hk⟩:∃ k,blen (d n)=k + 1:=⟨blen (d n) - 1,by omega⟩
  rw [hk] at b c ⊢
  rw [show 30 * n + (k + 1)=(30 * n + k) + 1 by omega]
  have e1:(2:Int) ^ (30 * n + k)=2 ^ k * P n:=by rw [Int.pow_add,P_two,Int.mul_comm]
  have e2:(2:Int) ^ (30 * n + k + 1)=2 ^ (k + 1) * P n:=by rw [show 30 * n + k + 1=30 * n + (k + 1) by omega,Int.pow_add,P_two,Int.mul_comm]
  have f1:(2:Int) ^ k * P n <= d n * P n:=Int.mul_le_mul_of_nonneg_right (by simpa using b) (by omega)
  have f2:(d n + 1) * P n <= 2 ^ (k + 1) * P n:=Int.mul_le_mul_of_nonneg_right (by omega) (by omega)
  rw [Int.add_mul] at f2
  apply blen_of
  . rw [e1,val_succ]; omega
  . rw [e2,val_succ]; omega
end Go.Proofs.YtkajoieoggajiaaDoor.M
namespace Go.Proofs.YtkajoieoggajiaaDoor
open Go Go.RowKit Go.Proofs.YtkajoieoggajiaaDoor.M
theorem len_close (x q:Int) (s:Nat) (h:q.toNat < Lib.len8tab.size) (hq0:0 <= q) (hq:q <= 255) (hs:s <= 56) (hb:Lib.bitLen x.toNat=s + Lib.bitLen q.toNat) :
    wrap64 ((s:Int) + wrap64 ((Lib.len8tab[q.toNat]'h).toNat:Int))=(Lib.bitLen x.toNat:Int):=by
  have e:=Lib.len8_of q hq0 hq
  have l:=Lib.bitLen_le8' q hq0 hq
  unfold Lib.len8 at e
  rw [getElem?_pos Lib.len8tab q.toNat h] at e
  simp only [Option.getD_some] at e
  rw [e,hb]
  unfold wrap64
  omega
theorem len_close0 (x:Int) (h:x.toNat < Lib.len8tab.size) (hq0:0 <= x) (hq:x <= 255) :
    wrap64 (wrap64 ((Lib.len8tab[x.toNat]'h).toNat:Int))=(Lib.bitLen x.toNat:Int):=by
  have:=len_close x x 0 h hq0 hq (by omega) (by omega)
  simpa using this
theorem len_q (x q:Int) (s:Nat) (h0:0 <= x) (h1:x <= 18446744073709551615) (hx:((2 ^ s:Nat):Int) <= x) (e:q=x / ((2 ^ s:Nat):Int)):Lib.bitLen x.toNat=s + Lib.bitLen q.toNat:=by
  rw [Lib.bitLen_shift s x.toNat (by omega) (by omega),e]
  congr 2
  obtain ⟨n,rfl⟩:=Int.eq_ofNat_of_zero_le h0
  rw [<- Int.natCast_ediv,Int.toNat_natCast,Int.toNat_natCast]
set_option maxHeartbeats 4000000 in
set_option maxRecDepth 100000 in
theorem len64 (x:Int) (w:World) (h0:0 <= x) (h1:x <= 18446744073709551615) :
    Calls Tryd.prog 78 #[.int .u64 x] w fun e w'=>e=.returned (.int .i64 (Lib.bitLen x.toNat))∧w'=w:=by
  have hs:Lib.len8tab.size=256:=by decide +kernel
  go_enter Tryd.func78,Tryd.ntmps78
  go_wp2
  all_goals go_ret
  . exact ⟨ret_int (len_close x _ 56 _ (by omega) (by omega) (by omega) (len_q x _ 56 h0 h1 (by omega) (by omega))),rfl⟩
  . exact ⟨ret_int (len_close x _ 48 _ (by omega) (by omega) (by omega) (len_q x _ 48 h0 h1 (by omega) (by omega))),rfl⟩
  . exact ⟨ret_int (len_close x _ 40 _ (by omega) (by omega) (by omega) (len_q x _ 40 h0 h1 (by omega) (by omega))),rfl⟩
  . exact ⟨ret_int (len_close x _ 32 _ (by omega) (by omega) (by omega) (len_q x _ 32 h0 h1 (by omega) (by omega))),rfl⟩
  . exact ⟨ret_int (len_close x _ 24 _ (by omega) (by omega) (by omega) (len_q x _ 24 h0 h1 (by omega) (by omega))),rfl⟩
  . exact ⟨ret_int (len_close x _ 16 _ (by omega) (by omega) (by omega) (len_q x _ 16 h0 h1 (by omega) (by omega))),rfl⟩
  . exact ⟨ret_int (len_close x _ 8 _ (by omega) (by omega) (by omega) (len_q x _ 8 h0 h1 (by omega) (by omega))),rfl⟩
  . exact ⟨ret_int (len_close0 x _ (by omega) (by omega)),rfl⟩
theorem len_any (x:Int) (w:World) (h0:0 <= x) (h1:x <= 18446744073709551615) :
    Calls Tryd.prog 57 #[.int .u64 x] w fun e w'=>e=.returned (.int .i64 (blen x))∧w'=w:=by
  go_enter Tryd.func57,Tryd.ntmps57
  go_wp2_with (go_at_call 78; refine (len64 _ _ (by omega) (by omega)).mono ?_; rintro e w' ⟨rfl,rfl⟩)
  go_ret
  exact ⟨ret_int (bitLen_eq h0 (by omega)),rfl⟩
theorem width_any (x:Int) (w:World) (h0:0 <= x) (h1:x < 9223372036854775808) :
    Calls Tryd.prog 82 #[.int .i64 x] w fun e w'=>e=.returned (.int .i64 (blen x))∧w'=w:=by
  go_enter Tryd.func82,Tryd.ntmps82
  go_wp2_with (go_at_call 57; refine (len_any _ _ (by omega) (by omega)).mono ?_; rintro e w' ⟨rfl,rfl⟩)
  go_ret
  exact ⟨rfl,rfl⟩
theorem bitLength_any (ao:Option Addr) (n cap:Nat) (d:Nat->Int) (w:World) (h:Row w ao n cap d) (hd:Nrm d n) (hn:n <= 1000000) :
    Calls Tryd.prog 60 #[.slice ao n cap] w fun e w'=>e=.returned (.int .i64 (blen (val d n)))∧w'=w:=by
  have hl:=h.le
  have hm:=h.max
  by_cases h0:n=0
  . subst h0
    go_enter Tryd.func60,Tryd.ntmps60
    go_wp2
    go_ret
    exact ⟨rfl,rfl⟩
  . obtain ⟨k,rfl⟩:∃ k,n=k + 1:=⟨n - 1,by omega⟩
    obtain ⟨b,off,rfl,hb,hc⟩:=h.spot (by omega)
    have c:=hc k (by omega)
    have dk:=hd.1 k (by omega)
    have hbl:blen (d k) <= 30:=blen_le (by show d k < 1073741824; exact dk.2)
    go_enter Tryd.func60,Tryd.ntmps60
    go_wp2_with (go_at_call 82; refine (width_any _ _ (by omega) (by omega)).mono ?_; rintro e w' ⟨rfl,rfl⟩)
    go_ret
    exact ⟨ret_int (by rw [blen_val hd]; omega),rfl⟩
instance (n:Nat) (a b:Nat->Int):Decidable (∀ i,i < n->a i=b i):=by infer_instance
theorem Num.ok {d:Nat->Int} {n:Nat} (h:Nrm d n) (hV:val d n < P 2000):okB d n=true:=by
  refine okB_yes ?_ h
  by_cases hk:n <= 2000
  . exact hk
  . have a:=val_top h.1 (by omega) h.2
    have b:=P_le (show 2000 <= n - 1 by omega)
    omega
end Go.Proofs.YtkajoieoggajiaaDoor
namespace Go.Proofs.YtkajoieoggajiaaDoor.M
open Go
theorem mul_le_r {a b c:Int} (h:a <= b) (hc:0 <= c):a * c <= b * c:=Int.mul_le_mul_of_nonneg_right h hc
theorem mul_le_l {a b c:Int} (h:a <= b) (hc:0 <= c):c * a <= c * b:=Int.mul_le_mul_of_nonneg_left h hc
theorem knuth_long {U V p v1 v2 vl head u2 ul times left:Int} (hV:V=(v1 * 1073741824 + v2) * p + vl) (hvl:vl < p) (hv2:v2 < 1073741824) (hU:U=(head * 1073741824 + u2) * p + ul) (hul:0 <= ul) (hu2:0 <= u2)
    (hp:0 < p) (hh:head=times * v1 + left) (ht:0 <= times) (ht2:times < 1073741824) (h:1073741824 <= left):times * V <= U:=by
  have h0:v2 * p <= 1073741823 * p:=mul_le_r (by omega) (by omega)
  have e0:(v1 + 1) * (1073741824 * p)=v1 * 1073741824 * p + 1073741823 * p + p:=by grind
  have e1:V=v1 * 1073741824 * p + v2 * p + vl:=by rw [hV]; grind
  have h1:times * V <= times * ((v1 + 1) * (1073741824 * p)):=mul_le_l (by omega) ht
  have h2:(times * v1 + times) * (1073741824 * p) <= head * (1073741824 * p):=mul_le_r (by omega) (by omega)
  have h3:0 <= u2 * p:=Int.mul_nonneg hu2 (by omega)
  have e2:U=head * (1073741824 * p) + u2 * p + ul:=by rw [hU]; grind
  have e3:times * ((v1 + 1) * (1073741824 * p))=(times * v1 + times) * (1073741824 * p):=by grind
  omega
theorem knuth_short {U V p v1 v2 vl head u2 ul times left:Int} (hV:V=(v1 * 1073741824 + v2) * p + vl) (hvl0:0 <= vl) (hvl:vl < p) (hv1:1 <= v1) (hv2:0 <= v2) (hU:U=(head * 1073741824 + u2) * p + ul) (hul:0 <= ul)
    (hp:0 < p) (hh:head=times * v1 + left) (ht:0 <= times) (ht2:times < 1073741824) (h:times * v2 <= left * 1073741824 + u2):(times - 1) * V <= U:=by
  have h1:times * vl <= times * p:=mul_le_l (by omega) ht
  have h2:times * v2 * p <= (left * 1073741824 + u2) * p:=mul_le_r h (by omega)
  have h3:times * p <= 1073741824 * p:=mul_le_r (by omega) (by omega)
  have h4:1 * (1073741824 * p) <= v1 * (1073741824 * p):=mul_le_r hv1 (by omega)
  have h5:0 <= v2 * p:=Int.mul_nonneg hv2 (by omega)
  have e0:V=v1 * (1073741824 * p) + v2 * p + vl:=by rw [hV]; grind
  have e1:(times - 1) * V=times * v1 * 1073741824 * p + times * v2 * p + times * vl - V:=by rw [hV]; grind
  have e2:U=times * v1 * 1073741824 * p + (left * 1073741824 + u2) * p + ul:=by rw [hU,hh]; grind
  omega
structure Steps (x0 y0 x y fA fB nA nB sg:Int):Prop where
  sgn:sg=1∨sg=-1
  ex:x=sg * (fA * x0 - fB * y0)
  ey:y=sg * (nB * y0 - nA * x0)
  det:fA * nB - fB * nA=sg
  fA0:0 <= fA
  fB0:0 <= fB
  nA0:0 <= nA
  nB1:1 <= nB
theorem Steps.start (x0 y0:Int):Steps x0 y0 x0 y0 1 0 0 1 1:=⟨.inl rfl,by omega,by omega,by omega,by omega,by omega,by omega,by omega⟩
theorem Steps.step {x0 y0 x y fA fB nA nB sg:Int} (h:Steps x0 y0 x y fA fB nA nB sg) {q:Int} (hq:1 <= q) :
    Steps x0 y0 y (x - q * y) nA nB (fA + q * nA) (fB + q * nB) (-sg):=by
  have h1:=Int.mul_nonneg (show 0 <= q by omega) h.nA0
  have h2:1 * nB <= q * nB:=mul_le_r hq (by have:=h.nB1; omega)
  have hf:=h.fA0
  have hg:=h.fB0
  have hn:=h.nB1
  refine ⟨by rcases h.sgn with e | e <;> omega,?_,?_,?_,h.nA0,by omega,by omega,by omega⟩
  . rw [h.ey]; grind
  . rw [h.ey,h.ex]; grind
  . have:=h.det; grind
theorem Steps.whole {x0 y0 x y fA fB nA nB sg S al be:Int} (h:Steps x0 y0 x y fA fB nA nB sg) (hS:0 < S) (ha0:0 <= al) (ha:al < S) (hb0:0 <= be) (hb:be < S)
    (hab:nA <= nB) (hfb:fA <= fB) (hy:nB <= y) (hx:nB + fB <= x - y) :
    0 < sg * (nB * (y0 * S + be) - nA * (x0 * S + al))∧sg * (nB * (y0 * S + be) - nA * (x0 * S + al)) < sg * (fA * (x0 * S + al) - fB * (y0 * S + be)):=by
  have hn:=h.nB1
  have hf:=h.fB0
  have k1:nB * be <= nB * (S - 1):=mul_le_l (by omega) (by omega)
  have k2:nA * al <= nA * (S - 1):=mul_le_l (by omega) h.nA0
  have k3:nA * (S - 1) <= nB * (S - 1):=mul_le_r hab (by omega)
  have k4:0 <= nB * be:=Int.mul_nonneg (by omega) hb0
  have k5:0 <= nA * al:=Int.mul_nonneg h.nA0 ha0
  have k6:nB * S <= y * S:=mul_le_r hy (by omega)
  have k7:(nB + fB) * S <= (x - y) * S:=mul_le_r hx (by omega)
  have m1:fB * be <= fB * (S - 1):=mul_le_l (by omega) hf
  have m2:fA * al <= fA * (S - 1):=mul_le_l (by omega) h.fA0
  have m3:fA * (S - 1) <= fB * (S - 1):=mul_le_r hfb (by omega)
  have m4:0 <= fB * be:=Int.mul_nonneg hf hb0
  have m5:0 <= fA * al:=Int.mul_nonneg h.fA0 ha0
  have ex:=h.ex
  have ey:=h.ey
  have e1:nB * (y0 * S + be) - nA * (x0 * S + al)=(nB * y0 - nA * x0) * S + nB * be - nA * al:=by grind
  have e2:fA * (x0 * S + al) - fB * (y0 * S + be)=(fA * x0 - fB * y0) * S + fA * al - fB * be:=by grind
  have e3:nB * (S - 1)=nB * S - nB:=by grind
  have e4:fB * (S - 1)=fB * S - fB:=by grind
  have e5:(nB + fB) * S=nB * S + fB * S:=by grind
  have e6:(x - y) * S=x * S - y * S:=by grind
  rw [e1,e2]
  rcases h.sgn with rfl | rfl
  . have e7:(nB * y0 - nA * x0) * S=y * S:=by rw [ey]; grind
    have e8:(fA * x0 - fB * y0) * S=x * S:=by rw [ex]; grind
    constructor <;> omega
  . have e7:(nB * y0 - nA * x0) * S=- (y * S):=by rw [ey]; grind
    have e8:(fA * x0 - fB * y0) * S=- (x * S):=by rw [ex]; grind
    constructor <;> omega
end Go.Proofs.YtkajoieoggajiaaDoor.M
namespace Go.Proofs.YtkajoieoggajiaaDoor
open Go Go.RowKit Go.Proofs.YtkajoieoggajiaaDoor.M
structure Wr (g:Nat) (w w':World):Prop where
  os:w'.os=w.os
  tape:w'.tape=w.tape
  output:w'.output=w.output
  size:w.heap.size <= w'.heap.size
  block:∀ k,k < w.heap.size->k ≠ g->w'.heap[k]?=w.heap[k]?
theorem Wr.refl (g:Nat) (w:World):Wr g w w:=⟨rfl,rfl,rfl,Nat.le_refl _,fun _ _ _=>rfl⟩
theorem Wr.trans {g:Nat} {a b c:World} (h:Wr g a b) (k:Wr g b c):Wr g a c :=
  ⟨k.os.trans h.os,k.tape.trans h.tape,k.output.trans h.output,Nat.le_trans h.size k.size,fun i hi hg=>(k.block i (Nat.lt_of_lt_of_le hi h.size) hg).trans (h.block i hi hg)⟩
theorem Wr.setCell {g:Nat} {a w:World} (h:Wr g a w) (o:Nat) (u:Value):Wr g a (w.setCell ⟨g,o,none⟩ u) :=
  ⟨h.os,h.tape,h.output,by simp [World.setCell]; exact h.size,fun k hk hg=>(Below.heap_setCell _ _ _ _ hg).trans (h.block k hk hg)⟩
theorem Wr.drew {g:Nat} {a w:World} (h:Wr g a w):Wr g a w.drew:=⟨h.os,h.tape,h.output,h.size,h.block⟩
theorem Wr.drewN {g:Nat} {a w:World} (h:Wr g a w) (n:Nat):Wr g a (w.drewN n):=⟨h.os,h.tape,h.output,h.size,h.block⟩
theorem Below.wr {B g:Nat} {a w:World} (h:Below B a w) (hB:w.heap.size <= B):Wr g w w->Below B a w:=fun _=>h
theorem wr_of {g:Nat} {a w:World} (h:Below a.heap.size a w):Wr g a w:=⟨h.os,h.tape,h.output,h.size,fun k hk _=>h.block k hk⟩
theorem Wr.below {B g:Nat} {a w w':World} (h:Wr g w w') (hb:Below B a w) (hB:B <= w.heap.size) (hg:B <= g):Below B a w' :=
  hb.trans ⟨h.os,h.tape,h.output,h.size,fun k hk=>h.block k (by omega) (by omega)⟩
theorem Wr.cell {g:Nat} {w w':World} (h:Wr g w w') {p:Addr} (hp:p.block < w.heap.size) (hg:p.block ≠ g):w'.cell? p=w.cell? p:=World.cell?_of_block (w:=w) (h.block p.block hp hg)
structure RowX (g:Nat) (w:World) (ao:Option Addr) (n cap:Nat) (d:Nat->Int):Prop where
  le:n <= cap
  max:cap <= 9223372036854775807
  spot:0 < n->∃ b off,ao=some ⟨b,off,none⟩∧b < w.heap.size∧b ≠ g∧∀ i,i < n->w.cell? ⟨b,off + i,none⟩=some (.int .i64 (d i))
theorem RowX.keeps {g:Nat} {w w':World} {ao:Option Addr} {n cap:Nat} {d:Nat->Int} (h:RowX g w ao n cap d) (hw:Wr g w w'):RowX g w' ao n cap d :=
  ⟨h.le,h.max,fun hn=>by
    obtain ⟨b,off,rfl,hlt,hg,hc⟩:=h.spot hn
    exact ⟨b,off,rfl,Nat.lt_of_lt_of_le hlt hw.size,hg,fun i hi=>(hw.cell (p:=⟨b,off + i,none⟩) hlt hg).trans (hc i hi)⟩⟩
theorem RowX.of {g:Nat} {w:World} {ao:Option Addr} {n cap:Nat} {d:Nat->Int} (h:Row w ao n cap d) (hg:w.heap.size <= g):RowX g w ao n cap d :=
  ⟨h.le,h.max,fun hn=>by
    obtain ⟨b,off,rfl,hlt,hc⟩:=h.spot hn
    exact ⟨b,off,rfl,hlt,by omega,hc⟩⟩
theorem Out.store {B:Nat} {w:World} {g n cap:Nat} {d:Nat->Int} (h:Out B w (.slice (some ⟨g,0,none⟩) n cap) n d) {i:Nat} (hi:i < n) (x:Int) :
    Out B (w.setCell ⟨g,i,none⟩ (.int .i64 x)) (.slice (some ⟨g,0,none⟩) n cap) n (upd d i x):=by
  have h1:=(World.ownsRow.stored h i (.int .i64 x)).1
  unfold Out
  have e:vals (upd d i x) n=(vals d n).set i (.int .i64 x):=by
    refine (vals_ext (by simp [vals_length]) fun j hj=>?_).symm
    by_cases hji:j=i
    . subst hji; rw [upd_same,List.getElem?_set_self (by rw [vals_length]; exact hj)]
    . rw [upd_other d x hji,List.getElem?_set_ne (by omega),vals_get d hj]
  rw [e]; exact h1
theorem Out.spot {B:Nat} {w:World} {ao:Option Addr} {n cap:Nat} {d:Nat->Int} (h:Out B w (.slice ao n cap) n d) (hn:0 < n):∃ g,ao=some ⟨g,0,none⟩∧B <= g∧g < w.heap.size:=by
  rcases h.2 with ⟨_,h0⟩ | ⟨g,cap',cur,hv,hB,hg,_⟩
  . omega
  . simp only [Value.slice.injEq] at hv
    exact ⟨g,hv.1,hB,(Array.getElem?_eq_some_iff.1 hg).1⟩
theorem Out.cell {B:Nat} {w:World} {g n cap:Nat} {d:Nat->Int} (h:Out B w (.slice (some ⟨g,0,none⟩) n cap) n d) {i:Nat} (hi:i < n):w.cell? ⟨g,i,none⟩=some (.int .i64 (d i)):=by
  rw [World.ownsRow.cellAt h i (by omega),vals_get d hi]
theorem Out.frozen {B:Nat} {w:World} {g n cap:Nat} {d:Nat->Int} (h:Out B w (.slice (some ⟨g,0,none⟩) n cap) n d) (i:Nat):w.frozen? ⟨g,i,none⟩=false:=World.ownsRow.frozenAt h i
def updV {α:Type} (v:Nat->α) (i:Nat) (x:α):Nat->α:=fun j=>if j=i then x else v j
theorem updV_same {α:Type} (v:Nat->α) (i:Nat) (x:α):updV v i x i=x:=by simp [updV]
theorem updV_other {α:Type} (v:Nat->α) {i j:Nat} (x:α) (h:j ≠ i):updV v i x j=v j:=by simp [updV,h]
def valsV (v:Nat->Value) (m:Nat):List Value:=(List.range m).map v
def OutV (B:Nat) (w:World) (x:Value) (m:Nat) (v:Nat->Value):Prop:=w.ownsRow B 22 1 x m (valsV v m)
theorem OutV.shape {B:Nat} {w:World} {x:Value} {m:Nat} {v:Nat->Value} (h:OutV B w x m v):∃ xo xc,x=.slice xo m xc∧m <= xc∧xc <= 9223372036854775807∧(0 < m->∃ g,xo=some ⟨g,0,none⟩):=by
  rcases h.2 with ⟨rfl,rfl⟩ | ⟨g,cap,cur,rfl,hb,hg,hn,hm,_⟩
  . exact ⟨none,0,rfl,Nat.le_refl _,by decide,fun h=>by omega⟩
  . exact ⟨_,cap,rfl,hn,by unfold maxLen at hm; exact hm,fun _=>⟨g,rfl⟩⟩
theorem OutV.of_block {B:Nat} {w w':World} {x:Value} {m:Nat} {v:Nat->Value} (h:OutV B w x m v) (hb:∀ g,x.ownBlock=some g->w'.heap[g]?=w.heap[g]?):OutV B w' x m v:=by
  refine ⟨h.1,?_⟩
  rcases h.2 with hn | ⟨g,cap,cur,rfl,hbb,hg,rest⟩
  . exact .inl hn
  . exact .inr ⟨g,cap,cur,rfl,hbb,(hb g rfl).trans hg,rest⟩
theorem Out.of_block {B:Nat} {w w':World} {x:Value} {n:Nat} {d:Nat->Int} (h:Out B w x n d) (hb:∀ g,x.ownBlock=some g->w'.heap[g]?=w.heap[g]?):Out B w' x n d:=by
  refine ⟨h.1,?_⟩
  rcases h.2 with hn | ⟨g,cap,cur,rfl,hbb,hg,rest⟩
  . exact .inl hn
  . exact .inr ⟨g,cap,cur,rfl,hbb,(hb g rfl).trans hg,rest⟩
theorem Out.typed {B:Nat} {w:World} {x:Value} {n:Nat} {d:Nat->Int} (h:Out B w x n d) {g:Nat} (hg:x.ownBlock=some g):∃ cur z,w.heap[g]?=some (.cells cur 3 z):=by
  rcases h.2 with ⟨rfl,_⟩ | ⟨g',cap,cur,rfl,hbb,hg',rest⟩
  . simp [Value.ownBlock] at hg
  . simp only [Value.ownBlock,Option.some.injEq] at hg; subst hg; exact ⟨cur,_,hg'⟩
theorem OutV.typed {B:Nat} {w:World} {x:Value} {n:Nat} {v:Nat->Value} (h:OutV B w x n v) {g:Nat} (hg:x.ownBlock=some g):∃ cur z,w.heap[g]?=some (.cells cur 22 z):=by
  rcases h.2 with ⟨rfl,_⟩ | ⟨g',cap,cur,rfl,hbb,hg',rest⟩
  . simp [Value.ownBlock] at hg
  . simp only [Value.ownBlock,Option.some.injEq] at hg; subst hg; exact ⟨cur,_,hg'⟩
theorem OutV.ge {B:Nat} {w:World} {x:Value} {n:Nat} {v:Nat->Value} (h:OutV B w x n v) {g:Nat} (hg:x.ownBlock=some g):B <= g∧g < w.heap.size:=by
  rcases h.2 with ⟨rfl,_⟩ | ⟨g',cap,cur,rfl,hbb,hg',rest⟩
  . simp [Value.ownBlock] at hg
  . simp only [Value.ownBlock,Option.some.injEq] at hg; subst hg; exact ⟨hbb,(Array.getElem?_eq_some_iff.1 hg').1⟩
theorem Out.ge {B:Nat} {w:World} {x:Value} {n:Nat} {v:Nat->Int} (h:Out B w x n v) {g:Nat} (hg:x.ownBlock=some g):B <= g∧g < w.heap.size:=by
  rcases h.2 with ⟨rfl,_⟩ | ⟨g',cap,cur,rfl,hbb,hg',rest⟩
  . simp [Value.ownBlock] at hg
  . simp only [Value.ownBlock,Option.some.injEq] at hg; subst hg; exact ⟨hbb,(Array.getElem?_eq_some_iff.1 hg').1⟩
theorem OutV.alloc {B:Nat} {w:World} {x:Value} {m:Nat} {v:Nat->Value} (h:OutV B w x m v) (o:Obj):OutV B (w.alloc o) x m v:=h.of_block fun g hg=>Below.heap_alloc _ _ _ (h.ge hg).2
theorem run_app {w:World} (ty:TypeId) (B:Nat) (v:Value) (n:Nat) (d:Nat->Int) (hO:Out B w v n d) (bo:Option Addr) (m cb:Nat) (e:Nat->Int) (hR:Row w bo m cb e) (hlen:n + m <= 1000000) (hB:B <= w.heap.size) :
    ∃ v' w',(Builtin.append_ #[22,22] ty #[v,.slice bo m cb]).run Tryd.prog w=.ok v' w'∧Out B w' v' (n + m) (cat d n e)∧w.grownBy w' v.ownBlock∧(v'.ownBlock=v.ownBlock∨v'.ownBlock=some w.heap.size):=by
  obtain ⟨i0,hi,hz0,hz1,hz2⟩:=info_parts info_int
  cases bo with
  | none=>
    have hc:=hR.nl rfl
    have hl:=hR.le
    subst hc
    obtain rfl:m=0:=by omega
    have hr:=run_append_owned_none (P:=Tryd.prog) w B 22 ty 3 i0 1 Tryd.underlying22 hi v n (vals d n) hO
    exact ⟨v,w,hr,hO.congr fun i hi=>by simp [cat]; omega,⟨rfl,rfl,rfl,Nat.le_refl _,fun _ _ _=>rfl⟩,.inl rfl⟩
  | some ad=>
    obtain ⟨v',w',hr,h2,h3,_,h5⟩:=run_append_own_at (P:=Tryd.prog) w B 22 ty 3 i0 (.int .i64 0) 1 8 Tryd.underlying22 hi hz0 hz1 hz2 rfl (by decide) v n (vals d n) hO ad m cb (vals e m) (by rw [vals_length]; omega)
      (fun j u hu=>by
        have hj:j < m:=by have:=(List.getElem?_eq_some_iff.1 hu).1; rwa [vals_length] at this
        obtain ⟨b,off,hb,_,hc⟩:=hR.spot (by omega)
        obtain rfl:=Option.some.inj hb
        rw [vals_get e hj] at hu
        rw [add_none,hc j hj]; exact hu) (vals_one e m) (by unfold maxLen; omega) (by omega) hB
    rw [vals_cat] at h2
    exact ⟨v',w',hr,h2,h3,h5⟩
theorem wp_app {w:World} {o:Oper} {a:Act} {K:Act->World->Prop} {Q:Exit->Act->World->Prop} (s x:Operand) (ho:o.op=.call { callee:=.builtin .append,args:=#[s,x],argTypes:=#[22,22] })
    (B:Nat) (v:Value) (n:Nat) (d:Nat->Int) (hs:a.eval s=v) (hO:Out B w v n d) (bo:Option Addr) (m cb:Nat) (e:Nat->Int) (hx:a.eval x=.slice bo m cb) (hR:Row w bo m cb e) (hlen:n + m <= 1000000) (hB:B <= w.heap.size)
    (h:∀ v' w',Out B w' v' (n + m) (cat d n e)->w.grownBy w' v.ownBlock->(v'.ownBlock=v.ownBlock∨v'.ownBlock=some w.heap.size)->K (a.put o.dst v') w'):o.wp Tryd.prog a w K Q:=by
  obtain ⟨v',w',hr,h2,h3,h4⟩:=run_app o.type B v n d hO bo m cb e hR hlen hB
  unfold Oper.wp execOp
  simp only [ho,resolve,invoke,builtin,Sem.run_bind,Sem.run_pure,Result.andThen_ok,List.map_toArray,List.map_cons,List.map_nil,hs,hx,hr]
  exact h v' w' h2 h3 h4
theorem Out.cut {B:Nat} {w:World} {ao:Option Addr} {n cap m:Nat} {d:Nat->Int} (h:Out B w (.slice ao n cap) n d) (hm:m <= n):Out B w (.slice ao m cap) m d:=by
  refine ⟨by rw [vals_length]; omega,?_⟩
  rcases h.2 with ⟨hn,h0⟩ | ⟨g,cap',cur,hv,hB,hg,hnc,hcm,hs,ht⟩
  . simp only [Value.slice.injEq] at hn
    obtain ⟨rfl,rfl,rfl⟩:=hn
    obtain rfl:m=0:=by omega
    exact .inl ⟨rfl,rfl⟩
  . simp only [Value.slice.injEq] at hv
    obtain ⟨rfl,_,rfl⟩:=hv
    refine .inr ⟨g,cap,cur,rfl,hB,hg,by omega,hcm,hs,?_⟩
    apply vals_ext (by simp; omega)
    intro i hi
    have e:(cur.toList.take (n * 1))[i]?=(vals d n)[i]?:=by rw [ht]
    rw [List.getElem?_take,if_pos (by omega),vals_get d (by omega)] at e
    rw [List.getElem?_take,if_pos (by omega)]; exact e
theorem cat_upd (r:Nat->Int) (k:Nat) (x:Int):∀ i,i < k + 1->cat r k (fun _=>x) i=upd r k x i:=fun i hi=>by
  by_cases e:i < k
  . simp [cat,e,upd_other r _ (show i ≠ k by omega)]
  . obtain rfl:i=k:=by omega
    simp [cat,upd_same]
def An (B:Nat) (w:World) (v:Value) (V:Int):Prop:=∃ t d,Out B w v t d∧Nrm d t∧val d t=V
theorem An.keeps {B:Nat} {w w':World} {v:Value} {V:Int} (h:An B w v V) (k:Below w.heap.size w w'):An B w' v V:=by
  obtain ⟨t,d,h1,h2⟩:=h
  exact ⟨t,d,h1.stays k,h2⟩
theorem An.lower {B B':Nat} {w:World} {v:Value} {V:Int} (h:An B w v V) (hB:B' <= B):An B' w v V:=by
  obtain ⟨t,d,h1,h2⟩:=h
  exact ⟨t,d,h1.lower hB,h2⟩
theorem An.nil (B:Nat) (w:World):An B w (.slice none 0 0) 0:=⟨0,fun _=>0,Out.nil _ _ _,⟨fun i hi=>by omega,.inl rfl⟩,rfl⟩
theorem Ans.an {w w':World} {V:Int} {v:Value} (h:Ans w w' V v):An w.heap.size w' v V:=by
  obtain ⟨t,d,h1,h2,h3,h4⟩:=h
  exact ⟨t,d,h1,h2,h3⟩
theorem An.shape {B:Nat} {w:World} {v:Value} {V:Int} (h:An B w v V):∃ ao n cap,v=.slice ao n cap:=by
  obtain ⟨t,d,h1,h2⟩:=h
  obtain ⟨ao,cap,e,_⟩:=h1.row
  exact ⟨ao,t,cap,e⟩
theorem An.num {B:Nat} {w:World} {v:Value} {V:Int} (h:An B w v V):Num w v V:=by
  obtain ⟨t,d,h1,h2,h3⟩:=h
  obtain ⟨ao,cap,rfl,hR⟩:=h1.row
  exact ⟨ao,t,cap,d,rfl,hR,h2,h3⟩
theorem An.ge {B:Nat} {w:World} {v:Value} {V:Int} (h:An B w v V) {g:Nat} (hg:v.ownBlock=some g):B <= g∧g < w.heap.size:=by
  obtain ⟨t,d,h1,h2,h3⟩:=h
  exact h1.ge hg
def FitA (B:Nat) (w:World) (V:Int) (v:Value) (er:Int):Prop:=(V < P 2000∧er=0∧An B w v V)∨(P 2000 <= V∧er=2∧v=.slice none 0 0)
theorem FitA.keeps {B:Nat} {w w':World} {v:Value} {V er:Int} (h:FitA B w V v er) (k:Below w.heap.size w w'):FitA B w' V v er:=by
  rcases h with ⟨h1,h2,h3⟩ | h
  . exact .inl ⟨h1,h2,h3.keeps k⟩
  . exact .inr h
theorem FitA.lower {B B':Nat} {w:World} {v:Value} {V er:Int} (h:FitA B w V v er) (hB:B' <= B):FitA B' w V v er:=by
  rcases h with ⟨h1,h2,h3⟩ | h
  . exact .inl ⟨h1,h2,h3.lower hB⟩
  . exact .inr h
theorem FitA.ge {B:Nat} {w:World} {v:Value} {V er:Int} (h:FitA B w V v er) {g:Nat} (hg:v.ownBlock=some g):B <= g∧g < w.heap.size:=by
  rcases h with ⟨h1,h2,h3⟩ | ⟨_,_,rfl⟩
  . exact h3.ge hg
  . simp [Value.ownBlock] at hg
theorem FitA.shape {B:Nat} {w:World} {v:Value} {V er:Int} (h:FitA B w V v er):∃ ao n cap,v=.slice ao n cap:=by
  rcases h with ⟨h1,h2,h3⟩ | ⟨_,_,rfl⟩
  . exact h3.shape
  . exact ⟨_,_,_,rfl⟩
def lentD (a:Nat->Int) (n:Nat):Nat->Int:=cat a n (fun i=>-71 - (i:Int))
def LentA (w w':World) (v:Value) (n:Nat) (a:Nat->Int):Prop:=∃ g cap,v=.slice (some ⟨g,0,none⟩) (n + 3) cap∧Out w.heap.size w' v (n + 3) (lentD a n)∧Below w.heap.size w w'
theorem LentA.below {w w':World} {v:Value} {n:Nat} {a:Nat->Int} (h:LentA w w' v n a):Below w.heap.size w w':=by
  obtain ⟨g,cap,_,_,hb⟩:=h
  exact hb
theorem LentA.parts {w w':World} {v:Value} {n:Nat} {a:Nat->Int} (h:LentA w w' v n a):∃ g cap,v=.slice (some ⟨g,0,none⟩) (n + 3) cap∧Out w.heap.size w' (.slice (some ⟨g,0,none⟩) (n + 3) cap) (n + 3) (lentD a n):=by
  obtain ⟨g,cap,rfl,h,_⟩:=h
  exact ⟨g,cap,rfl,h⟩
def Lies (v:Value) (x y:Nat):Prop:=∀ g,v.ownBlock=some g->x <= g∧g < y
theorem shl_dig {x:Int} {p:Nat} (hx:0 <= x∧x < 1073741824) (hp:p <= 30):0 <= x * 2 ^ p∧x * 2 ^ p <= 1073741823 * 2 ^ p∧(2:Int) ^ p <= 1073741824:=by
  have h:=two_pos p
  exact ⟨Int.mul_nonneg hx.1 (by omega),Int.mul_le_mul_of_nonneg_right (by omega) (by omega),two_le hp⟩
structure PileI (q p N n:Nat) (a r0:Nat->Int) (s:Int) (k:Nat) (c:Int) (r:Nat->Int):Prop where
  rest:∀ i,q + k <= i->r i=r0 i
  near:∀ i,0 <= s * (r i - r0 i)∧s * (r i - r0 i) < 1073741824
  sum:∃ T,val r N=val r0 N + s * (P q * T)∧T + c * P k=2 ^ p * val a k
theorem PileI.put {q p N n:Nat} {a r0:Nat->Int} {s:Int} {k:Nat} {c:Int} {r:Nat->Int} (h:PileI q p N n a r0 s k c r) (hs:s * s=1) (hN:q + k < N) {m c':Int} (hm:0 <= m∧m < 1073741824) (e:m + c' * 1073741824=c + a k * 2 ^ p) :
    PileI q p N n a r0 s (k + 1) c' (upd r (q + k) (r (q + k) + s * m)):=by
  refine ⟨fun i hi=>by rw [upd_other r _ (by omega)]; exact h.rest i (by omega),fun i=>?_,?_⟩
  . by_cases hi:i=q + k
    . subst hi
      rw [upd_same,h.rest _ (Nat.le_refl _),show s * (r0 (q + k) + s * m - r0 (q + k))=s * s * m by grind,hs]
      omega
    . rw [upd_other r _ hi]; exact h.near i
  . obtain ⟨T,e1,e2⟩:=h.sum
    refine ⟨T + m * P k,?_,?_⟩
    . rw [val_upd r _ hN,e1,P_add]; grind
    . rw [val_succ,P_succ]
      have:c' * (P k * 1073741824)=(c + a k * 2 ^ p - m) * P k:=by rw [show c + a k * 2 ^ p - m=c' * 1073741824 by omega]; grind
      rw [this,show T + m * P k + (c + a k * 2 ^ p - m) * P k=(T + c * P k) + a k * 2 ^ p * P k by grind,e2]; grind
structure Piled (N:Nat) (r0:Nat->Int) (s V:Int) (r:Nat->Int):Prop where
  near:∀ i,0 <= s * (r i - r0 i)∧s * (r i - r0 i) < 1073741824
  sum:val r N=val r0 N + s * V
theorem PileI.done {q p N n:Nat} {a r0:Nat->Int} {s:Int} {c:Int} {r:Nat->Int} (h:PileI q p N n a r0 s n c r) (hs:s * s=1) (hN:q + n < N) (hc:0 <= c∧c < 1073741824) :
    Piled N r0 s (P q * (2 ^ p * val a n)) (upd r (q + n) (r (q + n) + s * c)):=by
  refine ⟨fun i=>?_,?_⟩
  . by_cases hi:i=q + n
    . subst hi
      rw [upd_same,h.rest _ (Nat.le_refl _),show s * (r0 (q + n) + s * c - r0 (q + n))=s * s * c by grind,hs]
      omega
    . rw [upd_other r _ hi]; exact h.near i
  . obtain ⟨T,e1,e2⟩:=h.sum
    rw [val_upd r _ hN,e1,P_add,<- e2]; grind
theorem pile_near {s x y C:Int} (hs:s=1∨s=-1) (h:0 <= s * (x - y)∧s * (x - y) < 1073741824) (hy:-C <= y∧y <= C):-(C + 1073741823) <= x∧x <= C + 1073741823:=by
  rcases hs with rfl | rfl <;> omega
theorem sgn_mul {s m:Int} (hs:s=1∨s=-1) (hm:0 <= m∧m < 1073741824):-1073741823 <= s * m∧s * m <= 1073741823:=by
  rcases hs with rfl | rfl <;> omega
theorem sgn_sq {s:Int} (hs:s=1∨s=-1):s * s=1:=by rcases hs with rfl | rfl <;> rfl
set_option maxHeartbeats 1000000 in
theorem pile_qp (g N:Nat) (r0:Nat->Int) (ao:Option Addr) (n ca q p:Nat) (a:Nat->Int) (w:World) (hB0:Blk w g N r0) (ha:RowX g w ao n ca a) (da:Dig a n) (hn:n <= 100000) (hqN:q + n + 1 <= N) (hNm:N <= 1000000) (hp:p < 30) (k:Int) (hk:k=30 * q + p)
    (s:Int) (hs:s=1∨s=-1) (C:Int) (hC0:∀ i,i < N->-C <= r0 i∧r0 i <= C) (hC1:C <= 4611686018427387904) :
    Calls Tryd.prog 68 #[.slice (some ⟨g,0,none⟩) N N,.slice ao n ca,.int .i64 k,.int .i64 s] w fun e w'=>e=.returned (.tuple #[])∧∃ r,Blk w' g N r∧Wr g w w'∧Piled N r0 s (P q * (2 ^ p * val a n)) r:=by
  have hla:=ha.le
  have hma:=ha.max
  have e1:k / 30=q:=by omega
  have e2:k % 30=p:=by omega
  have hk0:0 <= k:=by omega
  have hk1:k <= 40000000:=by omega
  clear hk
  have hu:=two_pos p
  have hu2:(2:Int) ^ p <= 2 ^ 29:=two_le (by omega)
  have HC:Hid (∀ i,i < N->-C <= r0 i∧r0 i <= C):=hC0
  have hss:=sgn_sq hs
  have HS:Hid (s=1∨s=-1):=hs
  clear hC0 hs
  go_enter Tryd.func68,Tryd.ntmps68
  go_wp2
  go_loopw [10,18] (fun c i wr=>∃ (k:Nat) (c':Int) (r:Nat->Int),k <= n∧i=.int .i64 k∧c=.int .i64 c'∧0 <= c'∧c' < 2 ^ p∧Blk wr g N r∧Hid (PileI q p N n a r0 s k c' r)∧Wr g w wr) (fun _ i _=>n - (intOf i).toNat)
  case atStart=>exact ⟨0,0,r0,Nat.zero_le _,rfl,rfl,by omega,hu,hB0,⟨fun _ _=>rfl,fun i=>by rw [Int.sub_self,Int.mul_zero]; omega,0,by rw [Int.mul_zero,Int.mul_zero,Int.add_zero],by show (0:Int) + 0 * 1=2 ^ p * 0; omega⟩,Wr.refl _ _⟩
  case round=>
    obtain ⟨k,c,r,hk,rfl,rfl,hc0,hc1,hB,HI,hW⟩:=hrel
    have hcap:-4611686018427387904 - 1073741823 <= r (q + k)∧r (q + k) <= 4611686018427387904 + 1073741823:=by
      have h1:=HC.out (q + k) (by omega)
      have h2:=HI.out.rest (q + k) (Nat.le_refl _)
      rw [h2]; omega
    by_cases hlt:k < n
    . obtain ⟨ba,fa,rfl,hba,hbg,hca⟩:=ha.spot (by omega)
      have c1:=(hW.cell (p:=⟨ba,fa + k,none⟩) hba hbg).trans (hca k hlt)
      have cg:=hB.cell (show q + k < N by omega)
      have fg:=hB.frozen (q + k)
      have dk:=da k hlt
      obtain ⟨s0,s1,s2⟩:=shl_dig dk (show p <= 30 by omega)
      have hw:wrap64 (a k * 2 ^ p)=a k * 2 ^ p:=IntWalk.wrap64_in _ ⟨by omega,by omega⟩
      have hor:bits .or .i64 c (a k * 2 ^ p)=c + a k * 2 ^ p:=or_add c (a k) p hc0 hc1 dk.1 (by omega)
      have h30:=and_30 (c + a k * 2 ^ p)
      have hm:=mod_dig (c + a k * 2 ^ p)
      have hc2:(c + a k * 2 ^ p) / 1073741824 < 2 ^ p:=by omega
      have hc3:0 <= (c + a k * 2 ^ p) / 1073741824:=by omega
      obtain ⟨m0,m1⟩:=sgn_mul HS.out hm
      have e4:(c + a k * 2 ^ p) % 1073741824 + (c + a k * 2 ^ p) / 1073741824 * 1073741824=c + a k * 2 ^ p:=by omega
      have HI2:Hid (PileI q p N n a r0 s (k + 1) ((c + a k * 2 ^ p) / 1073741824) (upd r (q + k) (r (q + k) + s * ((c + a k * 2 ^ p) % 1073741824)))):=HI.out.put hss (by omega) hm e4
      clear e4
      generalize hM:(c + a k * 2 ^ p) % 1073741824=M at *
      generalize hSM:s * M=SM at *
      go_wp2
      go_roundw
      case rel=>exact ⟨k + 1,_,_,by omega,by go_num,rfl,hc3,hc2,hB.store (q + k) _,HI2,hW.setCell _ _⟩
      case measure=>simp [intOf]; omega
    . obtain rfl:k=n:=by omega
      have cg:=hB.cell (show q + k < N by omega)
      have fg:=hB.frozen (q + k)
      have hc4:c < 1073741824:=by omega
      obtain ⟨m0,m1⟩:=sgn_mul HS.out ⟨hc0,hc4⟩
      have HD:Hid (Piled N r0 s (P q * (2 ^ p * val a k)) (upd r (q + k) (r (q + k) + s * c))):=HI.out.done hss (by omega) ⟨hc0,hc4⟩
      generalize hSM:s * c=SM at *
      go_wp2
      first | go_end0 | refine bodyPost_ret (results_none rfl _ _ _) rfl ?_
      exact ⟨rfl,_,hB.store (q + k) _,hW.setCell _ _,HD.out⟩
end Go.Proofs.YtkajoieoggajiaaDoor
