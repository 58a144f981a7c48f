/-
  Parts of the proof, one behind another.
-/
import Derived.Test.YtinccocmgkjalaaGreatDoorPart21
import Derived.Test.YtinccocmgkjalaaGreatDoorPart22
import Derived.Test.YtinccocmgkjalaaGreatDoorPart18
import Derived.Test.YtinccocmgkjalaaGreatDoorPart17
import Derived.Deep.RegionHeld3
import Derived.Test.YtinccocmgkjalaaGreatDoorPart26
import Derived.Test.YtinccocmgkjalaaGreatDoorPart23
set_option linter.unusedVariables false
set_option linter.unusedSimpArgs false
namespace Go.Proofs.YtinccocmgkjalaaGreatDoor
open Go Go.RowKit Go.Proofs.YtinccocmgkjalaaGreatDoor.M
def Dot2 (a1 a2 c1 c2 V:Int):Prop:=∃ C D,C * 2 ^ 4194304=a1 * c1∧D * 2 ^ 4194304=a2 * c2∧V=C + D
theorem Dot2.unique {a1 a2 b1 b2 V V':Int} (h:Dot2 a1 a2 b1 b2 V) (k:Dot2 a1 a2 b1 b2 V'):V=V':=by
 obtain ⟨C,D,h1,h2,rfl⟩:=h
 obtain ⟨C',D',k1,k2,rfl⟩:=k
 rw [scale_inj (h1.trans k1.symm),scale_inj (h2.trans k2.symm)]
set_option maxRecDepth 100000 in
theorem msure_any (x_g:Bool) (x_o:Option Addr) (x_n x_c:Nat) (x_e e:Int) (w:World) :
  Calls Tryz.prog 55 #[.agg #[.bool x_g,.slice x_o x_n x_c,.int .i64 x_e],.int .i64 e] w fun r w'=>r=.returned (.agg #[.bool x_g,.slice x_o x_n x_c,.int .i64 x_e])∧Below w.heap.size w w':=by
 have hb0:=bel_alloc2 w (.cells #[.bool x_g,.slice x_o x_n x_c,.int .i64 x_e] 34) (.cells #[.bool false,.slice none 0 0,.int .i64 0] 34)
 have x_k:=heap_a2 w (.cells #[.bool x_g,.slice x_o x_n x_c,.int .i64 x_e] 34) (.cells #[.bool false,.slice none 0 0,.int .i64 0] 34)
 have r_k:=heap_b2 w (.cells #[.bool x_g,.slice x_o x_n x_c,.int .i64 x_e] 34) (.cells #[.bool false,.slice none 0 0,.int .i64 0] 34)
 go_enter Tryz.func55,Tryz.ntmps55
 go_wp2_with fail
 have r_j:=heap_b2 w (.cells #[.bool x_g,.slice x_o x_n x_c,.int .i64 x_e] 34) (.cells #[.bool x_g,.slice x_o x_n x_c,.int .i64 x_e] 34)
 have k0:=blkC r_j 0 rfl
 have k1:=blkC r_j 1 rfl
 have k2:=blkC r_j 2 rfl
 exact bodyPost_ret (v:=.agg #[.bool x_g,.slice x_o x_n x_c,.int .i64 x_e]) (by simp [results,Tryz.results55,go_sem,k0,k1,k2]) rfl ⟨rfl,bel_alloc2 _ _ _⟩
theorem bel_dr (w:World) (o:Obj):Below w.drew.heap.size w.drew (w.alloc o).drew:=bel_trans (bel_alloc w.drew o) (bel_refl _)
theorem heap_a1d (w:World) (o:Obj):(w.alloc o).drew.heap[w.heap.size]?=some o:=heap_a1 w o
set_option maxRecDepth 100000 in
theorem mexactNumbers (w:World) :
  Calls Tryz.prog 29 #[] w fun r w'=>r=.returned (.agg #[.func (.func 51) #[] #[],.func (.func 52) #[] #[],.func (.func 53) #[] #[],.func (.func 54) #[] #[]])∧Below w.heap.size w w':=by
 have hst:∀ p F m w,(store p (.func (.func F) #[] #[]) m).run Tryz.prog w=stored Tryz.prog w p (.func (.func F) #[] #[]) m:=fun p F m w=>run_store _ w p _ m rfl
 go_enter Tryz.func29,Tryz.ntmps29
 go_wp2_with fail
 have r_j:=heap_a1 w (.cells #[.func (.func 51) #[] #[],.func (.func 52) #[] #[],.func (.func 53) #[] #[],.func (.func 54) #[] #[]] 63)
 have k0:=blkC r_j 0 rfl
 have k1:=blkC r_j 1 rfl
 have k2:=blkC r_j 2 rfl
 have k3:=blkC r_j 3 rfl
 exact bodyPost_ret (v:=.agg #[.func (.func 51) #[] #[],.func (.func 52) #[] #[],.func (.func 53) #[] #[],.func (.func 54) #[] #[]]) (by simp [results,Tryz.results29,go_sem,k0,k1,k2,k3]) rfl ⟨rfl,bel_alloc _ _⟩
set_option maxRecDepth 100000 in
set_option maxHeartbeats 8000000 in
theorem mdotN_any {ax ay bx by' cx cy:Int} (pax:pok ax=true) (pay:pok ay=true) (pbx:pok bx=true) (pby:pok by'=true) (pcx:pok cx=true) (pcy:pok cy=true) (w:World) (H:Hold4 w) :
  Calls Tryz.prog 30 #[.agg #[.func (.func 51) #[] #[],.func (.func 52) #[] #[],.func (.func 53) #[] #[],.func (.func 54) #[] #[]],.agg #[.int .i64 ax,.int .i64 ay],.agg #[.int .i64 bx,.int .i64 by'],.agg #[.int .i64 cx,.int .i64 cy]] w fun r w'=>∃ v V,r=.returned v∧DAns w w' V v∧Dot2 (patV ax - patV bx) (patV ay - patV by') (patV cx - patV bx) (patV cy - patV by') V∧Bd 8100 V:=by
 have A1:Hid (∀ W,Hold4 W->Calls Tryz.prog 51 #[.int .i64 ax,.int .i64 bx] W fun r w'=>∃ v,r=.returned v∧DAns W w' (patV ax - patV bx) v):=fun W h=>oapart_any pax pbx W h
 have B1:=(patV_bd pax).sub (patV_bd pbx) (by decide)
 have A2:Hid (∀ W,Hold4 W->Calls Tryz.prog 51 #[.int .i64 cx,.int .i64 bx] W fun r w'=>∃ v,r=.returned v∧DAns W w' (patV cx - patV bx) v):=fun W h=>oapart_any pcx pbx W h
 have B2:=(patV_bd pcx).sub (patV_bd pbx) (by decide)
 have A3:Hid (∀ W,Hold4 W->Calls Tryz.prog 51 #[.int .i64 ay,.int .i64 by'] W fun r w'=>∃ v,r=.returned v∧DAns W w' (patV ay - patV by') v):=fun W h=>oapart_any pay pby W h
 have B3:=(patV_bd pay).sub (patV_bd pby) (by decide)
 have A4:Hid (∀ W,Hold4 W->Calls Tryz.prog 51 #[.int .i64 cy,.int .i64 by'] W fun r w'=>∃ v,r=.returned v∧DAns W w' (patV cy - patV by') v):=fun W h=>oapart_any pcy pby W h
 have B4:=(patV_bd pcy).sub (patV_bd pby) (by decide)
 generalize patV ax - patV bx=a1 at *
 generalize patV cx - patV bx=c1 at *
 generalize patV ay - patV by'=a2 at *
 generalize patV cy - patV by'=c2 at *
 clear pax pay pbx pby pcx pcy
 have k_k:(w.alloc (.cells #[.func (.func 51) #[] #[],.func (.func 52) #[] #[],.func (.func 53) #[] #[],.func (.func 54) #[] #[]] 63)).heap[w.heap.size]?=some (.cells #[.func (.func 51) #[] #[],.func (.func 52) #[] #[],.func (.func 53) #[] #[],.func (.func 54) #[] #[]] 63):=heap_new (.cells #[.func (.func 51) #[] #[],.func (.func 52) #[] #[],.func (.func 53) #[] #[],.func (.func 54) #[] #[]] 63) (by rfl)
 have hb0:=bel_alloc w (.cells #[.func (.func 51) #[] #[],.func (.func 52) #[] #[],.func (.func 53) #[] #[],.func (.func 54) #[] #[]] 63)
 replace k_k:=heap_past (.cells #[.int .i64 ax,.int .i64 ay] 23) k_k
 have a_k:((w.alloc (.cells #[.func (.func 51) #[] #[],.func (.func 52) #[] #[],.func (.func 53) #[] #[],.func (.func 54) #[] #[]] 63)).alloc (.cells #[.int .i64 ax,.int .i64 ay] 23)).heap[w.heap.size + 1]?=some (.cells #[.int .i64 ax,.int .i64 ay] 23):=heap_new (.cells #[.int .i64 ax,.int .i64 ay] 23) (by simp only [size_alloc])
 replace hb0:=bel_trans hb0 (bel_alloc (w.alloc (.cells #[.func (.func 51) #[] #[],.func (.func 52) #[] #[],.func (.func 53) #[] #[],.func (.func 54) #[] #[]] 63)) (.cells #[.int .i64 ax,.int .i64 ay] 23))
 replace k_k:=heap_past (.cells #[.int .i64 bx,.int .i64 by'] 23) k_k
 replace a_k:=heap_past (.cells #[.int .i64 bx,.int .i64 by'] 23) a_k
 have b_k:(((w.alloc (.cells #[.func (.func 51) #[] #[],.func (.func 52) #[] #[],.func (.func 53) #[] #[],.func (.func 54) #[] #[]] 63)).alloc (.cells #[.int .i64 ax,.int .i64 ay] 23)).alloc (.cells #[.int .i64 bx,.int .i64 by'] 23)).heap[w.heap.size + 1 + 1]?=some (.cells #[.int .i64 bx,.int .i64 by'] 23):=heap_new (.cells #[.int .i64 bx,.int .i64 by'] 23) (by simp only [size_alloc])
 replace hb0:=bel_trans hb0 (bel_alloc ((w.alloc (.cells #[.func (.func 51) #[] #[],.func (.func 52) #[] #[],.func (.func 53) #[] #[],.func (.func 54) #[] #[]] 63)).alloc (.cells #[.int .i64 ax,.int .i64 ay] 23)) (.cells #[.int .i64 bx,.int .i64 by'] 23))
 replace k_k:=heap_past (.cells #[.int .i64 cx,.int .i64 cy] 23) k_k
 replace a_k:=heap_past (.cells #[.int .i64 cx,.int .i64 cy] 23) a_k
 replace b_k:=heap_past (.cells #[.int .i64 cx,.int .i64 cy] 23) b_k
 have c_k:((((w.alloc (.cells #[.func (.func 51) #[] #[],.func (.func 52) #[] #[],.func (.func 53) #[] #[],.func (.func 54) #[] #[]] 63)).alloc (.cells #[.int .i64 ax,.int .i64 ay] 23)).alloc (.cells #[.int .i64 bx,.int .i64 by'] 23)).alloc (.cells #[.int .i64 cx,.int .i64 cy] 23)).heap[w.heap.size + 1 + 1 + 1]?=some (.cells #[.int .i64 cx,.int .i64 cy] 23):=heap_new (.cells #[.int .i64 cx,.int .i64 cy] 23) (by simp only [size_alloc])
 replace hb0:=bel_trans hb0 (bel_alloc (((w.alloc (.cells #[.func (.func 51) #[] #[],.func (.func 52) #[] #[],.func (.func 53) #[] #[],.func (.func 54) #[] #[]] 63)).alloc (.cells #[.int .i64 ax,.int .i64 ay] 23)).alloc (.cells #[.int .i64 bx,.int .i64 by'] 23)) (.cells #[.int .i64 cx,.int .i64 cy] 23))
 replace k_k:=heap_past (.cells #[.bool false,.slice none 0 0,.int .i64 0] 34) k_k
 replace a_k:=heap_past (.cells #[.bool false,.slice none 0 0,.int .i64 0] 34) a_k
 replace b_k:=heap_past (.cells #[.bool false,.slice none 0 0,.int .i64 0] 34) b_k
 replace c_k:=heap_past (.cells #[.bool false,.slice none 0 0,.int .i64 0] 34) c_k
 have r_k:(((((w.alloc (.cells #[.func (.func 51) #[] #[],.func (.func 52) #[] #[],.func (.func 53) #[] #[],.func (.func 54) #[] #[]] 63)).alloc (.cells #[.int .i64 ax,.int .i64 ay] 23)).alloc (.cells #[.int .i64 bx,.int .i64 by'] 23)).alloc (.cells #[.int .i64 cx,.int .i64 cy] 23)).alloc (.cells #[.bool false,.slice none 0 0,.int .i64 0] 34)).heap[w.heap.size + 1 + 1 + 1 + 1]?=some (.cells #[.bool false,.slice none 0 0,.int .i64 0] 34):=heap_new (.cells #[.bool false,.slice none 0 0,.int .i64 0] 34) (by simp only [size_alloc])
 replace hb0:=bel_trans hb0 (bel_alloc ((((w.alloc (.cells #[.func (.func 51) #[] #[],.func (.func 52) #[] #[],.func (.func 53) #[] #[],.func (.func 54) #[] #[]] 63)).alloc (.cells #[.int .i64 ax,.int .i64 ay] 23)).alloc (.cells #[.int .i64 bx,.int .i64 by'] 23)).alloc (.cells #[.int .i64 cx,.int .i64 cy] 23)) (.cells #[.bool false,.slice none 0 0,.int .i64 0] 34))
 go_enter Tryz.func30,Tryz.ntmps30
 go_wp2_with fail
 rename_i Q0 K00 hK00
 generalize (((((w.alloc (.cells #[.func (.func 51) #[] #[],.func (.func 52) #[] #[],.func (.func 53) #[] #[],.func (.func 54) #[] #[]] 63)).alloc (.cells #[.int .i64 ax,.int .i64 ay] 23)).alloc (.cells #[.int .i64 bx,.int .i64 by'] 23)).alloc (.cells #[.int .i64 cx,.int .i64 cy] 23)).alloc (.cells #[.bool false,.slice none 0 0,.int .i64 0] 34))=x0 at hb0 k_k a_k b_k c_k r_k ⊢
 have H:=H.keeps hb0
 have hK1:=hK00
 have HN1:∀ (g:Nat) (x1:World) (t:Array Value) (l_g:Bool) (l_o:Option Addr) (l_n l_c:Nat) (l_e:Int) (l_V:Int),#[t.getD 0 undef,t.getD 1 undef,t.getD 2 undef,t.getD 3 undef,.pointer (some ⟨w.heap.size,0,none⟩),.pointer (some ⟨w.heap.size + 1,0,none⟩),.pointer (some ⟨w.heap.size + 1 + 1,0,none⟩),.pointer (some ⟨w.heap.size + 1 + 1 + 1,0,none⟩),.pointer (some ⟨w.heap.size + 1 + 1 + 1 + 1,0,none⟩),.pointer (some ⟨g,0,none⟩),t.getD 10 undef,t.getD 11 undef,t.getD 12 undef,t.getD 13 undef,t.getD 14 undef,t.getD 15 undef,t.getD 16 undef,t.getD 17 undef,t.getD 18 undef,t.getD 19 undef,t.getD 20 undef,t.getD 21 undef,t.getD 22 undef,t.getD 23 undef,t.getD 24 undef,t.getD 25 undef,t.getD 26 undef,t.getD 27 undef,t.getD 28 undef,t.getD 29 undef,t.getD 30 undef,t.getD 31 undef,t.getD 32 undef,t.getD 33 undef,t.getD 34 undef,t.getD 35 undef,t.getD 36 undef,t.getD 37 undef,t.getD 38 undef,t.getD 39 undef,t.getD 40 undef,t.getD 41 undef,t.getD 42 undef,t.getD 43 undef,t.getD 44 undef,t.getD 45 undef,t.getD 46 undef,t.getD 47 undef,t.getD 48 undef,t.getD 49 undef,t.getD 50 undef,t.getD 51 undef,t.getD 52 undef,t.getD 53 undef,t.getD 54 undef,t.getD 55 undef,t.getD 56 undef,t.getD 57 undef,t.getD 58 undef]=t->x0.heap.size <= g->x1.heap[g]?=some (.cells #[.bool l_g,.slice l_o l_n l_c,.int .i64 l_e] 34 (0,0))->Below x0.heap.size x0 x1->DAn w.heap.size x1 l_V (.agg #[.bool l_g,.slice l_o l_n l_c,.int .i64 l_e])->l_V * 2 ^ 4194304=a1 * c1->Bd (2 * (4000 + 1)) l_V->Exit.then K00 Q0 Exit.normal { tmps:=t,defers:=[] } x1:=by
  intro g_l x1 t l_g l_o l_n l_c l_e l_V ht l_ge l_k hw1 l_D l_E l_B
  obtain ⟨u1,hu⟩:∃ u:Nat->Value,t=#[u 0,u 1,u 2,u 3,.pointer (some ⟨w.heap.size,0,none⟩),.pointer (some ⟨w.heap.size + 1,0,none⟩),.pointer (some ⟨w.heap.size + 1 + 1,0,none⟩),.pointer (some ⟨w.heap.size + 1 + 1 + 1,0,none⟩),.pointer (some ⟨w.heap.size + 1 + 1 + 1 + 1,0,none⟩),.pointer (some ⟨g_l,0,none⟩),u 10,u 11,u 12,u 13,u 14,u 15,u 16,u 17,u 18,u 19,u 20,u 21,u 22,u 23,u 24,u 25,u 26,u 27,u 28,u 29,u 30,u 31,u 32,u 33,u 34,u 35,u 36,u 37,u 38,u 39,u 40,u 41,u 42,u 43,u 44,u 45,u 46,u 47,u 48,u 49,u 50,u 51,u 52,u 53,u 54,u 55,u 56,u 57,u 58]:=⟨fun k=>t.getD k undef,ht.symm⟩
  clear ht
  subst hu
  have H:=H.keeps hw1
  have k_k:=(hw1.block _ (Array.getElem?_eq_some_iff.1 k_k).1).trans k_k
  have a_k:=(hw1.block _ (Array.getElem?_eq_some_iff.1 a_k).1).trans a_k
  have b_k:=(hw1.block _ (Array.getElem?_eq_some_iff.1 b_k).1).trans b_k
  have c_k:=(hw1.block _ (Array.getElem?_eq_some_iff.1 c_k).1).trans c_k
  have r_k:=(hw1.block _ (Array.getElem?_eq_some_iff.1 r_k).1).trans r_k
  have hb1:=bel_trans hb0 hw1
  go_wp2_with fail
  rename_i K2 hK2
  have HN2:∀ (g:Nat) (x2:World) (t:Array Value) (s_g:Bool) (s_o:Option Addr) (s_n s_c:Nat) (s_e:Int) (s_V:Int),#[t.getD 0 undef,t.getD 1 undef,t.getD 2 undef,t.getD 3 undef,.pointer (some ⟨w.heap.size,0,none⟩),.pointer (some ⟨w.heap.size + 1,0,none⟩),.pointer (some ⟨w.heap.size + 1 + 1,0,none⟩),.pointer (some ⟨w.heap.size + 1 + 1 + 1,0,none⟩),.pointer (some ⟨w.heap.size + 1 + 1 + 1 + 1,0,none⟩),.pointer (some ⟨g_l,0,none⟩),.pointer (some ⟨g,0,none⟩),t.getD 11 undef,t.getD 12 undef,t.getD 13 undef,t.getD 14 undef,t.getD 15 undef,t.getD 16 undef,t.getD 17 undef,t.getD 18 undef,t.getD 19 undef,t.getD 20 undef,t.getD 21 undef,t.getD 22 undef,t.getD 23 undef,t.getD 24 undef,t.getD 25 undef,t.getD 26 undef,t.getD 27 undef,t.getD 28 undef,t.getD 29 undef,t.getD 30 undef,t.getD 31 undef,t.getD 32 undef,t.getD 33 undef,t.getD 34 undef,t.getD 35 undef,t.getD 36 undef,t.getD 37 undef,t.getD 38 undef,t.getD 39 undef,t.getD 40 undef,t.getD 41 undef,t.getD 42 undef,t.getD 43 undef,t.getD 44 undef,t.getD 45 undef,t.getD 46 undef,t.getD 47 undef,t.getD 48 undef,t.getD 49 undef,t.getD 50 undef,t.getD 51 undef,t.getD 52 undef,t.getD 53 undef,t.getD 54 undef,t.getD 55 undef,t.getD 56 undef,t.getD 57 undef,t.getD 58 undef]=t->x1.heap.size <= g->x2.heap[g]?=some (.cells #[.bool s_g,.slice s_o s_n s_c,.int .i64 s_e] 34 (0,0))->Below x1.heap.size x1 x2->DAn w.heap.size x2 s_V (.agg #[.bool s_g,.slice s_o s_n s_c,.int .i64 s_e])->s_V * 2 ^ 4194304=a2 * c2->Bd (2 * (4000 + 1)) s_V->Exit.then K2 Q0 Exit.normal { tmps:=t,defers:=[] } x2:=by
   intro g_s x2 t s_g s_o s_n s_c s_e s_V ht s_ge s_k hw2 s_D s_E s_B
   obtain ⟨u2,hu⟩:∃ u:Nat->Value,t=#[u 0,u 1,u 2,u 3,.pointer (some ⟨w.heap.size,0,none⟩),.pointer (some ⟨w.heap.size + 1,0,none⟩),.pointer (some ⟨w.heap.size + 1 + 1,0,none⟩),.pointer (some ⟨w.heap.size + 1 + 1 + 1,0,none⟩),.pointer (some ⟨w.heap.size + 1 + 1 + 1 + 1,0,none⟩),.pointer (some ⟨g_l,0,none⟩),.pointer (some ⟨g_s,0,none⟩),u 11,u 12,u 13,u 14,u 15,u 16,u 17,u 18,u 19,u 20,u 21,u 22,u 23,u 24,u 25,u 26,u 27,u 28,u 29,u 30,u 31,u 32,u 33,u 34,u 35,u 36,u 37,u 38,u 39,u 40,u 41,u 42,u 43,u 44,u 45,u 46,u 47,u 48,u 49,u 50,u 51,u 52,u 53,u 54,u 55,u 56,u 57,u 58]:=⟨fun k=>t.getD k undef,ht.symm⟩
   clear ht
   subst hu
   have H:=H.keeps hw2
   have k_k:=(hw2.block _ (Array.getElem?_eq_some_iff.1 k_k).1).trans k_k
   have a_k:=(hw2.block _ (Array.getElem?_eq_some_iff.1 a_k).1).trans a_k
   have b_k:=(hw2.block _ (Array.getElem?_eq_some_iff.1 b_k).1).trans b_k
   have c_k:=(hw2.block _ (Array.getElem?_eq_some_iff.1 c_k).1).trans c_k
   have r_k:=(hw2.block _ (Array.getElem?_eq_some_iff.1 r_k).1).trans r_k
   have l_k:=(hw2.block _ (Array.getElem?_eq_some_iff.1 l_k).1).trans l_k
   have l_D:=l_D.keeps hw2
   have hb2:=bel_trans hb1 hw2
   have f_l0:=blkC l_k 0 rfl
   have f_l1:=blkC l_k 1 rfl
   have f_l2:=blkC l_k 2 rfl
   have f_s0:=blkC s_k 0 rfl
   have f_s1:=blkC s_k 1 rfl
   have f_s2:=blkC s_k 2 rfl
   have f_k1:=blkC k_k 1 rfl
   go_wp2_with fail
   clear f_k1
   clear f_l0 f_l1 f_l2 f_s0 f_s1 f_s2
   have hs0:=(Array.getElem?_eq_some_iff.1 r_k).1
   refine (add_B l_D.num s_D.num l_B s_B (by omega) H.tab).mono ?_
   rintro _ y3 ⟨v,rfl,h3⟩
   obtain ⟨u3_g,u3_o,u3_n,u3_c,u3_e,rfl⟩:=dans_shape h3
   have hw3:=h3.below
   have u3_D:=h3.num
   have H:=H.keeps hw3
   have k_k:=(hw3.block _ (Array.getElem?_eq_some_iff.1 k_k).1).trans k_k
   have a_k:=(hw3.block _ (Array.getElem?_eq_some_iff.1 a_k).1).trans a_k
   have b_k:=(hw3.block _ (Array.getElem?_eq_some_iff.1 b_k).1).trans b_k
   have c_k:=(hw3.block _ (Array.getElem?_eq_some_iff.1 c_k).1).trans c_k
   have r_k:=(hw3.block _ (Array.getElem?_eq_some_iff.1 r_k).1).trans r_k
   have l_k:=(hw3.block _ (Array.getElem?_eq_some_iff.1 l_k).1).trans l_k
   have l_D:=l_D.keeps hw3
   have s_k:=(hw3.block _ (Array.getElem?_eq_some_iff.1 s_k).1).trans s_k
   have s_D:=s_D.keeps hw3
   have hb3:=bel_trans hb2 hw3
   go_wp2_with fail
   refine (msure_any _ _ _ _ _ _ _).mono ?_
   rintro _ ye ⟨rfl,hwe⟩
   have r_k:=blk_on hwe r_k
   have k0:=blkC r_k 0 rfl
   have k1:=blkC r_k 1 rfl
   have k2:=blkC r_k 2 rfl
   have z0:=blkF r_k 0
   have z1:=blkF r_k 1
   have z2:=blkF r_k 2
   go_wp2
   refine bodyPost_ret (v:=.agg #[.bool u3_g,.slice u3_o u3_n u3_c,.int .i64 u3_e]) (by simp [results,Tryz.results30,go_sem,k0,k1,k2]) rfl ⟨_,l_V + s_V,rfl,?_,⟨l_V,s_V,l_E,s_E,rfl⟩,?_⟩
   ·exact dans_res3 (g:=w.heap.size + 4) (h3.stays hwe) (by assumption) (by omega) hs0 _ _ _
   ·exact (l_B.add s_B (by decide)).up (by decide) (by decide)
  have KK2:∀ W,Below x1.heap.size x1 W->W.cell? ⟨w.heap.size,0,none⟩=some (.func (.func 51) #[] #[])∧W.cell? ⟨w.heap.size,3,none⟩=some (.func (.func 54) #[] #[])∧W.cell? ⟨w.heap.size + 1,1,none⟩=some (.int .i64 ay)∧W.cell? ⟨w.heap.size + 2,1,none⟩=some (.int .i64 by')∧W.cell? ⟨w.heap.size + 3,1,none⟩=some (.int .i64 cy):=fun W hb=>⟨q_cell (blkC k_k 0 rfl) hb,q_cell (blkC k_k 3 rfl) hb,q_cell (blkC a_k 1 rfl) hb,q_cell (blkC b_k 1 rfl) hb,q_cell (blkC c_k 1 rfl) hb⟩
  have hC2_0:=(bel_refl x1).drew
  have hT2_0:Below w.heap.size w x1.drew:=hb1.drew
  have H_2_0:=H.keeps (bel_refl x1).drew
  have hs2_0:=(bel_refl x1).drew
  go_region_held3 (fun W=>W.cell? ⟨w.heap.size,0,none⟩=some (.func (.func 51) #[] #[])∧W.cell? ⟨w.heap.size,3,none⟩=some (.func (.func 54) #[] #[])∧W.cell? ⟨w.heap.size + 1,1,none⟩=some (.int .i64 ay)∧W.cell? ⟨w.heap.size + 2,1,none⟩=some (.int .i64 by')∧W.cell? ⟨w.heap.size + 3,1,none⟩=some (.int .i64 cy))
   (with_reducible first | assumption | exact KK2 _ (bel_alloc _ _).drew | exact KK2 _ hC2_0 | exact KK2 _ hC2_1 | exact KK2 _ hC2_2 | exact KK2 _ hC2_3 | exact KK2 _ hC2_4 | exact KK2 _ (bel_trans hC2_0 (bel_alloc _ _)) | exact KK2 _ (bel_trans hC2_1 (bel_alloc _ _)) | exact KK2 _ (bel_trans hC2_2 (bel_alloc _ _)) | exact KK2 _ (bel_trans hC2_3 (bel_alloc _ _)) | exact KK2 _ (bel_trans hC2_4 (bel_alloc _ _)) | exact KK2 _ (bel_set3' hC2_4 (Nat.le_refl _) _ _ _) | exact KK2 _ (bel_set3' hC2_4 hC2_1.size _ _ _) | exact KK2 _ (bel_set3' hC2_4 hC2_2.size _ _ _) | exact KK2 _ (bel_set3' hC2_4 hC2_3.size _ _ _) | fail)
   (first
    | (go_at_call 55; have _t:=hs2_3; refine (msure_any _ _ _ _ _ _ _).mono ?_; rintro _ y2_4 ⟨rfl,hq2_4⟩; have hs2_4:Below y2_3.heap.size y2_3 y2_4:=(by with_reducible first | exact hq2_4 | exact bel_trans (bel_alloc _ _) hq2_4 | exact bel_trans (bel_dr _ _) hq2_4); have hT2_4:=bel_trans hT2_3 hs2_4; have hC2_4:=bel_trans hC2_3 hs2_4; have H_2_4:=H_2_3.keeps hs2_4; have s_A:=ne2.keeps hs2_4; with_reducible first | (have qz2:y2_4.heap[x1.heap.size]?=some (.cells #[.bool false,.slice none 0 0,.int .i64 0] 34 (0,0)):=blk_on hq2_4 (blk_on hq2_3 (blk_on hq2_2 (blk_on hq2_1 (heap_a1d x1 (.cells #[.bool false,.slice none 0 0,.int .i64 0] 34))))); have cz2_0:=blkC qz2 0 rfl; have zz2_0:=blkF qz2 0; have cz2_1:=blkC qz2 1 rfl; have zz2_1:=blkF qz2 1; have cz2_2:=blkC qz2 2 rfl; have zz2_2:=blkF qz2 2) | (have qz2:y2_4.heap[y2_1.heap.size]?=some (.cells #[.bool false,.slice none 0 0,.int .i64 0] 34 (0,0)):=blk_on hq2_4 (blk_on hq2_3 (blk_on hq2_2 (heap_a1 _ _))); have cz2_0:=blkC qz2 0 rfl; have zz2_0:=blkF qz2 0; have cz2_1:=blkC qz2 1 rfl; have zz2_1:=blkF qz2 1; have cz2_2:=blkC qz2 2 rfl; have zz2_2:=blkF qz2 2) | (have qz2:y2_4.heap[y2_2.heap.size]?=some (.cells #[.bool false,.slice none 0 0,.int .i64 0] 34 (0,0)):=blk_on hq2_4 (blk_on hq2_3 (heap_a1 _ _)); have cz2_0:=blkC qz2 0 rfl; have zz2_0:=blkF qz2 0; have cz2_1:=blkC qz2 1 rfl; have zz2_1:=blkF qz2 1; have cz2_2:=blkC qz2 2 rfl; have zz2_2:=blkF qz2 2) | (have qz2:y2_4.heap[y2_3.heap.size]?=some (.cells #[.bool false,.slice none 0 0,.int .i64 0] 34 (0,0)):=blk_on hq2_4 (heap_a1 _ _); have cz2_0:=blkC qz2 0 rfl; have zz2_0:=blkF qz2 0; have cz2_1:=blkC qz2 1 rfl; have zz2_1:=blkF qz2 1; have cz2_2:=blkC qz2 2 rfl; have zz2_2:=blkF qz2 2) | skip)
    | (go_at_call 54; have _t:=hs2_2; refine (mul_B (np2.keeps (by with_reducible first | exact bel_refl _ | exact bel_alloc _ _ | exact bel_dr _ _)) (nb2.num.keeps (by with_reducible first | exact bel_refl _ | exact bel_alloc _ _ | exact bel_dr _ _)) B3 B4 (by omega) (H_2_2.keeps (by with_reducible first | exact bel_refl _ | exact bel_alloc _ _ | exact bel_dr _ _)).tab).mono ?_; rintro _ y2_3 ⟨v,s_V,rfl,nm2,s_E,s_B⟩; obtain ⟨s_g,s_o,s_n,s_c,s_e,rfl⟩:=dans_shape nm2; have hq2_3:=nm2.below; have ne2:=nm2.dan.lower (Nat.le_trans hT2_2.size (by with_reducible first | exact Nat.le_refl _ | exact (bel_alloc _ _).size | exact (bel_dr _ _).size)); have hs2_3:Below y2_2.heap.size y2_2 y2_3:=(by with_reducible first | exact hq2_3 | exact bel_trans (bel_alloc _ _) hq2_3 | exact bel_trans (bel_dr _ _) hq2_3); have hT2_3:=bel_trans hT2_2 hs2_3; have hC2_3:=bel_trans hC2_2 hs2_3; have H_2_3:=H_2_2.keeps hs2_3)
    | (go_at_call 51; have _t:=hs2_1; refine (A4.out _ (H_2_1.keeps (by with_reducible first | exact bel_refl _ | exact bel_alloc _ _ | exact bel_dr _ _))).mono ?_; rintro _ y2_2 ⟨v,rfl,nb2⟩; obtain ⟨q_g,q_o,q_n,q_c,q_e,rfl⟩:=dans_shape nb2; have hq2_2:=nb2.below; have hs2_2:Below y2_1.heap.size y2_1 y2_2:=(by with_reducible first | exact hq2_2 | exact bel_trans (bel_alloc _ _) hq2_2 | exact bel_trans (bel_dr _ _) hq2_2); have hT2_2:=bel_trans hT2_1 hs2_2; have hC2_2:=bel_trans hC2_1 hs2_2; have H_2_2:=H_2_1.keeps hs2_2; have np2:=na2.num.keeps hs2_2)
    | (go_at_call 51; refine (A3.out _ (H_2_0.keeps (by with_reducible first | exact bel_refl _ | exact bel_alloc _ _ | exact bel_dr _ _))).mono ?_; rintro _ y2_1 ⟨v,rfl,na2⟩; obtain ⟨p_g,p_o,p_n,p_c,p_e,rfl⟩:=dans_shape na2; have hq2_1:=na2.below; have hs2_1:Below x1.drew.heap.size x1.drew y2_1:=(by with_reducible first | exact hq2_1 | exact bel_trans (bel_alloc _ _) hq2_1 | exact bel_trans (bel_dr _ _) hq2_1); have hT2_1:=bel_trans hT2_0 hs2_1; have hC2_1:=bel_trans hC2_0 hs2_1; have H_2_1:=H_2_0.keeps hs2_1))
  ·exact HN2 y2_4.heap.size _ _ _ _ _ _ _ s_V (by kernel_rfl) ((bel_trans (bel_trans (bel_trans (bel_trans (hs2_0) hs2_1) hs2_2) hs2_3) hs2_4).size) (heap_a1 _ _) (bel_trans (bel_trans (bel_trans (bel_trans (bel_trans (hs2_0) hs2_1) hs2_2) hs2_3) hs2_4) (bel_alloc _ _)) (s_A.keeps (bel_alloc _ _)) s_E s_B
  ·exact HN2 y2_3.heap.size _ _ _ _ _ _ _ s_V (by kernel_rfl) ((bel_trans (bel_trans (bel_trans (hs2_0) hs2_1) hs2_2) hs2_3).size) (heap_set (heap_set (heap_set (blk_on hq2_4 (heap_a1 _ _)) 0 _) 1 _) 2 _) (bel_set3' (bel_trans (bel_trans (bel_trans (bel_trans (hs2_0) hs2_1) hs2_2) hs2_3) hs2_4) ((bel_trans (bel_trans (bel_trans (hs2_0) hs2_1) hs2_2) hs2_3).size) _ _ _) (dan_res3 s_A (blk_on hq2_4 (heap_a1 _ _)) _ _ _) s_E s_B
  ·exact HN2 y2_2.heap.size _ _ _ _ _ _ _ s_V (by kernel_rfl) ((bel_trans (bel_trans (hs2_0) hs2_1) hs2_2).size) (heap_set (heap_set (heap_set (blk_on hq2_4 (blk_on hq2_3 (heap_a1 _ _))) 0 _) 1 _) 2 _) (bel_set3' (bel_trans (bel_trans (bel_trans (bel_trans (hs2_0) hs2_1) hs2_2) hs2_3) hs2_4) ((bel_trans (bel_trans (hs2_0) hs2_1) hs2_2).size) _ _ _) (dan_res3 s_A (blk_on hq2_4 (blk_on hq2_3 (heap_a1 _ _))) _ _ _) s_E s_B
  ·exact HN2 y2_1.heap.size _ _ _ _ _ _ _ s_V (by kernel_rfl) ((bel_trans (hs2_0) hs2_1).size) (heap_set (heap_set (heap_set (blk_on hq2_4 (blk_on hq2_3 (blk_on hq2_2 (heap_a1 _ _)))) 0 _) 1 _) 2 _) (bel_set3' (bel_trans (bel_trans (bel_trans (bel_trans (hs2_0) hs2_1) hs2_2) hs2_3) hs2_4) ((bel_trans (hs2_0) hs2_1).size) _ _ _) (dan_res3 s_A (blk_on hq2_4 (blk_on hq2_3 (blk_on hq2_2 (heap_a1 _ _)))) _ _ _) s_E s_B
  ·exact HN2 x1.heap.size _ _ _ _ _ _ _ s_V (by kernel_rfl) (Nat.le_refl _) (heap_set (heap_set (heap_set (blk_on hq2_4 (blk_on hq2_3 (blk_on hq2_2 (blk_on hq2_1 (heap_a1d x1 (.cells #[.bool false,.slice none 0 0,.int .i64 0] 34)))))) 0 _) 1 _) 2 _) (bel_set3' (bel_trans (bel_trans (bel_trans (bel_trans (hs2_0) hs2_1) hs2_2) hs2_3) hs2_4) (Nat.le_refl _) _ _ _) (dan_res3 s_A (blk_on hq2_4 (blk_on hq2_3 (blk_on hq2_2 (blk_on hq2_1 (heap_a1d x1 (.cells #[.bool false,.slice none 0 0,.int .i64 0] 34)))))) _ _ _) s_E s_B
 have KK1:∀ W,Below x0.heap.size x0 W->W.cell? ⟨w.heap.size,0,none⟩=some (.func (.func 51) #[] #[])∧W.cell? ⟨w.heap.size,3,none⟩=some (.func (.func 54) #[] #[])∧W.cell? ⟨w.heap.size + 1,0,none⟩=some (.int .i64 ax)∧W.cell? ⟨w.heap.size + 2,0,none⟩=some (.int .i64 bx)∧W.cell? ⟨w.heap.size + 3,0,none⟩=some (.int .i64 cx):=fun W hb=>⟨q_cell (blkC k_k 0 rfl) hb,q_cell (blkC k_k 3 rfl) hb,q_cell (blkC a_k 0 rfl) hb,q_cell (blkC b_k 0 rfl) hb,q_cell (blkC c_k 0 rfl) hb⟩
 have hC1_0:=(bel_refl x0).drew
 have hT1_0:Below w.heap.size w x0.drew:=hb0.drew
 have H_1_0:=H.keeps (bel_refl x0).drew
 have hs1_0:=(bel_refl x0).drew
 go_region_held3 (fun W=>W.cell? ⟨w.heap.size,0,none⟩=some (.func (.func 51) #[] #[])∧W.cell? ⟨w.heap.size,3,none⟩=some (.func (.func 54) #[] #[])∧W.cell? ⟨w.heap.size + 1,0,none⟩=some (.int .i64 ax)∧W.cell? ⟨w.heap.size + 2,0,none⟩=some (.int .i64 bx)∧W.cell? ⟨w.heap.size + 3,0,none⟩=some (.int .i64 cx))
  (with_reducible first | assumption | exact KK1 _ (bel_alloc _ _).drew | exact KK1 _ hC1_0 | exact KK1 _ hC1_1 | exact KK1 _ hC1_2 | exact KK1 _ hC1_3 | exact KK1 _ hC1_4 | exact KK1 _ (bel_trans hC1_0 (bel_alloc _ _)) | exact KK1 _ (bel_trans hC1_1 (bel_alloc _ _)) | exact KK1 _ (bel_trans hC1_2 (bel_alloc _ _)) | exact KK1 _ (bel_trans hC1_3 (bel_alloc _ _)) | exact KK1 _ (bel_trans hC1_4 (bel_alloc _ _)) | exact KK1 _ (bel_set3' hC1_4 (Nat.le_refl _) _ _ _) | exact KK1 _ (bel_set3' hC1_4 hC1_1.size _ _ _) | exact KK1 _ (bel_set3' hC1_4 hC1_2.size _ _ _) | exact KK1 _ (bel_set3' hC1_4 hC1_3.size _ _ _) | fail)
  (first
   | (go_at_call 55; have _t:=hs1_3; refine (msure_any _ _ _ _ _ _ _).mono ?_; rintro _ y1_4 ⟨rfl,hq1_4⟩; have hs1_4:Below y1_3.heap.size y1_3 y1_4:=(by with_reducible first | exact hq1_4 | exact bel_trans (bel_alloc _ _) hq1_4 | exact bel_trans (bel_dr _ _) hq1_4); have hT1_4:=bel_trans hT1_3 hs1_4; have hC1_4:=bel_trans hC1_3 hs1_4; have H_1_4:=H_1_3.keeps hs1_4; have l_A:=ne1.keeps hs1_4; with_reducible first | (have qz1:y1_4.heap[x0.heap.size]?=some (.cells #[.bool false,.slice none 0 0,.int .i64 0] 34 (0,0)):=blk_on hq1_4 (blk_on hq1_3 (blk_on hq1_2 (blk_on hq1_1 (heap_a1d x0 (.cells #[.bool false,.slice none 0 0,.int .i64 0] 34))))); have cz1_0:=blkC qz1 0 rfl; have zz1_0:=blkF qz1 0; have cz1_1:=blkC qz1 1 rfl; have zz1_1:=blkF qz1 1; have cz1_2:=blkC qz1 2 rfl; have zz1_2:=blkF qz1 2) | (have qz1:y1_4.heap[y1_1.heap.size]?=some (.cells #[.bool false,.slice none 0 0,.int .i64 0] 34 (0,0)):=blk_on hq1_4 (blk_on hq1_3 (blk_on hq1_2 (heap_a1 _ _))); have cz1_0:=blkC qz1 0 rfl; have zz1_0:=blkF qz1 0; have cz1_1:=blkC qz1 1 rfl; have zz1_1:=blkF qz1 1; have cz1_2:=blkC qz1 2 rfl; have zz1_2:=blkF qz1 2) | (have qz1:y1_4.heap[y1_2.heap.size]?=some (.cells #[.bool false,.slice none 0 0,.int .i64 0] 34 (0,0)):=blk_on hq1_4 (blk_on hq1_3 (heap_a1 _ _)); have cz1_0:=blkC qz1 0 rfl; have zz1_0:=blkF qz1 0; have cz1_1:=blkC qz1 1 rfl; have zz1_1:=blkF qz1 1; have cz1_2:=blkC qz1 2 rfl; have zz1_2:=blkF qz1 2) | (have qz1:y1_4.heap[y1_3.heap.size]?=some (.cells #[.bool false,.slice none 0 0,.int .i64 0] 34 (0,0)):=blk_on hq1_4 (heap_a1 _ _); have cz1_0:=blkC qz1 0 rfl; have zz1_0:=blkF qz1 0; have cz1_1:=blkC qz1 1 rfl; have zz1_1:=blkF qz1 1; have cz1_2:=blkC qz1 2 rfl; have zz1_2:=blkF qz1 2) | skip)
   | (go_at_call 54; have _t:=hs1_2; refine (mul_B (np1.keeps (by with_reducible first | exact bel_refl _ | exact bel_alloc _ _ | exact bel_dr _ _)) (nb1.num.keeps (by with_reducible first | exact bel_refl _ | exact bel_alloc _ _ | exact bel_dr _ _)) B1 B2 (by omega) (H_1_2.keeps (by with_reducible first | exact bel_refl _ | exact bel_alloc _ _ | exact bel_dr _ _)).tab).mono ?_; rintro _ y1_3 ⟨v,l_V,rfl,nm1,l_E,l_B⟩; obtain ⟨l_g,l_o,l_n,l_c,l_e,rfl⟩:=dans_shape nm1; have hq1_3:=nm1.below; have ne1:=nm1.dan.lower (Nat.le_trans hT1_2.size (by with_reducible first | exact Nat.le_refl _ | exact (bel_alloc _ _).size | exact (bel_dr _ _).size)); have hs1_3:Below y1_2.heap.size y1_2 y1_3:=(by with_reducible first | exact hq1_3 | exact bel_trans (bel_alloc _ _) hq1_3 | exact bel_trans (bel_dr _ _) hq1_3); have hT1_3:=bel_trans hT1_2 hs1_3; have hC1_3:=bel_trans hC1_2 hs1_3; have H_1_3:=H_1_2.keeps hs1_3)
   | (go_at_call 51; have _t:=hs1_1; refine (A2.out _ (H_1_1.keeps (by with_reducible first | exact bel_refl _ | exact bel_alloc _ _ | exact bel_dr _ _))).mono ?_; rintro _ y1_2 ⟨v,rfl,nb1⟩; obtain ⟨q_g,q_o,q_n,q_c,q_e,rfl⟩:=dans_shape nb1; have hq1_2:=nb1.below; have hs1_2:Below y1_1.heap.size y1_1 y1_2:=(by with_reducible first | exact hq1_2 | exact bel_trans (bel_alloc _ _) hq1_2 | exact bel_trans (bel_dr _ _) hq1_2); have hT1_2:=bel_trans hT1_1 hs1_2; have hC1_2:=bel_trans hC1_1 hs1_2; have H_1_2:=H_1_1.keeps hs1_2; have np1:=na1.num.keeps hs1_2)
   | (go_at_call 51; refine (A1.out _ (H_1_0.keeps (by with_reducible first | exact bel_refl _ | exact bel_alloc _ _ | exact bel_dr _ _))).mono ?_; rintro _ y1_1 ⟨v,rfl,na1⟩; obtain ⟨p_g,p_o,p_n,p_c,p_e,rfl⟩:=dans_shape na1; have hq1_1:=na1.below; have hs1_1:Below x0.drew.heap.size x0.drew y1_1:=(by with_reducible first | exact hq1_1 | exact bel_trans (bel_alloc _ _) hq1_1 | exact bel_trans (bel_dr _ _) hq1_1); have hT1_1:=bel_trans hT1_0 hs1_1; have hC1_1:=bel_trans hC1_0 hs1_1; have H_1_1:=H_1_0.keeps hs1_1))
 ·exact HN1 y1_4.heap.size _ _ _ _ _ _ _ l_V (by kernel_rfl) ((bel_trans (bel_trans (bel_trans (bel_trans (hs1_0) hs1_1) hs1_2) hs1_3) hs1_4).size) (heap_a1 _ _) (bel_trans (bel_trans (bel_trans (bel_trans (bel_trans (hs1_0) hs1_1) hs1_2) hs1_3) hs1_4) (bel_alloc _ _)) (l_A.keeps (bel_alloc _ _)) l_E l_B
 ·exact HN1 y1_3.heap.size _ _ _ _ _ _ _ l_V (by kernel_rfl) ((bel_trans (bel_trans (bel_trans (hs1_0) hs1_1) hs1_2) hs1_3).size) (heap_set (heap_set (heap_set (blk_on hq1_4 (heap_a1 _ _)) 0 _) 1 _) 2 _) (bel_set3' (bel_trans (bel_trans (bel_trans (bel_trans (hs1_0) hs1_1) hs1_2) hs1_3) hs1_4) ((bel_trans (bel_trans (bel_trans (hs1_0) hs1_1) hs1_2) hs1_3).size) _ _ _) (dan_res3 l_A (blk_on hq1_4 (heap_a1 _ _)) _ _ _) l_E l_B
 ·exact HN1 y1_2.heap.size _ _ _ _ _ _ _ l_V (by kernel_rfl) ((bel_trans (bel_trans (hs1_0) hs1_1) hs1_2).size) (heap_set (heap_set (heap_set (blk_on hq1_4 (blk_on hq1_3 (heap_a1 _ _))) 0 _) 1 _) 2 _) (bel_set3' (bel_trans (bel_trans (bel_trans (bel_trans (hs1_0) hs1_1) hs1_2) hs1_3) hs1_4) ((bel_trans (bel_trans (hs1_0) hs1_1) hs1_2).size) _ _ _) (dan_res3 l_A (blk_on hq1_4 (blk_on hq1_3 (heap_a1 _ _))) _ _ _) l_E l_B
 ·exact HN1 y1_1.heap.size _ _ _ _ _ _ _ l_V (by kernel_rfl) ((bel_trans (hs1_0) hs1_1).size) (heap_set (heap_set (heap_set (blk_on hq1_4 (blk_on hq1_3 (blk_on hq1_2 (heap_a1 _ _)))) 0 _) 1 _) 2 _) (bel_set3' (bel_trans (bel_trans (bel_trans (bel_trans (hs1_0) hs1_1) hs1_2) hs1_3) hs1_4) ((bel_trans (hs1_0) hs1_1).size) _ _ _) (dan_res3 l_A (blk_on hq1_4 (blk_on hq1_3 (blk_on hq1_2 (heap_a1 _ _)))) _ _ _) l_E l_B
 ·exact HN1 x0.heap.size _ _ _ _ _ _ _ l_V (by kernel_rfl) (Nat.le_refl _) (heap_set (heap_set (heap_set (blk_on hq1_4 (blk_on hq1_3 (blk_on hq1_2 (blk_on hq1_1 (heap_a1d x0 (.cells #[.bool false,.slice none 0 0,.int .i64 0] 34)))))) 0 _) 1 _) 2 _) (bel_set3' (bel_trans (bel_trans (bel_trans (bel_trans (hs1_0) hs1_1) hs1_2) hs1_3) hs1_4) (Nat.le_refl _) _ _ _) (dan_res3 l_A (blk_on hq1_4 (blk_on hq1_3 (blk_on hq1_2 (blk_on hq1_1 (heap_a1d x0 (.cells #[.bool false,.slice none 0 0,.int .i64 0] 34)))))) _ _ _) l_E l_B
def tLo (a b c d:Int):Int:=eLo (eTmLo (eOf a) (eOf b) (eOf c) (eOf d))
def tHi (a b c d:Int):Int:=eHi (eTmHi (eOf a) (eOf b) (eOf c) (eOf d))
theorem mulX {a b c d x y:Int} (s:Pin2 a b x) (t:Pin2 c d y):Hid (∀ W,Hold4 W->Calls Tryz.prog 41 #[.agg #[.int .i64 a,.int .i64 b],.agg #[.int .i64 c,.int .i64 d]] W fun e w'=>e=.returned (.tuple #[.agg #[.int .i64 (tLo a b c d),.int .i64 (tHi a b c d)],.int .i64 0])∧Below W.heap.size W w')∧Okk (tLo a b c d) (tHi a b c d) (mulS x y):=by
 refine ⟨fun W h=>?_,(s.h.times (eOf_ok _) (eOf_ok _) (eOf_ok _) (eOf_ok _) t.h).okk⟩
 have:=spanMulE s.lo.1 s.hi.1 t.lo.1 t.hi.1 W h
 rw [s.v,t.v] at this
 exact this
theorem Un.neg {S h:Int} (u:Un S h):Un (-S) (-h):=by
 unfold Un at *
 have e:-h - -S=-(h - S):=by omega
 rw [e,Int.natAbs_neg,Int.natAbs_neg,Int.natAbs_neg]
 exact u
theorem pat_dif {p q:Int} (hp:rng p) (hq:rng q) (pp:pok p=true) (pq:pok q=true):patV p - patV q=(iV p - iV q) * pw (-1074):=by
 rw [patV_iV hp pp,patV_iV hq pq,Int.sub_mul]
theorem prod_scale (x y:Int):(x * y * pw (-2148)) * 2 ^ 4194304=(x * pw (-1074)) * (y * pw (-1074)):=by
 have h:=pw_mul (a:=-1074) (b:=-1074) (by omega) (by omega)
 rw [show (-1074:Int) + -1074=-2148 by decide] at h
 generalize pw (-2148)=P at *
 generalize pw (-1074)=Q at *
 generalize (2:Int) ^ 4194304=Z at *
 have e:(x * Q) * (y * Q)=x * y * (Q * Q):=by grind
 rw [e,h]
 grind
theorem ord_mulP {x q:Int} (hq:0 < q):ord (x * q) 0=ord x 0:=by
 obtain ⟨h1,h2⟩:=sc_sgn (q:=q) (x:=x) hq
 rw [Int.mul_comm] at h1 h2
 unfold ord
 by_cases a:x < 0
 ·rw [if_pos a,if_pos (h2.2 a)]
 ·have a':¬ x * q < 0:=fun h=>a (h2.1 h)
  rw [if_neg a,if_neg a']
  by_cases b:0 < x
  ·have b':=h1.2 b
   first | rw [if_pos b,if_pos b'] | simp [b,b']
  ·have b':¬ 0 < x * q:=fun h=>b (h1.1 h)
   first | rw [if_neg b,if_neg b'] | simp [b,b']
theorem ord_iff {x y:Int} (h1:0 < x ↔ 0 < y) (h2:x < 0 ↔ y < 0):ord x 0=ord y 0:=by
 unfold ord
 by_cases a:x < 0
 ·rw [if_pos a,if_pos (h2.1 a)]
 ·have a':¬ y < 0:=fun h=>a (h2.2 h)
  rw [if_neg a,if_neg a']
  by_cases b:0 < x
  ·have b':=h1.1 b
   first | rw [if_pos b,if_pos b'] | simp [b,b']
  ·have b':¬ 0 < y:=fun h=>b (h1.2 h)
   first | rw [if_neg b,if_neg b'] | simp [b,b']
def allT3 (ax ay bx by' cx cy:Int):Bool:=pttame ax ay && pttame bx by' && pttame cx cy
theorem sgP_iV {p:Int} (hp:rng p):sgP p=ord (iV p) 0:=by
 obtain ⟨k1,k2⟩:=iV_key hp
 exact ord_iff k2.symm k1.symm
theorem tame3 {ax ay bx by' cx cy:Int} (rax:rng ax) (ray:rng ay) (rbx:rng bx) (rby:rng by') (rcx:rng cx) (rcy:rng cy) (h:allT3 ax ay bx by' cx cy=true):Mz ax∧Mz ay∧Mz bx∧Mz by'∧Mz cx∧Mz cy:=by
 unfold allT3 pttame at h
 simp only [Bool.and_eq_true] at h
 obtain ⟨⟨⟨a1,a2⟩,b1,b2⟩,c1,c2⟩:=h
 exact ⟨tame_Mz rax a1,tame_Mz ray a2,tame_Mz rbx b1,tame_Mz rby b2,tame_Mz rcx c1,tame_Mz rcy c2⟩
def hT (u1 v1 u2 v2:Int):Int:=(iV u1 * iV v2 - iV v1 * iV u2) / 2 ^ 1074
def nrP (T:Int):Int:=if T=0 then 0 else nearP (T * pw (-1074))
theorem fx_dvd {u v:Int} (h1:Fx 872 1226 u) (h2:Fx 872 1226 v):(2 ^ 1744:Int) ∣ iV u * iV v:=by
 rw [show (1744:Nat)=872 + 872 by decide,Int.pow_add]
 exact Int.mul_dvd_mul h1.d h2.d
theorem hT_eq {u1 v1 u2 v2:Int} (h1:Fx 872 1226 u1) (h2:Fx 872 1226 v1) (h3:Fx 872 1226 u2) (h4:Fx 872 1226 v2):2 ^ 1074 * hT u1 v1 u2 v2=iV u1 * iV v2 - iV v1 * iV u2:=by
 have d:(2 ^ 1744:Int) ∣ iV u1 * iV v2 - iV v1 * iV u2:=Int.dvd_sub (fx_dvd h1 h4) (fx_dvd h2 h3)
 exact Int.mul_ediv_cancel' (Int.dvd_trans (p2dvd (by decide)) d)
theorem hT_dvd {u1 v1 u2 v2:Int} (h1:Fx 872 1226 u1) (h2:Fx 872 1226 v1) (h3:Fx 872 1226 u2) (h4:Fx 872 1226 v2):(2 ^ 670:Int) ∣ hT u1 v1 u2 v2:=by
 have d:(2 ^ 1744:Int) ∣ iV u1 * iV v2 - iV v1 * iV u2:=Int.dvd_sub (fx_dvd h1 h4) (fx_dvd h2 h3)
 rw [<- hT_eq h1 h2 h3 h4,show (1744:Nat)=1074 + 670 by decide,Int.pow_add] at d
 exact Int.dvd_of_mul_dvd_mul_left (Int.ne_of_gt (p2 1074)) d
theorem ab_sub {x y M:Int} (hx:(x.natAbs:Int) <= M) (hy:(y.natAbs:Int) <= M):((x - y).natAbs:Int) <= 2 * M:=by omega
theorem hT_bd {u1 v1 u2 v2:Int} (h1:Fx 872 1226 u1) (h2:Fx 872 1226 v1) (h3:Fx 872 1226 u2) (h4:Fx 872 1226 v2):((hT u1 v1 u2 v2).natAbs:Int) <= 2 ^ 1379:=by
 have b1:=h_mul h1.b h4.b
 have b2:=h_mul h2.b h3.b
 have b3:=ab_sub b1 b2
 rw [<- hT_eq h1 h2 h3 h4,<- p2s,abs_mul,show (1226 + 1226 + 1:Nat)=1074 + 1379 by decide,Int.pow_add] at b3
 have e:(((2:Int) ^ 1074).natAbs:Int)=2 ^ 1074:=by have:=p2 1074; omega
 rw [e] at b3
 exact Int.le_of_mul_le_mul_left b3 (p2 1074)
theorem nrP_stp (T:Int):EStp T (nrP T):=by
 unfold nrP
 by_cases h:T=0
 ·rw [if_pos h,h]
  have:=stp_zero false
  rwa [show patS false 0=0 by decide] at this
 ·rw [if_neg h]
  exact stp_near h
theorem nrP_fx {T:Int} (d:(2 ^ 670:Int) ∣ T) (b:(T.natAbs:Int) <= 2 ^ 1379):Fx 670 1383 (nrP T)∧Un T (iV (nrP T)):=by
 have s:=nrP_stp T
 have hm:(T.natAbs:Int) <= maxV:=Int.le_trans (Int.le_trans b (p2le (by decide))) maxV_ge
 have pk:=s.fin hm
 have nr:=s.nr pk
 have u:=nr_Un nr
 refine ⟨⟨s.rn,pk,nr_dvd nr d,?_⟩,u⟩
 have h2:=h_dbl u
 have h3:(2:Int) ^ 1380=2 * 2 ^ 1379:=p2s 1379
 have h4:(2:Int) ^ 1380 <= 2 ^ 1383:=p2le (by decide)
 generalize (2:Int) ^ 1379=X at *
 generalize (2:Int) ^ 1380=Y at *
 generalize (2:Int) ^ 1383=Z at *
 omega
theorem iV_rg {p q:Int} (hp:rng p) (hq:rng q) (h:iV p=iV q):rg p=rg q:=by
 have a:=iV_abs p
 have b:=iV_abs q
 rw [h] at a
 have e:V Ieee.double (rg p).toNat=V Ieee.double (rg q).toNat:=by omega
 have p0:=(q_rg hp).2
 have q0:=(q_rg hq).2
 rcases Nat.lt_trichotomy (rg p).toNat (rg q).toNat with c | c | c
 ·have:=V_lt Ieee.double c; omega
 ·omega
 ·have:=V_lt Ieee.double c; omega
structure HdV (T h:Int):Prop where
 r:rng h
 p:pok h=true
 v:iV h=iV (nrP T)
theorem HdV.self {T:Int} (f:Fx 670 1383 (nrP T)):HdV T (nrP T):=⟨f.r,f.p,rfl⟩
theorem HdV.g {T h:Int} (f:Fx 670 1383 (nrP T)) (k:HdV T h):rg h=rg (nrP T):=iV_rg k.r f.r k.v
theorem HdV.fx {T h:Int} (f:Fx 670 1383 (nrP T)) (k:HdV T h):Fx 670 1383 h:=⟨k.r,k.p,k.v ▸ f.d,k.v ▸ f.b⟩
theorem near_zero:iV (nrP 0)=0:=by
 unfold nrP; rw [if_pos rfl]
 have:=(zero_facts false).2.2
 rwa [show patS false 0=0 by decide] at this
theorem sum_iV {p q:Int} (hp:rng p) (hq:rng q) (pp:pok p=true) (pq:pok q=true):iV (fsum p q)=iV (nrP (iV p + iV q)):=by
 rw [fsum_eqn hp hq pp pq,patV_iV hp pp,patV_iV hq pq,<- Int.add_mul]
 have hw:=pw_pos (-1074)
 by_cases c:iV p + iV q=0
 ·rw [c,if_pos (by rw [Int.zero_mul]),(zero_facts _).2.2,near_zero]
 ·rw [if_neg (k_ne hw c)]
  unfold nrP
  rw [if_neg c]
def oDet (ax ay bx by' cx cy:Int):Int:=(iV ax - iV cx) * (iV by' - iV cy) - (iV ay - iV cy) * (iV bx - iV cx)
def oL (ax ay bx by' cx cy:Int):Int:=fprod (fsum ax (neg cx)) (fsum by' (neg cy))
def oR (ax ay bx by' cx cy:Int):Int:=fprod (fsum ay (neg cy)) (fsum bx (neg cx))
def oS (ax ay bx by' cx cy:Int):Int:=fsum (rg (oL ax ay bx by' cx cy)) (rg (oR ax ay bx by' cx cy))
def oD (ax ay bx by' cx cy:Int):Int:=fsum (oL ax ay bx by' cx cy) (neg (oR ax ay bx by' cx cy))
def oHT (ax ay bx by' cx cy:Int):Int:=hT (fsum ax (neg cx)) (fsum ay (neg cy)) (fsum bx (neg cx)) (fsum by' (neg cy))
def oTl (ax ay bx by' cx cy:Int):Int:=fsum (fsum (fprod (fsum ax (neg cx)) (sL by' (neg cy))) (fprod (fsum by' (neg cy)) (sL ax (neg cx)))) (neg (fsum (fprod (fsum ay (neg cy)) (sL bx (neg cx))) (fprod (fsum bx (neg cx)) (sL ay (neg cy)))))
def oX (ax ay bx by' cx cy:Int):Bool:=decide (rg (sL ax (neg cx))=0) && decide (rg (sL ay (neg cy))=0) && decide (rg (sL bx (neg cx))=0) && decide (rg (sL by' (neg cy))=0)
def oE (S h:Int):Int:=fsum (fprod oC S) (fprod oK (rg h))
def oStT (ax ay bx by' cx cy:Int):Int :=
 if key (fprod oA (oS ax ay bx by' cx cy)) <= rg (oD ax ay bx by' cx cy) then 1
 else if oX ax ay bx by' cx cy=true∨key (fprod oB (oS ax ay bx by' cx cy)) <= rg (nrP (oHT ax ay bx by' cx cy)) then 2
 else if key (oE (oS ax ay bx by' cx cy) (nrP (oHT ax ay bx by' cx cy))) <= rg (fsum (nrP (oHT ax ay bx by' cx cy)) (oTl ax ay bx by' cx cy)) then 3
 else 4
theorem key_absE {m d:Int} (hm:rng m) (hd:rng d) (h:key m <= rg d):iV m <= ((iV d).natAbs:Int):=by
 obtain ⟨q1,q2⟩:=q_rg hd
 have e:iV (rg d)=((iV d).natAbs:Int):=by
  rw [iV_abs,iV,decide_eq_false (by omega),rg_rg hd]
  rfl
 rw [<- e]
 exact iV_le hm q1 (by rw [q_key q2]; omega)
theorem Un.sgn {Z D:Int} (h:Un Z D):(0 < Z ↔ 0 < D)∧(Z < 0 ↔ D < 0):=by
 have a:=h.1
 have b:=h.2
 omega
theorem rg_iV0 {p:Int} (hp:rng p) (h:rg p=0):iV p=0:=by
 have a:=iV_abs p
 rw [h] at a
 have e:V Ieee.double (0:Int).toNat=0:=by decide
 rw [e] at a
 omega
structure OTm (ax ay bx by' cx cy:Int):Prop where
 u1:Fx 872 1226 (fsum ax (neg cx))
 v1:Fx 872 1226 (fsum ay (neg cy))
 u2:Fx 872 1226 (fsum bx (neg cx))
 v2:Fx 872 1226 (fsum by' (neg cy))
 l:Fx 670 1379 (oL ax ay bx by' cx cy)
 r:Fx 670 1379 (oR ax ay bx by' cx cy)
 s:Fx 670 1381 (oS ax ay bx by' cx cy)
 d:Fx 670 1381 (oD ax ay bx by' cx cy)
 h:Fx 670 1383 (nrP (oHT ax ay bx by' cx cy))
 hu:Un (iV (fsum ax (neg cx)) * iV (fsum by' (neg cy)) - iV (fsum ay (neg cy)) * iV (fsum bx (neg cx))) (2 ^ 1074 * iV (nrP (oHT ax ay bx by' cx cy)))
 t:Fx 670 1383 (oTl ax ay bx by' cx cy)
theorem oTm_of {ax ay bx by' cx cy:Int} (hax:Mz ax) (hay:Mz ay) (hbx:Mz bx) (hby:Mz by') (hcx:Mz cx) (hcy:Mz cy):OTm ax ay bx by' cx cy:=by
 obtain ⟨a1,_⟩:=hax.diff hcx
 obtain ⟨a2,_⟩:=hay.diff hcy
 obtain ⟨a3,_⟩:=hbx.diff hcx
 obtain ⟨a4,_⟩:=hby.diff hcy
 have F:=fltN_of a1 a2 a3 a4
 have hd:=hT_dvd a1 a2 a3 a4
 have hb:=hT_bd a1 a2 a3 a4
 have he:=hT_eq a1 a2 a3 a4
 obtain ⟨nf,nu⟩:=nrP_fx hd hb
 have nu2:=nu.scale (c:=2 ^ 1074) (Int.le_of_lt (p2 1074))
 rw [he] at nu2
 obtain ⟨l1,x1,k1⟩:=hax.lost hcx
 obtain ⟨l2,x2,k2⟩:=hay.lost hcy
 obtain ⟨l3,x3,k3⟩:=hbx.lost hcx
 obtain ⟨l4,x4,k4⟩:=hby.lost hcy
 exact ⟨a1,a2,a3,a4,F.l,F.r,F.s,F.d,nf,nu2,(tlT a1 a2 a3 a4 l1 l2 l3 l4 k1 k2 k3 k4 rfl).1⟩
theorem fx_AS {S:Int} (h:Fx 670 1381 S):Fx 568 1332 (fprod oA S):=(fx_oA.prod h (by decide) (by decide) (by decide)).1
theorem fx_BS {S:Int} (h:Fx 670 1381 S):Fx 566 1331 (fprod oB S):=(fx_oB.prod h (by decide) (by decide) (by decide)).1
theorem fx_CS {S:Int} (h:Fx 670 1381 S):Fx 515 1280 (fprod oC S):=(fx_oC.prod h (by decide) (by decide) (by decide)).1
theorem fx_KH {h:Int} (k:Fx 670 1383 h):Fx 566 1333 (fprod oK (rg h)):=(fx_oK.prod k.abs.1 (by decide) (by decide) (by decide)).1
theorem fx_E {S h:Int} (s:Fx 670 1381 S) (k:Fx 670 1383 h):Fx 515 1335 (oE S h):=(((fx_CS s).up (by decide)).sum ((fx_KH k).dn (by decide)) (by decide)).1
theorem oSt1 {ax ay bx by' cx cy:Int} (hax:Mz ax) (hay:Mz ay) (hbx:Mz bx) (hby:Mz by') (hcx:Mz cx) (hcy:Mz cy) (h:key (fprod oA (oS ax ay bx by' cx cy)) <= rg (oD ax ay bx by' cx cy)) :
  ord (oDet ax ay bx by' cx cy) 0=sgP (oD ax ay bx by' cx cy):=by
 have O:=oTm_of hax hay hbx hby hcx hcy
 obtain ⟨r1,r2⟩:=flt_pat hax hay hbx hby hcx hcy rfl rfl rfl rfl rfl rfl rfl rfl (key_absE (fx_AS O.s).r O.d.r h)
 rw [sgP_iV O.d.r]
 exact ord_iff r1 r2
theorem det_lost {ax ay bx by' cx cy:Int} (hax:Mz ax) (hay:Mz ay) (hbx:Mz bx) (hby:Mz by') (hcx:Mz cx) (hcy:Mz cy) (hx:oX ax ay bx by' cx cy=true) :
  oDet ax ay bx by' cx cy=iV (fsum ax (neg cx)) * iV (fsum by' (neg cy)) - iV (fsum ay (neg cy)) * iV (fsum bx (neg cx)):=by
 unfold oX at hx
 simp only [Bool.and_eq_true,decide_eq_true_eq] at hx
 obtain ⟨⟨⟨g1,g2⟩,g3⟩,g4⟩:=hx
 obtain ⟨l1,x1,_⟩:=hax.lost hcx
 obtain ⟨l2,x2,_⟩:=hay.lost hcy
 obtain ⟨l3,x3,_⟩:=hbx.lost hcx
 obtain ⟨l4,x4,_⟩:=hby.lost hcy
 rw [rg_iV0 l1.r g1,Int.add_zero] at x1
 rw [rg_iV0 l2.r g2,Int.add_zero] at x2
 rw [rg_iV0 l3.r g3,Int.add_zero] at x3
 rw [rg_iV0 l4.r g4,Int.add_zero] at x4
 unfold oDet
 rw [x1,x2,x3,x4]
theorem oSt2 {ax ay bx by' cx cy h:Int} (hax:Mz ax) (hay:Mz ay) (hbx:Mz bx) (hby:Mz by') (hcx:Mz cx) (hcy:Mz cy) (hv:HdV (oHT ax ay bx by' cx cy) h) (c:oX ax ay bx by' cx cy=true∨key (fprod oB (oS ax ay bx by' cx cy)) <= rg h) :
  ord (oDet ax ay bx by' cx cy) 0=sgP h:=by
 have O:=oTm_of hax hay hbx hby hcx hcy
 have hu:=O.hu
 rw [<- hv.v] at hu
 have s:=sc_sgn (x:=iV h) (p2 1074)
 rw [sgP_iV hv.r]
 rcases c with c | c
 ·rw [det_lost hax hay hbx hby hcx hcy c]
  exact ord_iff (hu.sgn.1.trans s.1) (hu.sgn.2.trans s.2)
 ·obtain ⟨r1,r2⟩:=hds_pat hax hay hbx hby hcx hcy rfl rfl rfl rfl rfl rfl rfl hu (key_absE (fx_BS O.s).r hv.r c)
  exact ord_iff r1 r2
theorem oS_pos {ax ay bx by' cx cy:Int} (hax:Mz ax) (hay:Mz ay) (hbx:Mz bx) (hby:Mz by') (hcx:Mz cx) (hcy:Mz cy) (h:¬ key (fprod oA (oS ax ay bx by' cx cy)) <= rg (oD ax ay bx by' cx cy)):0 < iV (oS ax ay bx by' cx cy):=by
 have O:=oTm_of hax hay hbx hby hcx hcy
 have f:=fx_AS O.s
 have d0:=(q_rg O.d.r).2
 have k1:=(iV_key f.r).2.2 (by omega)
 obtain ⟨_,_,T,hT,hU⟩:=fx_oA.prod O.s (by decide) (by decide) (by decide)
 have t1:=hU.sgn.1.2 k1
 have q:0 < iV oA * iV (oS ax ay bx by' cx cy):=by rw [<- hT]; exact Int.mul_pos (p2 1074) t1
 have a0:0 < iV oA:=by rw [iV_oA]; exact Int.mul_pos (by decide) (p2 972)
 exact (sc_sgn (x:=iV (oS ax ay bx by' cx cy)) a0).1.1 q
theorem oSt3 {ax ay bx by' cx cy h:Int} (hax:Mz ax) (hay:Mz ay) (hbx:Mz bx) (hby:Mz by') (hcx:Mz cx) (hcy:Mz cy) (hv:HdV (oHT ax ay bx by' cx cy) h) (h1:¬ key (fprod oA (oS ax ay bx by' cx cy)) <= rg (oD ax ay bx by' cx cy)) (c:key (oE (oS ax ay bx by' cx cy) h) <= rg (fsum h (oTl ax ay bx by' cx cy))) :
  ord (oDet ax ay bx by' cx cy) 0=sgP (fsum h (oTl ax ay bx by' cx cy)):=by
 have O:=oTm_of hax hay hbx hby hcx hcy
 have hu:=O.hu
 rw [<- hv.v] at hu
 have fh:=hv.fx O.h
 have fd:=(fh.sum O.t (by decide)).1
 obtain ⟨r1,r2⟩:=tls_pat hax hay hbx hby hcx hcy rfl rfl rfl rfl rfl rfl rfl fh hu rfl rfl (oS_pos hax hay hbx hby hcx hcy h1) (key_absE (fx_E O.s fh).r fd.r c)
 rw [sgP_iV fd.r]
 exact ord_iff r1 r2
theorem HdV.d {T h t:Int} (f:Fx 670 1383 (nrP T)) (k:HdV T h) (ft:Fx 670 1383 t):rg (fsum h t)=rg (fsum (nrP T) t):=by
 have a:=sum_iV k.r ft.r k.p ft.p
 have b:=sum_iV f.r ft.r f.p ft.p
 rw [k.v] at a
 exact iV_rg (((k.fx f).sum ft (by decide)).1.r) ((f.sum ft (by decide)).1.r) (a.trans b.symm)
theorem HdV.e {T h:Int} (S:Int) (f:Fx 670 1383 (nrP T)) (k:HdV T h):oE S h=oE S (nrP T):=by unfold oE; rw [k.g f]
end Go.Proofs.YtinccocmgkjalaaGreatDoor
