/- Parts of the proof. -/
import Derived.Test.YtjjihmnbdeeedaaGreatDoorKn13
import Derived.Test.YtjjihmnbdeeedaaGreatDoorKn14
import Derived.Test.YtjjihmnbdeeedaaGreatDoorKn12
import Derived.Test.YtjjihmnbdeeedaaGreatDoorKn11
import Derived.Test.YtjjihmnbdeeedaaGreatDoorKn9
import Derived.Test.YtjjihmnbdeeedaaGreatDoorKn4
import Derived.Test.YtjjihmnbdeeedaaGreatDoorKn6
import Derived.Deep.Slices
set_option maxRecDepth 100000
set_option maxHeartbeats 40000000
set_option linter.unusedVariables false
set_option linter.unusedSimpArgs false
namespace Go.Proofs.YtjjihmnbdeeedaaGreatDoor
open Go Go.RowKit Go.Proofs.YtjjihmnbdeeedaaGreatDoor.M
def oqLo (a b c d:Int):Int:=tLo (gLo a b) (gHi a b) (gLo c d) (gHi c d)
def oqHi (a b c d:Int):Int:=tHi (gLo a b) (gHi a b) (gLo c d) (gHi c d)
def owLo (ax ay bx by' cx cy:Int):Int:=eLo (ePlus (eOf (oqLo ax cx by' cy)) (eNeg (eOf (oqHi ay cy bx cx))))
def owHi (ax ay bx by' cx cy:Int):Int:=eHi (ePlus (eOf (oqHi ax cx by' cy)) (eNeg (eOf (oqLo ay cy bx cx))))
theorem oq_okk {a b c d:Int} (ra:rng a) (rb:rng b) (rc:rng c) (rd:rng d) (pa:pok a=true) (pb:pok b=true) (pc:pok c=true) (pd:pok d=true):Okk (oqLo a b c d) (oqHi a b c d) (mulS (patV a-patV b) (patV c-patV d)) :=
 (mulX (okk_pin (gap_okk ra rb pa pb)) (okk_pin (gap_okk rc rd pc pd))).2
theorem ow_okk {ax ay bx by' cx cy:Int} (rax:rng ax) (ray:rng ay) (rbx:rng bx) (rby:rng by') (rcx:rng cx) (rcy:rng cy) (pax:pok ax=true) (pay:pok ay=true) (pbx:pok bx=true) (pby:pok by'=true) (pcx:pok cx=true) (pcy:pok cy=true):Okk (owLo ax ay bx by' cx cy) (owHi ax ay bx by' cx cy) (mulS (patV ax-patV cx) (patV by'-patV cy)-mulS (patV ay-patV cy) (patV bx-patV cx)) :=
 (subX (okk_pin (oq_okk rax rcx rby rcy pax pcx pby pcy)) (okk_pin (oq_okk ray rcy rbx rcx pay pcy pbx pcx))).2
theorem det_X {ax ay bx by' cx cy:Int} (rax:rng ax) (ray:rng ay) (rbx:rng bx) (rby:rng by') (rcx:rng cx) (rcy:rng cy) (pax:pok ax=true) (pay:pok ay=true) (pbx:pok bx=true) (pby:pok by'=true) (pcx:pok cx=true) (pcy:pok cy=true) :
  Det (patV ax-patV cx) (patV ay-patV cy) (patV bx-patV cx) (patV by'-patV cy) (oDet ax ay bx by' cx cy*pw (-2148)):=by
 rw [pat_dif rax rcx pax pcx,pat_dif ray rcy pay pcy,pat_dif rbx rcx pbx pcx,pat_dif rby rcy pby pcy]
 exact ⟨_,_,prod_scale _ _,prod_scale _ _,by unfold oDet; rw [Int.sub_mul]⟩
theorem oWild_ok {ax ay bx by' cx cy:Int} (rax:rng ax) (ray:rng ay) (rbx:rng bx) (rby:rng by') (rcx:rng cx) (rcy:rng cy) (pax:pok ax=true) (pay:pok ay=true) (pbx:pok bx=true) (pby:pok by'=true) (pcx:pok cx=true) (pcy:pok cy=true) (w:World) (H:Hold4 w) :
    Calls Tryz.prog 24 #[.agg #[.int .i64 ax,.int .i64 ay],.agg #[.int .i64 bx,.int .i64 by'],.agg #[.int .i64 cx,.int .i64 cy]] w fun r w'=>r=.returned (.agg #[.int .i64 (ord (oDet ax ay bx by' cx cy) 0),.int .i64 (if sgK (owLo ax ay bx by' cx cy) (owHi ax ay bx by' cx cy) then 5 else 6)])∧Below w.heap.size w w':=by
  have A1:Hid (∀ W,Hold4 W->Calls Tryz.prog 67 #[.int .i64 ax,.int .i64 cx] W fun r w'=>r=.returned (.agg #[.int .i64 (gLo ax cx),.int .i64 (gHi ax cx)])∧Below W.heap.size W w'):=fun W h=>apartSpan rax rcx pax pcx W h
  have A2:Hid (∀ W,Hold4 W->Calls Tryz.prog 67 #[.int .i64 by',.int .i64 cy] W fun r w'=>r=.returned (.agg #[.int .i64 (gLo by' cy),.int .i64 (gHi by' cy)])∧Below W.heap.size W w'):=fun W h=>apartSpan rby rcy pby pcy W h
  have A3:Hid (∀ W,Hold4 W->Calls Tryz.prog 67 #[.int .i64 ay,.int .i64 cy] W fun r w'=>r=.returned (.agg #[.int .i64 (gLo ay cy),.int .i64 (gHi ay cy)])∧Below W.heap.size W w'):=fun W h=>apartSpan ray rcy pay pcy W h
  have A4:Hid (∀ W,Hold4 W->Calls Tryz.prog 67 #[.int .i64 bx,.int .i64 cx] W fun r w'=>r=.returned (.agg #[.int .i64 (gLo bx cx),.int .i64 (gHi bx cx)])∧Below W.heap.size W w'):=fun W h=>apartSpan rbx rcx pbx pcx W h
  have M1:=(mulX (okk_pin (gap_okk rax rcx pax pcx)) (okk_pin (gap_okk rby rcy pby pcy))).1
  have M2:=(mulX (okk_pin (gap_okk ray rcy pay pcy)) (okk_pin (gap_okk rbx rcx pbx pcx))).1
  have S1:=(subX (okk_pin (oq_okk rax rcx rby rcy pax pcx pby pcy)) (okk_pin (oq_okk ray rcy rbx rcx pay pcy pbx pcx))).1
  have ok:=ow_okk rax ray rbx rby rcx rcy pax pay pbx pby pcx pcy
  have hD:=det_X rax ray rbx rby rcx rcy pax pay pbx pby pcx pcy
  have eV:mulS (patV ax-patV cx) (patV by'-patV cy)-mulS (patV ay-patV cy) (patV bx-patV cx)=oDet ax ay bx by' cx cy*pw (-2148):=by
    obtain ⟨C,D,h1,h2,h3⟩:=hD
    rw [h3,mulS_of h1,mulS_of h2]
  rw [eV] at ok
  have hso:=sgn_has ok
  rw [ord_mulP (pw_pos _)] at hso
  have CS:Hid (∀ W,Calls Tryz.prog 69 #[.agg #[.int .i64 (owLo ax ay bx by' cx cy),.int .i64 (owHi ax ay bx by' cx cy)]] W fun e w'=>e=.returned (.tuple #[.int .i64 (sgV (owLo ax ay bx by' cx cy) (owHi ax ay bx by' cx cy)),.bool (sgK (owLo ax ay bx by' cx cy) (owHi ax ay bx by' cx cy)),.int .i64 (errA (vld (owLo ax ay bx by' cx cy) (owHi ax ay bx by' cx cy)))])∧Below W.heap.size W w'):=fun W=>spanSignE ok.lo.1 ok.hi.1 W
  have HSO:Hid (sgK (owLo ax ay bx by' cx cy) (owHi ax ay bx by' cx cy)=true->sgV (owLo ax ay bx by' cx cy) (owHi ax ay bx by' cx cy)=ord (oDet ax ay bx by' cx cy) 0):=hso
  have CX:Hid (∀ W,Hold4 W->Calls Tryz.prog 71 #[.agg #[.int .i64 ax,.int .i64 ay],.agg #[.int .i64 bx,.int .i64 by'],.agg #[.int .i64 cx,.int .i64 cy]] W fun r w'=>∃ n_g n_o n_n n_c n_e,r=.returned (.agg #[.bool n_g,.slice n_o n_n n_c,.int .i64 n_e])∧(∀ W2,Below w'.heap.size w' W2->Calls Tryz.prog 70 #[.agg #[.bool n_g,.slice n_o n_n n_c,.int .i64 n_e]] W2 fun r2 w2=>r2=.returned (.tuple #[.int .i64 (ord (oDet ax ay bx by' cx cy) 0),.int .i64 0])∧Below W2.heap.size W2 w2)∧Below W.heap.size W w'):=fun W h=>by
    refine (oexact_any pax pay pbx pby pcx pcy W h).mono ?_
    rintro _ w3 ⟨v,V,rfl,hA,hV,hB⟩
    obtain ⟨n_g,n_o,n_n,n_c,n_e,rfl⟩:=dans_shape hA
    refine ⟨n_g,n_o,n_n,n_c,n_e,rfl,fun W4 h4=>?_,hA.below⟩
    have:=sign_D (hA.num.keeps h4) (hB.ok (by omega))
    rw [hV.unique hD,ord_mulP (pw_pos _)] at this
    exact this
  clear eV hso ok hD
  clear rax ray rbx rby rcx rcy pax pay pbx pby pcx pcy
  unfold owLo owHi at CS HSO ⊢
  unfold oqLo oqHi at *
  generalize ord (oDet ax ay bx by' cx cy) 0=sgn at *
  generalize sgV (eLo (ePlus (eOf (tLo (gLo ax cx) (gHi ax cx) (gLo by' cy) (gHi by' cy))) (eNeg (eOf (tHi (gLo ay cy) (gHi ay cy) (gLo bx cx) (gHi bx cx)))))) (eHi (ePlus (eOf (tHi (gLo ax cx) (gHi ax cx) (gLo by' cy) (gHi by' cy))) (eNeg (eOf (tLo (gLo ay cy) (gHi ay cy) (gLo bx cx) (gHi bx cx))))))=sgo at *
  generalize sgK (eLo (ePlus (eOf (tLo (gLo ax cx) (gHi ax cx) (gLo by' cy) (gHi by' cy))) (eNeg (eOf (tHi (gLo ay cy) (gHi ay cy) (gLo bx cx) (gHi bx cx)))))) (eHi (ePlus (eOf (tHi (gLo ax cx) (gHi ax cx) (gLo by' cy) (gHi by' cy))) (eNeg (eOf (tLo (gLo ay cy) (gHi ay cy) (gLo bx cx) (gHi bx cx))))))=kb at *
  generalize errA (vld (eLo (ePlus (eOf (tLo (gLo ax cx) (gHi ax cx) (gLo by' cy) (gHi by' cy))) (eNeg (eOf (tHi (gLo ay cy) (gHi ay cy) (gLo bx cx) (gHi bx cx)))))) (eHi (ePlus (eOf (tHi (gLo ax cx) (gHi ax cx) (gLo by' cy) (gHi by' cy))) (eNeg (eOf (tLo (gLo ay cy) (gHi ay cy) (gLo bx cx) (gHi bx cx)))))))=er0 at *
  generalize eLo (ePlus (eOf (tLo (gLo ax cx) (gHi ax cx) (gLo by' cy) (gHi by' cy))) (eNeg (eOf (tHi (gLo ay cy) (gHi ay cy) (gLo bx cx) (gHi bx cx)))))=lo at *
  generalize eHi (ePlus (eOf (tHi (gLo ax cx) (gHi ax cx) (gLo by' cy) (gHi by' cy))) (eNeg (eOf (tLo (gLo ay cy) (gHi ay cy) (gLo bx cx) (gHi bx cx)))))=hi at *
  generalize tLo (gLo ax cx) (gHi ax cx) (gLo by' cy) (gHi by' cy)=l0 at *
  generalize tHi (gLo ax cx) (gHi ax cx) (gLo by' cy) (gHi by' cy)=l1 at *
  generalize tLo (gLo ay cy) (gHi ay cy) (gLo bx cx) (gHi bx cx)=s0 at *
  generalize tHi (gLo ay cy) (gHi ay cy) (gLo bx cx) (gHi bx cx)=s1 at *
  generalize gLo ax cx=a1 at *
  generalize gHi ax cx=b1 at *
  generalize gLo by' cy=a2 at *
  generalize gHi by' cy=b2 at *
  generalize gLo ay cy=a3 at *
  generalize gHi ay cy=b3 at *
  generalize gLo bx cx=a4 at *
  generalize gHi bx cx=b4 at *
  have a_k:(w.alloc (.cells #[.int .i64 ax,.int .i64 ay] 33)).heap[w.heap.size]?=some (.cells #[.int .i64 ax,.int .i64 ay] 33):=heap_new (.cells #[.int .i64 ax,.int .i64 ay] 33) (by rfl)
  have hb0:=bel_alloc w (.cells #[.int .i64 ax,.int .i64 ay] 33)
  replace a_k:=heap_past (.cells #[.int .i64 bx,.int .i64 by'] 33) a_k
  have b_k:((w.alloc (.cells #[.int .i64 ax,.int .i64 ay] 33)).alloc (.cells #[.int .i64 bx,.int .i64 by'] 33)).heap[w.heap.size+1]?=some (.cells #[.int .i64 bx,.int .i64 by'] 33):=heap_new (.cells #[.int .i64 bx,.int .i64 by'] 33) (by simp only [size_alloc])
  replace hb0:=bel_trans hb0 (bel_alloc (w.alloc (.cells #[.int .i64 ax,.int .i64 ay] 33)) (.cells #[.int .i64 bx,.int .i64 by'] 33))
  replace a_k:=heap_past (.cells #[.int .i64 cx,.int .i64 cy] 33) a_k
  replace b_k:=heap_past (.cells #[.int .i64 cx,.int .i64 cy] 33) b_k
  have c_k:(((w.alloc (.cells #[.int .i64 ax,.int .i64 ay] 33)).alloc (.cells #[.int .i64 bx,.int .i64 by'] 33)).alloc (.cells #[.int .i64 cx,.int .i64 cy] 33)).heap[w.heap.size+1+1]?=some (.cells #[.int .i64 cx,.int .i64 cy] 33):=heap_new (.cells #[.int .i64 cx,.int .i64 cy] 33) (by simp only [size_alloc])
  replace hb0:=bel_trans hb0 (bel_alloc ((w.alloc (.cells #[.int .i64 ax,.int .i64 ay] 33)).alloc (.cells #[.int .i64 bx,.int .i64 by'] 33)) (.cells #[.int .i64 cx,.int .i64 cy] 33))
  replace a_k:=heap_past (.cells #[.int .i64 0,.int .i64 0] 28) a_k
  replace b_k:=heap_past (.cells #[.int .i64 0,.int .i64 0] 28) b_k
  replace c_k:=heap_past (.cells #[.int .i64 0,.int .i64 0] 28) c_k
  have r_k:((((w.alloc (.cells #[.int .i64 ax,.int .i64 ay] 33)).alloc (.cells #[.int .i64 bx,.int .i64 by'] 33)).alloc (.cells #[.int .i64 cx,.int .i64 cy] 33)).alloc (.cells #[.int .i64 0,.int .i64 0] 28)).heap[w.heap.size+1+1+1]?=some (.cells #[.int .i64 0,.int .i64 0] 28):=heap_new (.cells #[.int .i64 0,.int .i64 0] 28) (by simp only [size_alloc])
  replace hb0:=bel_trans hb0 (bel_alloc (((w.alloc (.cells #[.int .i64 ax,.int .i64 ay] 33)).alloc (.cells #[.int .i64 bx,.int .i64 by'] 33)).alloc (.cells #[.int .i64 cx,.int .i64 cy] 33)) (.cells #[.int .i64 0,.int .i64 0] 28))
  go_enter Tryz.func24,Tryz.ntmps24
  go_wp2_with fail
  rename_i Q0 K00 hK00
  generalize ((((w.alloc (.cells #[.int .i64 ax,.int .i64 ay] 33)).alloc (.cells #[.int .i64 bx,.int .i64 by'] 33)).alloc (.cells #[.int .i64 cx,.int .i64 cy] 33)).alloc (.cells #[.int .i64 0,.int .i64 0] 28))=x0 at hb0 a_k b_k c_k r_k ⊢
  have H:=H.keeps hb0
  have hK1:=hK00
  have HN1:∀ (g:Nat) (x1:World) (t:Array Value),#[t.getD 0 undef,t.getD 1 undef,t.getD 2 undef,.pointer (some ⟨w.heap.size,0,none⟩),.pointer (some ⟨w.heap.size+1,0,none⟩),.pointer (some ⟨w.heap.size+1+1,0,none⟩),.pointer (some ⟨w.heap.size+1+1+1,0,none⟩),.pointer (some ⟨g,0,none⟩),t.getD 8 undef,t.getD 9 undef,t.getD 10 undef,t.getD 11 undef,t.getD 12 undef,t.getD 13 undef,t.getD 14 undef,t.getD 15 undef,t.getD 16 undef,t.getD 17 undef,t.getD 18 undef,t.getD 19 undef,t.getD 20 undef,t.getD 21 undef,t.getD 22 undef,t.getD 23 undef,t.getD 24 undef,t.getD 25 undef,t.getD 26 undef,t.getD 27 undef,t.getD 28 undef,t.getD 29 undef,t.getD 30 undef,t.getD 31 undef,t.getD 32 undef,t.getD 33 undef,t.getD 34 undef,t.getD 35 undef,t.getD 36 undef,t.getD 37 undef,t.getD 38 undef,t.getD 39 undef,t.getD 40 undef,t.getD 41 undef,t.getD 42 undef,t.getD 43 undef,t.getD 44 undef,t.getD 45 undef,t.getD 46 undef,t.getD 47 undef,t.getD 48 undef,t.getD 49 undef,t.getD 50 undef,t.getD 51 undef,t.getD 52 undef,t.getD 53 undef,t.getD 54 undef,t.getD 55 undef,t.getD 56 undef,t.getD 57 undef,t.getD 58 undef,t.getD 59 undef,t.getD 60 undef,t.getD 61 undef,t.getD 62 undef,t.getD 63 undef,t.getD 64 undef,t.getD 65 undef,t.getD 66 undef,t.getD 67 undef,t.getD 68 undef,t.getD 69 undef,t.getD 70 undef]=t->x0.heap.size<=g->x1.heap[g]?=some (.cells #[.int .i64 l0,.int .i64 l1] 72 (0,0))->Below x0.heap.size x0 x1->Exit.then K00 Q0 Exit.normal { tmps:=t,defers:=[] } x1:=by
    intro g_l x1 t ht l_ge l_k hw1
    obtain ⟨u1,hu⟩:∃ u:Nat->Value,t=#[u 0,u 1,u 2,.pointer (some ⟨w.heap.size,0,none⟩),.pointer (some ⟨w.heap.size+1,0,none⟩),.pointer (some ⟨w.heap.size+1+1,0,none⟩),.pointer (some ⟨w.heap.size+1+1+1,0,none⟩),.pointer (some ⟨g_l,0,none⟩),u 8,u 9,u 10,u 11,u 12,u 13,u 14,u 15,u 16,u 17,u 18,u 19,u 20,u 21,u 22,u 23,u 24,u 25,u 26,u 27,u 28,u 29,u 30,u 31,u 32,u 33,u 34,u 35,u 36,u 37,u 38,u 39,u 40,u 41,u 42,u 43,u 44,u 45,u 46,u 47,u 48,u 49,u 50,u 51,u 52,u 53,u 54,u 55,u 56,u 57,u 58,u 59,u 60,u 61,u 62,u 63,u 64,u 65,u 66,u 67,u 68,u 69,u 70]:=⟨fun k=>t.getD k undef,ht.symm⟩
    clear ht
    subst hu
    have H:=H.keeps hw1
    have a_k:=(hw1.block _ (Array.getElem?_eq_some_iff.1 a_k).1).trans a_k
    have b_k:=(hw1.block _ (Array.getElem?_eq_some_iff.1 b_k).1).trans b_k
    have c_k:=(hw1.block _ (Array.getElem?_eq_some_iff.1 c_k).1).trans c_k
    have r_k:=(hw1.block _ (Array.getElem?_eq_some_iff.1 r_k).1).trans r_k
    have hb1:=bel_trans hb0 hw1
    go_wp2_with fail
    rename_i K2 hK2
    have HN2:∀ (g:Nat) (x2:World) (t:Array Value),#[t.getD 0 undef,t.getD 1 undef,t.getD 2 undef,.pointer (some ⟨w.heap.size,0,none⟩),.pointer (some ⟨w.heap.size+1,0,none⟩),.pointer (some ⟨w.heap.size+1+1,0,none⟩),.pointer (some ⟨w.heap.size+1+1+1,0,none⟩),.pointer (some ⟨g_l,0,none⟩),t.getD 8 undef,.pointer (some ⟨g,0,none⟩),t.getD 10 undef,t.getD 11 undef,t.getD 12 undef,t.getD 13 undef,t.getD 14 undef,t.getD 15 undef,t.getD 16 undef,t.getD 17 undef,t.getD 18 undef,t.getD 19 undef,t.getD 20 undef,t.getD 21 undef,t.getD 22 undef,t.getD 23 undef,t.getD 24 undef,t.getD 25 undef,t.getD 26 undef,t.getD 27 undef,t.getD 28 undef,t.getD 29 undef,t.getD 30 undef,t.getD 31 undef,t.getD 32 undef,t.getD 33 undef,t.getD 34 undef,t.getD 35 undef,t.getD 36 undef,t.getD 37 undef,t.getD 38 undef,t.getD 39 undef,t.getD 40 undef,t.getD 41 undef,t.getD 42 undef,t.getD 43 undef,t.getD 44 undef,t.getD 45 undef,t.getD 46 undef,t.getD 47 undef,t.getD 48 undef,t.getD 49 undef,t.getD 50 undef,t.getD 51 undef,t.getD 52 undef,t.getD 53 undef,t.getD 54 undef,t.getD 55 undef,t.getD 56 undef,t.getD 57 undef,t.getD 58 undef,t.getD 59 undef,t.getD 60 undef,t.getD 61 undef,t.getD 62 undef,t.getD 63 undef,t.getD 64 undef,t.getD 65 undef,t.getD 66 undef,t.getD 67 undef,t.getD 68 undef,t.getD 69 undef,t.getD 70 undef]=t->x1.heap.size<=g->x2.heap[g]?=some (.cells #[.int .i64 s0,.int .i64 s1] 72 (0,0))->Below x1.heap.size x1 x2->Exit.then K2 Q0 Exit.normal { tmps:=t,defers:=[] } x2:=by
      intro g_s x2 t ht s_ge s_k hw2
      obtain ⟨u2,hu⟩:∃ u:Nat->Value,t=#[u 0,u 1,u 2,.pointer (some ⟨w.heap.size,0,none⟩),.pointer (some ⟨w.heap.size+1,0,none⟩),.pointer (some ⟨w.heap.size+1+1,0,none⟩),.pointer (some ⟨w.heap.size+1+1+1,0,none⟩),.pointer (some ⟨g_l,0,none⟩),u 8,.pointer (some ⟨g_s,0,none⟩),u 10,u 11,u 12,u 13,u 14,u 15,u 16,u 17,u 18,u 19,u 20,u 21,u 22,u 23,u 24,u 25,u 26,u 27,u 28,u 29,u 30,u 31,u 32,u 33,u 34,u 35,u 36,u 37,u 38,u 39,u 40,u 41,u 42,u 43,u 44,u 45,u 46,u 47,u 48,u 49,u 50,u 51,u 52,u 53,u 54,u 55,u 56,u 57,u 58,u 59,u 60,u 61,u 62,u 63,u 64,u 65,u 66,u 67,u 68,u 69,u 70]:=⟨fun k=>t.getD k undef,ht.symm⟩
      clear ht
      subst hu
      have H:=H.keeps hw2
      have a_k:=(hw2.block _ (Array.getElem?_eq_some_iff.1 a_k).1).trans a_k
      have b_k:=(hw2.block _ (Array.getElem?_eq_some_iff.1 b_k).1).trans b_k
      have c_k:=(hw2.block _ (Array.getElem?_eq_some_iff.1 c_k).1).trans c_k
      have r_k:=(hw2.block _ (Array.getElem?_eq_some_iff.1 r_k).1).trans r_k
      have l_k:=(hw2.block _ (Array.getElem?_eq_some_iff.1 l_k).1).trans l_k
      have hb2:=bel_trans hb1 hw2
      have f_l0:=blkC l_k 0 rfl
      have f_l1:=blkC l_k 1 rfl
      have f_s0:=blkC s_k 0 rfl
      have f_s1:=blkC s_k 1 rfl
      go_wp2_with fail
      clear f_l0 f_l1 f_s0 f_s1
      refine (S1.out _ H).mono ?_
      rintro _ ye ⟨rfl,hwe⟩
      replace a_k:=heap_past (.cells #[.int .i64 lo,.int .i64 hi] 72) (blk_on hwe a_k)
      replace b_k:=heap_past (.cells #[.int .i64 lo,.int .i64 hi] 72) (blk_on hwe b_k)
      replace c_k:=heap_past (.cells #[.int .i64 lo,.int .i64 hi] 72) (blk_on hwe c_k)
      replace r_k:=heap_past (.cells #[.int .i64 lo,.int .i64 hi] 72) (blk_on hwe r_k)
      replace H:=(H.keeps hwe).keeps (bel_alloc ye (.cells #[.int .i64 lo,.int .i64 hi] 72))
      have hbe:=bel_trans (bel_trans hb2 hwe) (bel_alloc ye (.cells #[.int .i64 lo,.int .i64 hi] 72))
      go_wp2_with fail
      generalize ye.alloc (.cells #[.int .i64 lo,.int .i64 hi] 72)=xe at a_k b_k c_k r_k H hbe ⊢
      refine (CS.out _).mono ?_
      rintro _ yf ⟨rfl,hwf⟩
      replace a_k:=blk_on hwf a_k
      replace b_k:=blk_on hwf b_k
      replace c_k:=blk_on hwf c_k
      replace r_k:=blk_on hwf r_k
      replace hbe:=bel_trans hbe hwf
      replace H:=H.keeps hwf
      cases kb
      · have f_a0:=blkC a_k 0 rfl
        have f_a1:=blkC a_k 1 rfl
        have f_b0:=blkC b_k 0 rfl
        have f_b1:=blkC b_k 1 rfl
        have f_c0:=blkC c_k 0 rfl
        have f_c1:=blkC c_k 1 rfl
        go_wp2_with fail
        clear f_a0 f_a1 f_b0 f_b1 f_c0 f_c1
        refine (CX.out _ H).mono ?_
        rintro _ yg ⟨n_g,n_o,n_n,n_c,n_e,rfl,CG,hwg⟩
        replace r_k:=blk_on hwg r_k
        replace hbe:=bel_trans hbe hwg
        go_wp2_with fail
        refine (CG _ (bel_refl _)).mono ?_
        rintro _ yh ⟨rfl,hwh⟩
        replace r_k:=blk_on hwh r_k
        replace hbe:=bel_trans hbe hwh
        have k0:=blkC r_k 0 rfl
        have k1:=blkC r_k 1 rfl
        have z0:=blkF r_k 0
        have z1:=blkF r_k 1
        go_wp2
        exact bodyPost_ret (v:=.agg #[.int .i64 sgn,.int .i64 6]) (by simp [results,Tryz.results24,go_sem,k0,k1]) rfl ⟨rfl,((hbe.setCell (p:=⟨w.heap.size+3,0,none⟩) (show w.heap.size<=w.heap.size+3 by omega) _).setCell (p:=⟨w.heap.size+3,1,none⟩) (show w.heap.size<=w.heap.size+3 by omega) _)⟩
      · obtain rfl:=HSO.out rfl
        have k0:=blkC r_k 0 rfl
        have k1:=blkC r_k 1 rfl
        have z0:=blkF r_k 0
        have z1:=blkF r_k 1
        go_wp2
        exact bodyPost_ret (v:=.agg #[.int .i64 sgo,.int .i64 5]) (by simp [results,Tryz.results24,go_sem,k0,k1]) rfl ⟨rfl,((hbe.setCell (p:=⟨w.heap.size+3,0,none⟩) (show w.heap.size<=w.heap.size+3 by omega) _).setCell (p:=⟨w.heap.size+3,1,none⟩) (show w.heap.size<=w.heap.size+3 by omega) _)⟩
    have KK2:∀ W,Below x1.heap.size x1 W->W.cell? ⟨w.heap.size,1,none⟩=some (.int .i64 ay)∧W.cell? ⟨w.heap.size+2,1,none⟩=some (.int .i64 cy)∧W.cell? ⟨w.heap.size+1,0,none⟩=some (.int .i64 bx)∧W.cell? ⟨w.heap.size+2,0,none⟩=some (.int .i64 cx):=fun W hb=>⟨q_cell (blkC a_k 1 rfl) hb,q_cell (blkC c_k 1 rfl) hb,q_cell (blkC b_k 0 rfl) hb,q_cell (blkC c_k 0 rfl) hb⟩
    have hC2_0:=(bel_refl x1).drew
    have hT2_0:Below w.heap.size w x1.drew:=hb1.drew
    have H_2_0:=H.keeps (bel_refl x1).drew
    have hs2_0:=(bel_refl x1).drew
    go_region_held3 (fun W=>W.cell? ⟨w.heap.size,1,none⟩=some (.int .i64 ay)∧W.cell? ⟨w.heap.size+2,1,none⟩=some (.int .i64 cy)∧W.cell? ⟨w.heap.size+1,0,none⟩=some (.int .i64 bx)∧W.cell? ⟨w.heap.size+2,0,none⟩=some (.int .i64 cx))
      (with_reducible first | assumption | exact KK2 _ (bel_alloc _ _).drew | exact KK2 _ hC2_0 | exact KK2 _ hC2_1 | exact KK2 _ hC2_2 | exact KK2 _ hC2_3 | exact KK2 _ (bel_trans hC2_0 (bel_alloc _ _)) | exact KK2 _ (bel_trans hC2_1 (bel_alloc _ _)) | exact KK2 _ (bel_trans hC2_2 (bel_alloc _ _)) | exact KK2 _ (bel_trans hC2_3 (bel_alloc _ _)) | exact KK2 _ (bel_set2q (hC2_3) (Nat.le_refl _) _ _) | exact KK2 _ (bel_set2q (hC2_3) (hC2_1.size) _ _) | exact KK2 _ (bel_set2q (hC2_3) (hC2_2.size) _ _) | fail)
      (first
        | (go_at_call 66; have _t:=hs2_2; refine (M2.out _ (H_2_2.keeps (by with_reducible first | exact bel_refl _ | exact bel_alloc _ _ | exact bel_dr _ _))).mono ?_; rintro _ y2_3 ⟨rfl,hq2_3⟩; have hs2_3:Below y2_2.heap.size y2_2 y2_3:=(by with_reducible first | exact hq2_3 | exact bel_trans (bel_alloc _ _) hq2_3 | exact bel_trans (bel_dr _ _) hq2_3); have hT2_3:=bel_trans hT2_2 hs2_3; have hC2_3:=bel_trans hC2_2 hs2_3; have H_2_3:=H_2_2.keeps hs2_3; with_reducible first | (have qz2:y2_3.heap[x1.heap.size]?=some (.cells #[.int .i64 0,.int .i64 0] 72 (0,0)):=blk_on hq2_3 (blk_on hq2_2 (blk_on hq2_1 (heap_a1d x1 (.cells #[.int .i64 0,.int .i64 0] 72)))); have cz2_0:=blkC qz2 0 rfl; have zz2_0:=blkF qz2 0; have cz2_1:=blkC qz2 1 rfl; have zz2_1:=blkF qz2 1) | (have qz2:y2_3.heap[y2_1.heap.size]?=some (.cells #[.int .i64 0,.int .i64 0] 72 (0,0)):=blk_on hq2_3 (blk_on hq2_2 (heap_a1 _ _)); have cz2_0:=blkC qz2 0 rfl; have zz2_0:=blkF qz2 0; have cz2_1:=blkC qz2 1 rfl; have zz2_1:=blkF qz2 1) | (have qz2:y2_3.heap[y2_2.heap.size]?=some (.cells #[.int .i64 0,.int .i64 0] 72 (0,0)):=blk_on hq2_3 (heap_a1 _ _); have cz2_0:=blkC qz2 0 rfl; have zz2_0:=blkF qz2 0; have cz2_1:=blkC qz2 1 rfl; have zz2_1:=blkF qz2 1) | skip)
        | (go_at_call 67; have _t:=hs2_1; refine (A4.out _ (H_2_1.keeps (by with_reducible first | exact bel_refl _ | exact bel_alloc _ _ | exact bel_dr _ _))).mono ?_; rintro _ y2_2 ⟨rfl,hq2_2⟩; have hs2_2:Below y2_1.heap.size y2_1 y2_2:=(by with_reducible first | exact hq2_2 | exact bel_trans (bel_alloc _ _) hq2_2 | exact bel_trans (bel_dr _ _) hq2_2); have hT2_2:=bel_trans hT2_1 hs2_2; have hC2_2:=bel_trans hC2_1 hs2_2; have H_2_2:=H_2_1.keeps hs2_2)
        | (go_at_call 67; refine (A3.out _ (H_2_0.keeps (by with_reducible first | exact bel_refl _ | exact bel_alloc _ _ | exact bel_dr _ _))).mono ?_; rintro _ y2_1 ⟨rfl,hq2_1⟩; have hs2_1:Below x1.drew.heap.size x1.drew y2_1:=(by with_reducible first | exact hq2_1 | exact bel_trans (bel_alloc _ _) hq2_1 | exact bel_trans (bel_dr _ _) hq2_1); have hT2_1:=bel_trans hT2_0 hs2_1; have hC2_1:=bel_trans hC2_0 hs2_1; have H_2_1:=H_2_0.keeps hs2_1))
    · exact HN2 y2_3.heap.size _ _ (by kernel_rfl) ((bel_trans (bel_trans (bel_trans (hs2_0) hs2_1) hs2_2) hs2_3).size) (heap_a1 _ _) (bel_trans (bel_trans (bel_trans (bel_trans (hs2_0) hs2_1) hs2_2) hs2_3) (bel_alloc _ _))
    · exact HN2 y2_2.heap.size _ _ (by kernel_rfl) ((bel_trans (bel_trans (hs2_0) hs2_1) hs2_2).size) (heap_set (heap_set (blk_on hq2_3 (heap_a1 _ _)) 0 _) 1 _) (bel_set2q (bel_trans (bel_trans (bel_trans (hs2_0) hs2_1) hs2_2) hs2_3) ((bel_trans (bel_trans (hs2_0) hs2_1) hs2_2).size) _ _)
    · exact HN2 y2_1.heap.size _ _ (by kernel_rfl) ((bel_trans (hs2_0) hs2_1).size) (heap_set (heap_set (blk_on hq2_3 (blk_on hq2_2 (heap_a1 _ _))) 0 _) 1 _) (bel_set2q (bel_trans (bel_trans (bel_trans (hs2_0) hs2_1) hs2_2) hs2_3) ((bel_trans (hs2_0) hs2_1).size) _ _)
    · exact HN2 x1.heap.size _ _ (by kernel_rfl) (Nat.le_refl _) (heap_set (heap_set (blk_on hq2_3 (blk_on hq2_2 (blk_on hq2_1 (heap_a1d x1 (.cells #[.int .i64 0,.int .i64 0] 72))))) 0 _) 1 _) (bel_set2q (bel_trans (bel_trans (bel_trans (hs2_0) hs2_1) hs2_2) hs2_3) (Nat.le_refl _) _ _)
  have KK1:∀ W,Below x0.heap.size x0 W->W.cell? ⟨w.heap.size,0,none⟩=some (.int .i64 ax)∧W.cell? ⟨w.heap.size+2,0,none⟩=some (.int .i64 cx)∧W.cell? ⟨w.heap.size+1,1,none⟩=some (.int .i64 by')∧W.cell? ⟨w.heap.size+2,1,none⟩=some (.int .i64 cy):=fun W hb=>⟨q_cell (blkC a_k 0 rfl) hb,q_cell (blkC c_k 0 rfl) hb,q_cell (blkC b_k 1 rfl) hb,q_cell (blkC c_k 1 rfl) hb⟩
  have hC1_0:=(bel_refl x0).drew
  have hT1_0:Below w.heap.size w x0.drew:=hb0.drew
  have H_1_0:=H.keeps (bel_refl x0).drew
  have hs1_0:=(bel_refl x0).drew
  go_region_held3 (fun W=>W.cell? ⟨w.heap.size,0,none⟩=some (.int .i64 ax)∧W.cell? ⟨w.heap.size+2,0,none⟩=some (.int .i64 cx)∧W.cell? ⟨w.heap.size+1,1,none⟩=some (.int .i64 by')∧W.cell? ⟨w.heap.size+2,1,none⟩=some (.int .i64 cy))
    (with_reducible first | assumption | exact KK1 _ (bel_alloc _ _).drew | exact KK1 _ hC1_0 | exact KK1 _ hC1_1 | exact KK1 _ hC1_2 | exact KK1 _ hC1_3 | exact KK1 _ (bel_trans hC1_0 (bel_alloc _ _)) | exact KK1 _ (bel_trans hC1_1 (bel_alloc _ _)) | exact KK1 _ (bel_trans hC1_2 (bel_alloc _ _)) | exact KK1 _ (bel_trans hC1_3 (bel_alloc _ _)) | exact KK1 _ (bel_set2q (hC1_3) (Nat.le_refl _) _ _) | exact KK1 _ (bel_set2q (hC1_3) (hC1_1.size) _ _) | exact KK1 _ (bel_set2q (hC1_3) (hC1_2.size) _ _) | fail)
    (first
      | (go_at_call 66; have _t:=hs1_2; refine (M1.out _ (H_1_2.keeps (by with_reducible first | exact bel_refl _ | exact bel_alloc _ _ | exact bel_dr _ _))).mono ?_; rintro _ y1_3 ⟨rfl,hq1_3⟩; have hs1_3:Below y1_2.heap.size y1_2 y1_3:=(by with_reducible first | exact hq1_3 | exact bel_trans (bel_alloc _ _) hq1_3 | exact bel_trans (bel_dr _ _) hq1_3); have hT1_3:=bel_trans hT1_2 hs1_3; have hC1_3:=bel_trans hC1_2 hs1_3; have H_1_3:=H_1_2.keeps hs1_3; with_reducible first | (have qz1:y1_3.heap[x0.heap.size]?=some (.cells #[.int .i64 0,.int .i64 0] 72 (0,0)):=blk_on hq1_3 (blk_on hq1_2 (blk_on hq1_1 (heap_a1d x0 (.cells #[.int .i64 0,.int .i64 0] 72)))); have cz1_0:=blkC qz1 0 rfl; have zz1_0:=blkF qz1 0; have cz1_1:=blkC qz1 1 rfl; have zz1_1:=blkF qz1 1) | (have qz1:y1_3.heap[y1_1.heap.size]?=some (.cells #[.int .i64 0,.int .i64 0] 72 (0,0)):=blk_on hq1_3 (blk_on hq1_2 (heap_a1 _ _)); have cz1_0:=blkC qz1 0 rfl; have zz1_0:=blkF qz1 0; have cz1_1:=blkC qz1 1 rfl; have zz1_1:=blkF qz1 1) | (have qz1:y1_3.heap[y1_2.heap.size]?=some (.cells #[.int .i64 0,.int .i64 0] 72 (0,0)):=blk_on hq1_3 (heap_a1 _ _); have cz1_0:=blkC qz1 0 rfl; have zz1_0:=blkF qz1 0; have cz1_1:=blkC qz1 1 rfl; have zz1_1:=blkF qz1 1) | skip)
      | (go_at_call 67; have _t:=hs1_1; refine (A2.out _ (H_1_1.keeps (by with_reducible first | exact bel_refl _ | exact bel_alloc _ _ | exact bel_dr _ _))).mono ?_; rintro _ y1_2 ⟨rfl,hq1_2⟩; have hs1_2:Below y1_1.heap.size y1_1 y1_2:=(by with_reducible first | exact hq1_2 | exact bel_trans (bel_alloc _ _) hq1_2 | exact bel_trans (bel_dr _ _) hq1_2); have hT1_2:=bel_trans hT1_1 hs1_2; have hC1_2:=bel_trans hC1_1 hs1_2; have H_1_2:=H_1_1.keeps hs1_2)
      | (go_at_call 67; refine (A1.out _ (H_1_0.keeps (by with_reducible first | exact bel_refl _ | exact bel_alloc _ _ | exact bel_dr _ _))).mono ?_; rintro _ y1_1 ⟨rfl,hq1_1⟩; have hs1_1:Below x0.drew.heap.size x0.drew y1_1:=(by with_reducible first | exact hq1_1 | exact bel_trans (bel_alloc _ _) hq1_1 | exact bel_trans (bel_dr _ _) hq1_1); have hT1_1:=bel_trans hT1_0 hs1_1; have hC1_1:=bel_trans hC1_0 hs1_1; have H_1_1:=H_1_0.keeps hs1_1))
  · exact HN1 y1_3.heap.size _ _ (by kernel_rfl) ((bel_trans (bel_trans (bel_trans (hs1_0) hs1_1) hs1_2) hs1_3).size) (heap_a1 _ _) (bel_trans (bel_trans (bel_trans (bel_trans (hs1_0) hs1_1) hs1_2) hs1_3) (bel_alloc _ _))
  · exact HN1 y1_2.heap.size _ _ (by kernel_rfl) ((bel_trans (bel_trans (hs1_0) hs1_1) hs1_2).size) (heap_set (heap_set (blk_on hq1_3 (heap_a1 _ _)) 0 _) 1 _) (bel_set2q (bel_trans (bel_trans (bel_trans (hs1_0) hs1_1) hs1_2) hs1_3) ((bel_trans (bel_trans (hs1_0) hs1_1) hs1_2).size) _ _)
  · exact HN1 y1_1.heap.size _ _ (by kernel_rfl) ((bel_trans (hs1_0) hs1_1).size) (heap_set (heap_set (blk_on hq1_3 (blk_on hq1_2 (heap_a1 _ _))) 0 _) 1 _) (bel_set2q (bel_trans (bel_trans (bel_trans (hs1_0) hs1_1) hs1_2) hs1_3) ((bel_trans (hs1_0) hs1_1).size) _ _)
  · exact HN1 x0.heap.size _ _ (by kernel_rfl) (Nat.le_refl _) (heap_set (heap_set (blk_on hq1_3 (blk_on hq1_2 (blk_on hq1_1 (heap_a1d x0 (.cells #[.int .i64 0,.int .i64 0] 72))))) 0 _) 1 _) (bel_set2q (bel_trans (bel_trans (bel_trans (hs1_0) hs1_1) hs1_2) hs1_3) (Nat.le_refl _) _ _)
theorem opoints_any {ax ay bx by' cx cy:Int} (rax:rng ax) (ray:rng ay) (rbx:rng bx) (rby:rng by') (rcx:rng cx) (rcy:rng cy) (w:World) :
  Calls Tryz.prog 23 #[.agg #[.int .i64 ax,.int .i64 ay],.agg #[.int .i64 bx,.int .i64 by'],.agg #[.int .i64 cx,.int .i64 cy]] w fun r w'=>r=.returned (.bool ((pok ax && pok ay) && (pok bx && pok by') && (pok cx && pok cy)))∧Below w.heap.size w w':=by
 have CA:Hid (∀ W,Calls Tryz.prog 65 #[.agg #[.int .i64 ax,.int .i64 ay]] W fun e w'=>e=.returned (.int .i64 (errF (pok ax && pok ay)))∧Below W.heap.size W w'):=fun W=>pointCheck rax ray W
 have CB:Hid (∀ W,Calls Tryz.prog 65 #[.agg #[.int .i64 bx,.int .i64 by']] W fun e w'=>e=.returned (.int .i64 (errF (pok bx && pok by')))∧Below W.heap.size W w'):=fun W=>pointCheck rbx rby W
 have CC:Hid (∀ W,Calls Tryz.prog 65 #[.agg #[.int .i64 cx,.int .i64 cy]] W fun e w'=>e=.returned (.int .i64 (errF (pok cx && pok cy)))∧Below W.heap.size W w'):=fun W=>pointCheck rcx rcy W
 have hb0:=bel_a3 w (.cells #[.int .i64 ax,.int .i64 ay] 33) (.cells #[.int .i64 bx,.int .i64 by'] 33) (.cells #[.int .i64 cx,.int .i64 cy] 33)
 have a_k:=h3_0 w (.cells #[.int .i64 ax,.int .i64 ay] 33) (.cells #[.int .i64 bx,.int .i64 by'] 33) (.cells #[.int .i64 cx,.int .i64 cy] 33)
 have b_k:=h3_1 w (.cells #[.int .i64 ax,.int .i64 ay] 33) (.cells #[.int .i64 bx,.int .i64 by'] 33) (.cells #[.int .i64 cx,.int .i64 cy] 33)
 have c_k:=h3_2 w (.cells #[.int .i64 ax,.int .i64 ay] 33) (.cells #[.int .i64 bx,.int .i64 by'] 33) (.cells #[.int .i64 cx,.int .i64 cy] 33)
 clear rax ray rbx rby rcx rcy
 have e0:errF true=0:=rfl
 have e1:errF false=10:=rfl
 generalize (pok ax && pok ay)=P at *
 generalize (pok bx && pok by')=Q at *
 generalize (pok cx && pok cy)=R at *
 cases P
 ·rw [e1] at CA
  go_enter Tryz.func23,Tryz.ntmps23
  go_wp2_with fail
  generalize ((w.alloc (.cells #[.int .i64 ax,.int .i64 ay] 33)).alloc (.cells #[.int .i64 bx,.int .i64 by'] 33)).alloc (.cells #[.int .i64 cx,.int .i64 cy] 33)=x0 at hb0 a_k b_k c_k ⊢
  refine (CA.out _).mono ?_
  rintro _ y0 ⟨rfl,hw0⟩
  have b_k:=(hw0.block _ (Array.getElem?_eq_some_iff.1 b_k).1).trans b_k
  have c_k:=(hw0.block _ (Array.getElem?_eq_some_iff.1 c_k).1).trans c_k
  have hb1:=bel_trans hb0 hw0
  go_wp2
  all_goals go_ret
  all_goals exact ⟨rfl,by first | exact hb1 | exact hb1.drew⟩
 rw [e0] at CA
 cases Q
 ·rw [e1] at CB
  go_enter Tryz.func23,Tryz.ntmps23
  go_wp2_with fail
  generalize ((w.alloc (.cells #[.int .i64 ax,.int .i64 ay] 33)).alloc (.cells #[.int .i64 bx,.int .i64 by'] 33)).alloc (.cells #[.int .i64 cx,.int .i64 cy] 33)=x0 at hb0 a_k b_k c_k ⊢
  refine (CA.out _).mono ?_
  rintro _ y0 ⟨rfl,hw0⟩
  have b_k:=(hw0.block _ (Array.getElem?_eq_some_iff.1 b_k).1).trans b_k
  have c_k:=(hw0.block _ (Array.getElem?_eq_some_iff.1 c_k).1).trans c_k
  have hb1:=bel_trans hb0 hw0
  have f10:=blkC b_k 0 rfl
  have f11:=blkC b_k 1 rfl
  go_wp2_with fail
  refine (CB.out _).mono ?_
  rintro _ y1 ⟨rfl,hw1⟩
  have c_k:=(hw1.block _ (Array.getElem?_eq_some_iff.1 c_k).1).trans c_k
  have hb2:=bel_trans hb1 hw1
  go_wp2
  all_goals go_ret
  all_goals exact ⟨rfl,by first | exact hb2 | exact hb2.drew⟩
 rw [e0] at CB
 cases R
 ·rw [e1] at CC
  go_enter Tryz.func23,Tryz.ntmps23
  go_wp2_with fail
  generalize ((w.alloc (.cells #[.int .i64 ax,.int .i64 ay] 33)).alloc (.cells #[.int .i64 bx,.int .i64 by'] 33)).alloc (.cells #[.int .i64 cx,.int .i64 cy] 33)=x0 at hb0 a_k b_k c_k ⊢
  refine (CA.out _).mono ?_
  rintro _ y0 ⟨rfl,hw0⟩
  have b_k:=(hw0.block _ (Array.getElem?_eq_some_iff.1 b_k).1).trans b_k
  have c_k:=(hw0.block _ (Array.getElem?_eq_some_iff.1 c_k).1).trans c_k
  have hb1:=bel_trans hb0 hw0
  have f10:=blkC b_k 0 rfl
  have f11:=blkC b_k 1 rfl
  go_wp2_with fail
  refine (CB.out _).mono ?_
  rintro _ y1 ⟨rfl,hw1⟩
  have c_k:=(hw1.block _ (Array.getElem?_eq_some_iff.1 c_k).1).trans c_k
  have hb2:=bel_trans hb1 hw1
  have f20:=blkC c_k 0 rfl
  have f21:=blkC c_k 1 rfl
  go_wp2_with fail
  refine (CC.out _).mono ?_
  rintro _ y2 ⟨rfl,hw2⟩
  have hb3:=bel_trans hb2 hw2
  go_wp2
  all_goals go_ret
  all_goals exact ⟨rfl,by first | exact hb3 | exact hb3.drew⟩
 ·rw [e0] at CC
  go_enter Tryz.func23,Tryz.ntmps23
  go_wp2_with fail
  generalize ((w.alloc (.cells #[.int .i64 ax,.int .i64 ay] 33)).alloc (.cells #[.int .i64 bx,.int .i64 by'] 33)).alloc (.cells #[.int .i64 cx,.int .i64 cy] 33)=x0 at hb0 a_k b_k c_k ⊢
  refine (CA.out _).mono ?_
  rintro _ y0 ⟨rfl,hw0⟩
  have b_k:=(hw0.block _ (Array.getElem?_eq_some_iff.1 b_k).1).trans b_k
  have c_k:=(hw0.block _ (Array.getElem?_eq_some_iff.1 c_k).1).trans c_k
  have hb1:=bel_trans hb0 hw0
  have f10:=blkC b_k 0 rfl
  have f11:=blkC b_k 1 rfl
  go_wp2_with fail
  refine (CB.out _).mono ?_
  rintro _ y1 ⟨rfl,hw1⟩
  have c_k:=(hw1.block _ (Array.getElem?_eq_some_iff.1 c_k).1).trans c_k
  have hb2:=bel_trans hb1 hw1
  have f20:=blkC c_k 0 rfl
  have f21:=blkC c_k 1 rfl
  go_wp2_with fail
  refine (CC.out _).mono ?_
  rintro _ y2 ⟨rfl,hw2⟩
  have hb3:=bel_trans hb2 hw2
  go_wp2
  all_goals go_ret
  all_goals exact ⟨rfl,by first | exact hb3 | exact hb3.drew⟩
def oSt (ax ay bx by' cx cy:Int):Int:=if allT3 ax ay bx by' cx cy then oStT ax ay bx by' cx cy else if sgK (owLo ax ay bx by' cx cy) (owHi ax ay bx by' cx cy) then 5 else 6
theorem oSign_walk {ax ay bx by' cx cy V U:Int} {b1 b2 b3:Bool} (hb:(b1 && b2 && b3)=true) (T1:∀ W,Calls Tryz.prog 21 #[.agg #[.int .i64 ax,.int .i64 ay]] W fun e w'=>e=.returned (.bool b1)∧Below W.heap.size W w') (T2:∀ W,Calls Tryz.prog 21 #[.agg #[.int .i64 bx,.int .i64 by']] W fun e w'=>e=.returned (.bool b2)∧Below W.heap.size W w') (T3:∀ W,Calls Tryz.prog 21 #[.agg #[.int .i64 cx,.int .i64 cy]] W fun e w'=>e=.returned (.bool b3)∧Below W.heap.size W w')
  (CV:∀ W,Hold4 W->Calls Tryz.prog 22 #[.agg #[.int .i64 ax,.int .i64 ay],.agg #[.int .i64 bx,.int .i64 by'],.agg #[.int .i64 cx,.int .i64 cy]] W fun r w'=>r=.returned (.agg #[.int .i64 V,.int .i64 U])∧Below W.heap.size W w') (w:World) (H:Hold4 w) :
  Calls Tryz.prog 7 #[.agg #[.int .i64 ax,.int .i64 ay],.agg #[.int .i64 bx,.int .i64 by'],.agg #[.int .i64 cx,.int .i64 cy]] w fun r w'=>r=.returned (.tuple #[.agg #[.int .i64 V,.int .i64 U],.int .i64 0])∧Below w.heap.size w w':=by
 obtain ⟨⟨rfl,rfl⟩,rfl⟩:(b1=true∧b2=true)∧b3=true:=by simpa using hb
 clear hb
 have h1:Hid _:=hideIt T1
 have h2:Hid _:=hideIt T2
 have h3:Hid _:=hideIt T3
 have h4:Hid _:=hideIt CV
 clear T1 T2 T3 CV
 obtain ⟨hb0,a_k,b_k,c_k,r_k,hsz0⟩:=blks4 w (.cells #[.int .i64 ax,.int .i64 ay] 33) (.cells #[.int .i64 bx,.int .i64 by'] 33) (.cells #[.int .i64 cx,.int .i64 cy] 33) (.cells #[.int .i64 0,.int .i64 0] 28)
 clear hsz0
 have f_a0:=blkC a_k 0 rfl
 have f_a1:=blkC a_k 1 rfl
 go_enter Tryz.func7,Tryz.ntmps7
 go_wp2_with fail
 clear f_a0 f_a1
 generalize ((((w.alloc (.cells #[.int .i64 ax,.int .i64 ay] 33)).alloc (.cells #[.int .i64 bx,.int .i64 by'] 33)).alloc (.cells #[.int .i64 cx,.int .i64 cy] 33)).alloc (.cells #[.int .i64 0,.int .i64 0] 28))=x0 at hb0 a_k b_k c_k r_k ⊢
 refine (h1.out _).mono ?_
 rintro _ y1 ⟨rfl,hw1⟩
 replace a_k:=blk_on hw1 a_k
 replace b_k:=blk_on hw1 b_k
 replace c_k:=blk_on hw1 c_k
 replace r_k:=blk_on hw1 r_k
 replace hb0:=bel_trans hb0 hw1
 have f_b0:=blkC b_k 0 rfl
 have f_b1:=blkC b_k 1 rfl
 go_wp2_with fail
 clear f_b0 f_b1
 refine (h2.out _).mono ?_
 rintro _ y2 ⟨rfl,hw2⟩
 replace a_k:=blk_on hw2 a_k
 replace b_k:=blk_on hw2 b_k
 replace c_k:=blk_on hw2 c_k
 replace r_k:=blk_on hw2 r_k
 replace hb0:=bel_trans hb0 hw2
 have f_c0:=blkC c_k 0 rfl
 have f_c1:=blkC c_k 1 rfl
 go_wp2_with fail
 clear f_c0 f_c1
 refine (h3.out _).mono ?_
 rintro _ y3 ⟨rfl,hw3⟩
 replace a_k:=blk_on hw3 a_k
 replace b_k:=blk_on hw3 b_k
 replace c_k:=blk_on hw3 c_k
 replace r_k:=blk_on hw3 r_k
 replace hb0:=bel_trans hb0 hw3
 have f_a0:=blkC a_k 0 rfl
 have f_a1:=blkC a_k 1 rfl
 have f_b0:=blkC b_k 0 rfl
 have f_b1:=blkC b_k 1 rfl
 have f_c0:=blkC c_k 0 rfl
 have f_c1:=blkC c_k 1 rfl
 go_wp2_with fail
 clear f_a0 f_a1 f_b0 f_b1 f_c0 f_c1
 replace H:=H.keeps hb0
 refine (h4.out _ H).mono ?_
 rintro _ y4 ⟨rfl,hw4⟩
 replace r_k:=blk_on hw4 r_k
 replace hb0:=bel_trans hb0 hw4
 have k0:=blkC r_k 0 rfl
 have k1:=blkC r_k 1 rfl
 have z0:=blkF r_k 0
 have z1:=blkF r_k 1
 go_wp2
 exact bodyPost_ret (v:=.tuple #[.agg #[.int .i64 V,.int .i64 U],.int .i64 0]) (by simp [results,Tryz.results7,go_sem,k0,k1]) rfl ⟨rfl,((hb0.setCell (p:=⟨w.heap.size+1+1+1,0,none⟩) (show w.heap.size<=w.heap.size+1+1+1 by omega) _).setCell (p:=⟨w.heap.size+1+1+1,1,none⟩) (show w.heap.size<=w.heap.size+1+1+1 by omega) _)⟩
theorem oSign_none {ax ay bx by' cx cy V U:Int} {b1 b2 b3:Bool} (hb:(b1 && b2 && b3)=false) (T1:∀ W,Calls Tryz.prog 21 #[.agg #[.int .i64 ax,.int .i64 ay]] W fun e w'=>e=.returned (.bool b1)∧Below W.heap.size W w') (T2:∀ W,Calls Tryz.prog 21 #[.agg #[.int .i64 bx,.int .i64 by']] W fun e w'=>e=.returned (.bool b2)∧Below W.heap.size W w') (T3:∀ W,Calls Tryz.prog 21 #[.agg #[.int .i64 cx,.int .i64 cy]] W fun e w'=>e=.returned (.bool b3)∧Below W.heap.size W w')
  (CP:∀ W,Calls Tryz.prog 23 #[.agg #[.int .i64 ax,.int .i64 ay],.agg #[.int .i64 bx,.int .i64 by'],.agg #[.int .i64 cx,.int .i64 cy]] W fun r w'=>r=.returned (.bool false)∧Below W.heap.size W w') (w:World) (H:Hold4 w) :
  Calls Tryz.prog 7 #[.agg #[.int .i64 ax,.int .i64 ay],.agg #[.int .i64 bx,.int .i64 by'],.agg #[.int .i64 cx,.int .i64 cy]] w fun r w'=>r=.returned (.tuple #[.agg #[.int .i64 0,.int .i64 0],.int .i64 10])∧Below w.heap.size w w':=by
 have h1:Hid _:=hideIt T1
 have h2:Hid _:=hideIt T2
 have h3:Hid _:=hideIt T3
 have h5:Hid _:=hideIt CP
 clear T1 T2 T3 CP
 cases b1
 ·clear h2 h3
  obtain ⟨hb0,a_k,b_k,c_k,r_k,hsz0⟩:=blks4 w (.cells #[.int .i64 ax,.int .i64 ay] 33) (.cells #[.int .i64 bx,.int .i64 by'] 33) (.cells #[.int .i64 cx,.int .i64 cy] 33) (.cells #[.int .i64 0,.int .i64 0] 28)
  clear hsz0
  have f_a0:=blkC a_k 0 rfl
  have f_a1:=blkC a_k 1 rfl
  go_enter Tryz.func7,Tryz.ntmps7
  go_wp2_with fail
  clear f_a0 f_a1
  generalize ((((w.alloc (.cells #[.int .i64 ax,.int .i64 ay] 33)).alloc (.cells #[.int .i64 bx,.int .i64 by'] 33)).alloc (.cells #[.int .i64 cx,.int .i64 cy] 33)).alloc (.cells #[.int .i64 0,.int .i64 0] 28))=x0 at hb0 a_k b_k c_k r_k ⊢
  refine (h1.out _).mono ?_
  rintro _ y1 ⟨rfl,hw1⟩
  replace a_k:=blk_on hw1 a_k
  replace b_k:=blk_on hw1 b_k
  replace c_k:=blk_on hw1 c_k
  replace r_k:=blk_on hw1 r_k
  replace hb0:=bel_trans hb0 hw1
  have f_a0:=blkC a_k 0 rfl
  have f_a1:=blkC a_k 1 rfl
  have f_b0:=blkC b_k 0 rfl
  have f_b1:=blkC b_k 1 rfl
  have f_c0:=blkC c_k 0 rfl
  have f_c1:=blkC c_k 1 rfl
  go_wp2_with fail
  clear f_a0 f_a1 f_b0 f_b1 f_c0 f_c1
  refine (h5.out _).mono ?_
  rintro _ y5 ⟨rfl,hw5⟩
  replace a_k:=blk_on hw5 a_k
  replace b_k:=blk_on hw5 b_k
  replace c_k:=blk_on hw5 c_k
  replace r_k:=blk_on hw5 r_k
  replace hb0:=bel_trans hb0 hw5
  have k0:=blkC r_k 0 rfl
  have k1:=blkC r_k 1 rfl
  have z0:=blkF r_k 0
  have z1:=blkF r_k 1
  go_wp2
  exact bodyPost_ret (v:=.tuple #[.agg #[.int .i64 0,.int .i64 0],.int .i64 10]) (by simp [results,Tryz.results7,go_sem,k0,k1]) rfl ⟨rfl,((hb0.setCell (p:=⟨w.heap.size+1+1+1,0,none⟩) (show w.heap.size<=w.heap.size+1+1+1 by omega) _).setCell (p:=⟨w.heap.size+1+1+1,1,none⟩) (show w.heap.size<=w.heap.size+1+1+1 by omega) _)⟩
 cases b2
 ·clear h3
  obtain ⟨hb0,a_k,b_k,c_k,r_k,hsz0⟩:=blks4 w (.cells #[.int .i64 ax,.int .i64 ay] 33) (.cells #[.int .i64 bx,.int .i64 by'] 33) (.cells #[.int .i64 cx,.int .i64 cy] 33) (.cells #[.int .i64 0,.int .i64 0] 28)
  clear hsz0
  have f_a0:=blkC a_k 0 rfl
  have f_a1:=blkC a_k 1 rfl
  go_enter Tryz.func7,Tryz.ntmps7
  go_wp2_with fail
  clear f_a0 f_a1
  generalize ((((w.alloc (.cells #[.int .i64 ax,.int .i64 ay] 33)).alloc (.cells #[.int .i64 bx,.int .i64 by'] 33)).alloc (.cells #[.int .i64 cx,.int .i64 cy] 33)).alloc (.cells #[.int .i64 0,.int .i64 0] 28))=x0 at hb0 a_k b_k c_k r_k ⊢
  refine (h1.out _).mono ?_
  rintro _ y1 ⟨rfl,hw1⟩
  replace a_k:=blk_on hw1 a_k
  replace b_k:=blk_on hw1 b_k
  replace c_k:=blk_on hw1 c_k
  replace r_k:=blk_on hw1 r_k
  replace hb0:=bel_trans hb0 hw1
  have f_b0:=blkC b_k 0 rfl
  have f_b1:=blkC b_k 1 rfl
  go_wp2_with fail
  clear f_b0 f_b1
  refine (h2.out _).mono ?_
  rintro _ y2 ⟨rfl,hw2⟩
  replace a_k:=blk_on hw2 a_k
  replace b_k:=blk_on hw2 b_k
  replace c_k:=blk_on hw2 c_k
  replace r_k:=blk_on hw2 r_k
  replace hb0:=bel_trans hb0 hw2
  have f_a0:=blkC a_k 0 rfl
  have f_a1:=blkC a_k 1 rfl
  have f_b0:=blkC b_k 0 rfl
  have f_b1:=blkC b_k 1 rfl
  have f_c0:=blkC c_k 0 rfl
  have f_c1:=blkC c_k 1 rfl
  go_wp2_with fail
  clear f_a0 f_a1 f_b0 f_b1 f_c0 f_c1
  refine (h5.out _).mono ?_
  rintro _ y5 ⟨rfl,hw5⟩
  replace a_k:=blk_on hw5 a_k
  replace b_k:=blk_on hw5 b_k
  replace c_k:=blk_on hw5 c_k
  replace r_k:=blk_on hw5 r_k
  replace hb0:=bel_trans hb0 hw5
  have k0:=blkC r_k 0 rfl
  have k1:=blkC r_k 1 rfl
  have z0:=blkF r_k 0
  have z1:=blkF r_k 1
  go_wp2
  exact bodyPost_ret (v:=.tuple #[.agg #[.int .i64 0,.int .i64 0],.int .i64 10]) (by simp [results,Tryz.results7,go_sem,k0,k1]) rfl ⟨rfl,((hb0.setCell (p:=⟨w.heap.size+1+1+1,0,none⟩) (show w.heap.size<=w.heap.size+1+1+1 by omega) _).setCell (p:=⟨w.heap.size+1+1+1,1,none⟩) (show w.heap.size<=w.heap.size+1+1+1 by omega) _)⟩
 cases b3
 ·skip
  obtain ⟨hb0,a_k,b_k,c_k,r_k,hsz0⟩:=blks4 w (.cells #[.int .i64 ax,.int .i64 ay] 33) (.cells #[.int .i64 bx,.int .i64 by'] 33) (.cells #[.int .i64 cx,.int .i64 cy] 33) (.cells #[.int .i64 0,.int .i64 0] 28)
  clear hsz0
  have f_a0:=blkC a_k 0 rfl
  have f_a1:=blkC a_k 1 rfl
  go_enter Tryz.func7,Tryz.ntmps7
  go_wp2_with fail
  clear f_a0 f_a1
  generalize ((((w.alloc (.cells #[.int .i64 ax,.int .i64 ay] 33)).alloc (.cells #[.int .i64 bx,.int .i64 by'] 33)).alloc (.cells #[.int .i64 cx,.int .i64 cy] 33)).alloc (.cells #[.int .i64 0,.int .i64 0] 28))=x0 at hb0 a_k b_k c_k r_k ⊢
  refine (h1.out _).mono ?_
  rintro _ y1 ⟨rfl,hw1⟩
  replace a_k:=blk_on hw1 a_k
  replace b_k:=blk_on hw1 b_k
  replace c_k:=blk_on hw1 c_k
  replace r_k:=blk_on hw1 r_k
  replace hb0:=bel_trans hb0 hw1
  have f_b0:=blkC b_k 0 rfl
  have f_b1:=blkC b_k 1 rfl
  go_wp2_with fail
  clear f_b0 f_b1
  refine (h2.out _).mono ?_
  rintro _ y2 ⟨rfl,hw2⟩
  replace a_k:=blk_on hw2 a_k
  replace b_k:=blk_on hw2 b_k
  replace c_k:=blk_on hw2 c_k
  replace r_k:=blk_on hw2 r_k
  replace hb0:=bel_trans hb0 hw2
  have f_c0:=blkC c_k 0 rfl
  have f_c1:=blkC c_k 1 rfl
  go_wp2_with fail
  clear f_c0 f_c1
  refine (h3.out _).mono ?_
  rintro _ y3 ⟨rfl,hw3⟩
  replace a_k:=blk_on hw3 a_k
  replace b_k:=blk_on hw3 b_k
  replace c_k:=blk_on hw3 c_k
  replace r_k:=blk_on hw3 r_k
  replace hb0:=bel_trans hb0 hw3
  have f_a0:=blkC a_k 0 rfl
  have f_a1:=blkC a_k 1 rfl
  have f_b0:=blkC b_k 0 rfl
  have f_b1:=blkC b_k 1 rfl
  have f_c0:=blkC c_k 0 rfl
  have f_c1:=blkC c_k 1 rfl
  go_wp2_with fail
  clear f_a0 f_a1 f_b0 f_b1 f_c0 f_c1
  refine (h5.out _).mono ?_
  rintro _ y5 ⟨rfl,hw5⟩
  replace a_k:=blk_on hw5 a_k
  replace b_k:=blk_on hw5 b_k
  replace c_k:=blk_on hw5 c_k
  replace r_k:=blk_on hw5 r_k
  replace hb0:=bel_trans hb0 hw5
  have k0:=blkC r_k 0 rfl
  have k1:=blkC r_k 1 rfl
  have z0:=blkF r_k 0
  have z1:=blkF r_k 1
  go_wp2
  exact bodyPost_ret (v:=.tuple #[.agg #[.int .i64 0,.int .i64 0],.int .i64 10]) (by simp [results,Tryz.results7,go_sem,k0,k1]) rfl ⟨rfl,((hb0.setCell (p:=⟨w.heap.size+1+1+1,0,none⟩) (show w.heap.size<=w.heap.size+1+1+1 by omega) _).setCell (p:=⟨w.heap.size+1+1+1,1,none⟩) (show w.heap.size<=w.heap.size+1+1+1 by omega) _)⟩
 ·simp at hb
theorem oSign_wild {ax ay bx by' cx cy V U:Int} {b1 b2 b3:Bool} (hb:(b1 && b2 && b3)=false) (T1:∀ W,Calls Tryz.prog 21 #[.agg #[.int .i64 ax,.int .i64 ay]] W fun e w'=>e=.returned (.bool b1)∧Below W.heap.size W w') (T2:∀ W,Calls Tryz.prog 21 #[.agg #[.int .i64 bx,.int .i64 by']] W fun e w'=>e=.returned (.bool b2)∧Below W.heap.size W w') (T3:∀ W,Calls Tryz.prog 21 #[.agg #[.int .i64 cx,.int .i64 cy]] W fun e w'=>e=.returned (.bool b3)∧Below W.heap.size W w')
  (CP:∀ W,Calls Tryz.prog 23 #[.agg #[.int .i64 ax,.int .i64 ay],.agg #[.int .i64 bx,.int .i64 by'],.agg #[.int .i64 cx,.int .i64 cy]] W fun r w'=>r=.returned (.bool true)∧Below W.heap.size W w')
  (CV:∀ W,Hold4 W->Calls Tryz.prog 24 #[.agg #[.int .i64 ax,.int .i64 ay],.agg #[.int .i64 bx,.int .i64 by'],.agg #[.int .i64 cx,.int .i64 cy]] W fun r w'=>r=.returned (.agg #[.int .i64 V,.int .i64 U])∧Below W.heap.size W w') (w:World) (H:Hold4 w) :
  Calls Tryz.prog 7 #[.agg #[.int .i64 ax,.int .i64 ay],.agg #[.int .i64 bx,.int .i64 by'],.agg #[.int .i64 cx,.int .i64 cy]] w fun r w'=>r=.returned (.tuple #[.agg #[.int .i64 V,.int .i64 U],.int .i64 0])∧Below w.heap.size w w':=by
 have h1:Hid _:=hideIt T1
 have h2:Hid _:=hideIt T2
 have h3:Hid _:=hideIt T3
 have h5:Hid _:=hideIt CP
 have h4:Hid _:=hideIt CV
 clear T1 T2 T3 CP CV
 cases b1
 ·clear h2 h3
  obtain ⟨hb0,a_k,b_k,c_k,r_k,hsz0⟩:=blks4 w (.cells #[.int .i64 ax,.int .i64 ay] 33) (.cells #[.int .i64 bx,.int .i64 by'] 33) (.cells #[.int .i64 cx,.int .i64 cy] 33) (.cells #[.int .i64 0,.int .i64 0] 28)
  clear hsz0
  have f_a0:=blkC a_k 0 rfl
  have f_a1:=blkC a_k 1 rfl
  go_enter Tryz.func7,Tryz.ntmps7
  go_wp2_with fail
  clear f_a0 f_a1
  generalize ((((w.alloc (.cells #[.int .i64 ax,.int .i64 ay] 33)).alloc (.cells #[.int .i64 bx,.int .i64 by'] 33)).alloc (.cells #[.int .i64 cx,.int .i64 cy] 33)).alloc (.cells #[.int .i64 0,.int .i64 0] 28))=x0 at hb0 a_k b_k c_k r_k ⊢
  refine (h1.out _).mono ?_
  rintro _ y1 ⟨rfl,hw1⟩
  replace a_k:=blk_on hw1 a_k
  replace b_k:=blk_on hw1 b_k
  replace c_k:=blk_on hw1 c_k
  replace r_k:=blk_on hw1 r_k
  replace hb0:=bel_trans hb0 hw1
  have f_a0:=blkC a_k 0 rfl
  have f_a1:=blkC a_k 1 rfl
  have f_b0:=blkC b_k 0 rfl
  have f_b1:=blkC b_k 1 rfl
  have f_c0:=blkC c_k 0 rfl
  have f_c1:=blkC c_k 1 rfl
  go_wp2_with fail
  clear f_a0 f_a1 f_b0 f_b1 f_c0 f_c1
  refine (h5.out _).mono ?_
  rintro _ y5 ⟨rfl,hw5⟩
  replace a_k:=blk_on hw5 a_k
  replace b_k:=blk_on hw5 b_k
  replace c_k:=blk_on hw5 c_k
  replace r_k:=blk_on hw5 r_k
  replace hb0:=bel_trans hb0 hw5
  have f_a0:=blkC a_k 0 rfl
  have f_a1:=blkC a_k 1 rfl
  have f_b0:=blkC b_k 0 rfl
  have f_b1:=blkC b_k 1 rfl
  have f_c0:=blkC c_k 0 rfl
  have f_c1:=blkC c_k 1 rfl
  go_wp2_with fail
  clear f_a0 f_a1 f_b0 f_b1 f_c0 f_c1
  replace H:=H.keeps hb0
  refine (h4.out _ H).mono ?_
  rintro _ y4 ⟨rfl,hw4⟩
  replace r_k:=blk_on hw4 r_k
  replace hb0:=bel_trans hb0 hw4
  have k0:=blkC r_k 0 rfl
  have k1:=blkC r_k 1 rfl
  have z0:=blkF r_k 0
  have z1:=blkF r_k 1
  go_wp2
  exact bodyPost_ret (v:=.tuple #[.agg #[.int .i64 V,.int .i64 U],.int .i64 0]) (by simp [results,Tryz.results7,go_sem,k0,k1]) rfl ⟨rfl,((hb0.setCell (p:=⟨w.heap.size+1+1+1,0,none⟩) (show w.heap.size<=w.heap.size+1+1+1 by omega) _).setCell (p:=⟨w.heap.size+1+1+1,1,none⟩) (show w.heap.size<=w.heap.size+1+1+1 by omega) _)⟩
 cases b2
 ·clear h3
  obtain ⟨hb0,a_k,b_k,c_k,r_k,hsz0⟩:=blks4 w (.cells #[.int .i64 ax,.int .i64 ay] 33) (.cells #[.int .i64 bx,.int .i64 by'] 33) (.cells #[.int .i64 cx,.int .i64 cy] 33) (.cells #[.int .i64 0,.int .i64 0] 28)
  clear hsz0
  have f_a0:=blkC a_k 0 rfl
  have f_a1:=blkC a_k 1 rfl
  go_enter Tryz.func7,Tryz.ntmps7
  go_wp2_with fail
  clear f_a0 f_a1
  generalize ((((w.alloc (.cells #[.int .i64 ax,.int .i64 ay] 33)).alloc (.cells #[.int .i64 bx,.int .i64 by'] 33)).alloc (.cells #[.int .i64 cx,.int .i64 cy] 33)).alloc (.cells #[.int .i64 0,.int .i64 0] 28))=x0 at hb0 a_k b_k c_k r_k ⊢
  refine (h1.out _).mono ?_
  rintro _ y1 ⟨rfl,hw1⟩
  replace a_k:=blk_on hw1 a_k
  replace b_k:=blk_on hw1 b_k
  replace c_k:=blk_on hw1 c_k
  replace r_k:=blk_on hw1 r_k
  replace hb0:=bel_trans hb0 hw1
  have f_b0:=blkC b_k 0 rfl
  have f_b1:=blkC b_k 1 rfl
  go_wp2_with fail
  clear f_b0 f_b1
  refine (h2.out _).mono ?_
  rintro _ y2 ⟨rfl,hw2⟩
  replace a_k:=blk_on hw2 a_k
  replace b_k:=blk_on hw2 b_k
  replace c_k:=blk_on hw2 c_k
  replace r_k:=blk_on hw2 r_k
  replace hb0:=bel_trans hb0 hw2
  have f_a0:=blkC a_k 0 rfl
  have f_a1:=blkC a_k 1 rfl
  have f_b0:=blkC b_k 0 rfl
  have f_b1:=blkC b_k 1 rfl
  have f_c0:=blkC c_k 0 rfl
  have f_c1:=blkC c_k 1 rfl
  go_wp2_with fail
  clear f_a0 f_a1 f_b0 f_b1 f_c0 f_c1
  refine (h5.out _).mono ?_
  rintro _ y5 ⟨rfl,hw5⟩
  replace a_k:=blk_on hw5 a_k
  replace b_k:=blk_on hw5 b_k
  replace c_k:=blk_on hw5 c_k
  replace r_k:=blk_on hw5 r_k
  replace hb0:=bel_trans hb0 hw5
  have f_a0:=blkC a_k 0 rfl
  have f_a1:=blkC a_k 1 rfl
  have f_b0:=blkC b_k 0 rfl
  have f_b1:=blkC b_k 1 rfl
  have f_c0:=blkC c_k 0 rfl
  have f_c1:=blkC c_k 1 rfl
  go_wp2_with fail
  clear f_a0 f_a1 f_b0 f_b1 f_c0 f_c1
  replace H:=H.keeps hb0
  refine (h4.out _ H).mono ?_
  rintro _ y4 ⟨rfl,hw4⟩
  replace r_k:=blk_on hw4 r_k
  replace hb0:=bel_trans hb0 hw4
  have k0:=blkC r_k 0 rfl
  have k1:=blkC r_k 1 rfl
  have z0:=blkF r_k 0
  have z1:=blkF r_k 1
  go_wp2
  exact bodyPost_ret (v:=.tuple #[.agg #[.int .i64 V,.int .i64 U],.int .i64 0]) (by simp [results,Tryz.results7,go_sem,k0,k1]) rfl ⟨rfl,((hb0.setCell (p:=⟨w.heap.size+1+1+1,0,none⟩) (show w.heap.size<=w.heap.size+1+1+1 by omega) _).setCell (p:=⟨w.heap.size+1+1+1,1,none⟩) (show w.heap.size<=w.heap.size+1+1+1 by omega) _)⟩
 cases b3
 ·skip
  obtain ⟨hb0,a_k,b_k,c_k,r_k,hsz0⟩:=blks4 w (.cells #[.int .i64 ax,.int .i64 ay] 33) (.cells #[.int .i64 bx,.int .i64 by'] 33) (.cells #[.int .i64 cx,.int .i64 cy] 33) (.cells #[.int .i64 0,.int .i64 0] 28)
  clear hsz0
  have f_a0:=blkC a_k 0 rfl
  have f_a1:=blkC a_k 1 rfl
  go_enter Tryz.func7,Tryz.ntmps7
  go_wp2_with fail
  clear f_a0 f_a1
  generalize ((((w.alloc (.cells #[.int .i64 ax,.int .i64 ay] 33)).alloc (.cells #[.int .i64 bx,.int .i64 by'] 33)).alloc (.cells #[.int .i64 cx,.int .i64 cy] 33)).alloc (.cells #[.int .i64 0,.int .i64 0] 28))=x0 at hb0 a_k b_k c_k r_k ⊢
  refine (h1.out _).mono ?_
  rintro _ y1 ⟨rfl,hw1⟩
  replace a_k:=blk_on hw1 a_k
  replace b_k:=blk_on hw1 b_k
  replace c_k:=blk_on hw1 c_k
  replace r_k:=blk_on hw1 r_k
  replace hb0:=bel_trans hb0 hw1
  have f_b0:=blkC b_k 0 rfl
  have f_b1:=blkC b_k 1 rfl
  go_wp2_with fail
  clear f_b0 f_b1
  refine (h2.out _).mono ?_
  rintro _ y2 ⟨rfl,hw2⟩
  replace a_k:=blk_on hw2 a_k
  replace b_k:=blk_on hw2 b_k
  replace c_k:=blk_on hw2 c_k
  replace r_k:=blk_on hw2 r_k
  replace hb0:=bel_trans hb0 hw2
  have f_c0:=blkC c_k 0 rfl
  have f_c1:=blkC c_k 1 rfl
  go_wp2_with fail
  clear f_c0 f_c1
  refine (h3.out _).mono ?_
  rintro _ y3 ⟨rfl,hw3⟩
  replace a_k:=blk_on hw3 a_k
  replace b_k:=blk_on hw3 b_k
  replace c_k:=blk_on hw3 c_k
  replace r_k:=blk_on hw3 r_k
  replace hb0:=bel_trans hb0 hw3
  have f_a0:=blkC a_k 0 rfl
  have f_a1:=blkC a_k 1 rfl
  have f_b0:=blkC b_k 0 rfl
  have f_b1:=blkC b_k 1 rfl
  have f_c0:=blkC c_k 0 rfl
  have f_c1:=blkC c_k 1 rfl
  go_wp2_with fail
  clear f_a0 f_a1 f_b0 f_b1 f_c0 f_c1
  refine (h5.out _).mono ?_
  rintro _ y5 ⟨rfl,hw5⟩
  replace a_k:=blk_on hw5 a_k
  replace b_k:=blk_on hw5 b_k
  replace c_k:=blk_on hw5 c_k
  replace r_k:=blk_on hw5 r_k
  replace hb0:=bel_trans hb0 hw5
  have f_a0:=blkC a_k 0 rfl
  have f_a1:=blkC a_k 1 rfl
  have f_b0:=blkC b_k 0 rfl
  have f_b1:=blkC b_k 1 rfl
  have f_c0:=blkC c_k 0 rfl
  have f_c1:=blkC c_k 1 rfl
  go_wp2_with fail
  clear f_a0 f_a1 f_b0 f_b1 f_c0 f_c1
  replace H:=H.keeps hb0
  refine (h4.out _ H).mono ?_
  rintro _ y4 ⟨rfl,hw4⟩
  replace r_k:=blk_on hw4 r_k
  replace hb0:=bel_trans hb0 hw4
  have k0:=blkC r_k 0 rfl
  have k1:=blkC r_k 1 rfl
  have z0:=blkF r_k 0
  have z1:=blkF r_k 1
  go_wp2
  exact bodyPost_ret (v:=.tuple #[.agg #[.int .i64 V,.int .i64 U],.int .i64 0]) (by simp [results,Tryz.results7,go_sem,k0,k1]) rfl ⟨rfl,((hb0.setCell (p:=⟨w.heap.size+1+1+1,0,none⟩) (show w.heap.size<=w.heap.size+1+1+1 by omega) _).setCell (p:=⟨w.heap.size+1+1+1,1,none⟩) (show w.heap.size<=w.heap.size+1+1+1 by omega) _)⟩
 ·simp at hb
theorem allT3_eq (ax ay bx by' cx cy:Int):allT3 ax ay bx by' cx cy=((tame ax && tame ay) && (tame bx && tame by') && (tame cx && tame cy)):=rfl
theorem oSign_ok {ax ay bx by' cx cy:Int} (rax:rng ax) (ray:rng ay) (rbx:rng bx) (rby:rng by') (rcx:rng cx) (rcy:rng cy) (pax:pok ax=true) (pay:pok ay=true) (pbx:pok bx=true) (pby:pok by'=true) (pcx:pok cx=true) (pcy:pok cy=true) (w:World) (H:Hold4 w) :
  Calls Tryz.prog 7 #[.agg #[.int .i64 ax,.int .i64 ay],.agg #[.int .i64 bx,.int .i64 by'],.agg #[.int .i64 cx,.int .i64 cy]] w fun r w'=>r=.returned (.tuple #[.agg #[.int .i64 (ord (oDet ax ay bx by' cx cy) 0),.int .i64 (oSt ax ay bx by' cx cy)],.int .i64 0])∧Below w.heap.size w w':=by
 cases hT:allT3 ax ay bx by' cx cy
 ·have CP:∀ W,Calls Tryz.prog 23 #[.agg #[.int .i64 ax,.int .i64 ay],.agg #[.int .i64 bx,.int .i64 by'],.agg #[.int .i64 cx,.int .i64 cy]] W fun r w'=>r=.returned (.bool true)∧Below W.heap.size W w':=fun W=>by
   have:=opoints_any rax ray rbx rby rcx rcy W
   rw [pax,pay,pbx,pby,pcx,pcy] at this
   exact this
  have e:oSt ax ay bx by' cx cy=if sgK (owLo ax ay bx by' cx cy) (owHi ax ay bx by' cx cy) then 5 else 6:=by unfold oSt; rw [hT]; rfl
  rw [e]
  exact oSign_wild (hT ▸ (allT3_eq ax ay bx by' cx cy).symm) (fun W=>o_tame rax ray W) (fun W=>o_tame rbx rby W) (fun W=>o_tame rcx rcy W) CP (fun W h=>oWild_ok rax ray rbx rby rcx rcy pax pay pbx pby pcx pcy W h) w H
 ·obtain ⟨hax,hay,hbx,hby,hcx,hcy⟩:=tame3 rax ray rbx rby rcx rcy hT
  have e:oSt ax ay bx by' cx cy=oStT ax ay bx by' cx cy:=by unfold oSt; rw [hT]; rfl
  rw [e]
  exact oSign_walk (hT ▸ (allT3_eq ax ay bx by' cx cy).symm) (fun W=>o_tame rax ray W) (fun W=>o_tame rbx rby W) (fun W=>o_tame rcx rcy W) (fun W h=>oTame_ok hax hay hbx hby hcx hcy W h) w H
theorem oSign_no {ax ay bx by' cx cy:Int} (rax:rng ax) (ray:rng ay) (rbx:rng bx) (rby:rng by') (rcx:rng cx) (rcy:rng cy) (hno:((pok ax && pok ay) && (pok bx && pok by') && (pok cx && pok cy))=false) (w:World) (H:Hold4 w) :
  Calls Tryz.prog 7 #[.agg #[.int .i64 ax,.int .i64 ay],.agg #[.int .i64 bx,.int .i64 by'],.agg #[.int .i64 cx,.int .i64 cy]] w fun r w'=>r=.returned (.tuple #[.agg #[.int .i64 0,.int .i64 0],.int .i64 10])∧Below w.heap.size w w':=by
 have hT:allT3 ax ay bx by' cx cy=false:=by
  cases h:allT3 ax ay bx by' cx cy
  ·rfl
  ·obtain ⟨hax,hay,hbx,hby,hcx,hcy⟩:=tame3 rax ray rbx rby rcx rcy h
   rw [hax.2.1,hay.2.1,hbx.2.1,hby.2.1,hcx.2.1,hcy.2.1] at hno
   cases hno
 have CP:∀ W,Calls Tryz.prog 23 #[.agg #[.int .i64 ax,.int .i64 ay],.agg #[.int .i64 bx,.int .i64 by'],.agg #[.int .i64 cx,.int .i64 cy]] W fun r w'=>r=.returned (.bool false)∧Below W.heap.size W w':=fun W=>by
  have:=opoints_any rax ray rbx rby rcx rcy W
  rw [hno] at this
  exact this
 exact oSign_none (V:=0) (U:=0) (hT ▸ (allT3_eq ax ay bx by' cx cy).symm) (fun W=>o_tame rax ray W) (fun W=>o_tame rbx rby W) (fun W=>o_tame rcx rcy W) CP w H
theorem q0_same {x:Int} (hx:rng x) (px:pok x=true):rng (q0 x)∧pok (q0 x)=true∧iV (q0 x)=iV x∧patV (q0 x)=patV x∧tame (q0 x)=tame x:=by
 unfold q0
 by_cases h:x=-9223372036854775808
 ·subst h
  rw [if_pos rfl]
  have i1:iV (-9223372036854775808)=0:=rg_iV0 hx (by decide)
  have i2:iV 0=0:=rg_iV0 (by unfold rng; decide) (by decide)
  refine ⟨by unfold rng; decide,by decide,by rw [i1,i2],?_,by decide⟩
  rw [patV_iV (by unfold rng; decide) (by decide),patV_iV hx px,i1,i2]
 ·rw [if_neg h]
  exact ⟨hx,px,rfl,rfl,rfl⟩
theorem Mz.q0 {x:Int} (h:Mz x):Mz (q0 x)∧iV (q0 x)=iV x:=by
 obtain ⟨r,p,v,_,_⟩:=q0_same h.1 h.2.1
 exact ⟨⟨r,p,v ▸ h.2.2.1,v ▸ h.2.2.2⟩,v⟩
def dk (px py:Nat->Int) (a b c:Nat):Int:=oDet (px a) (py a) (px b) (py b) (px c) (py c)
theorem k_in (px py:Nat->Int) (p q r t:Nat):dk px py t q r+dk px py p t r+dk px py p q t=dk px py p q r:=by
 unfold dk oDet
 grind
theorem k_tr (px py:Nat->Int) (p q r s t:Nat):dk px py t s q*dk px py t p r=dk px py t s r*dk px py t p q+dk px py t s p*dk px py t q r:=by
 unfold dk oDet
 grind
def Kn (px py:Nat->Int) (F:Nat->Nat->Nat->Bool) (N:Nat):Prop:=∀ a b c,a<5->b<5->c<5->a≠b->b≠c->a≠c->a*25+b*5+c<N->F a b c=decide (0<dk px py a b c)∧dk px py a b c≠0
theorem Kn.pos {px py:Nat->Int} {F:Nat->Nat->Nat->Bool} (h:Kn px py F 125) {a b c:Nat} (ha:a<5) (hb:b<5) (hc:c<5) (ab:a≠b) (bc:b≠c) (ac:a≠c):F a b c=true ↔ 0<dk px py a b c:=by
 rw [(h a b c ha hb hc ab bc ac (by omega)).1]
 exact decide_eq_true_iff
theorem Kn.law1 {px py:Nat->Int} {F:Nat->Nat->Nat->Bool} (h:Kn px py F 125) {p q r t:Nat} (hp:p<5) (hq:q<5) (hr:r<5) (ht:t<5) (pq:p≠q) (pr:p≠r) (pt:p≠t) (qr:q≠r) (qt:q≠t) (rt:r≠t) (h1:F t q r=true) (h2:F p t r=true) (h3:F p q t=true):F p q r=true:=by
 have a1:=(h.pos ht hq hr (Ne.symm qt) qr (Ne.symm rt)).1 h1
 have a2:=(h.pos hp ht hr pt (Ne.symm rt) pr).1 h2
 have a3:=(h.pos hp hq ht pq qt pt).1 h3
 have e:=k_in px py p q r t
 exact (h.pos hp hq hr pq qr pr).2 (by omega)
theorem Kn.law2 {px py:Nat->Int} {F:Nat->Nat->Nat->Bool} (h:Kn px py F 125) {p q r s t:Nat} (hp:p<5) (hq:q<5) (hr:r<5) (hs:s<5) (ht:t<5) (pq:p≠q) (pr:p≠r) (ps:p≠s) (pt:p≠t) (qr:q≠r) (qs:q≠s) (qt:q≠t) (rs:r≠s) (rt:r≠t) (st:s≠t)
  (h1:F t s p=true) (h2:F t s q=true) (h3:F t s r=true) (h4:F t p q=true) (h5:F t q r=true):F t p r=true:=by
 have a1:=(h.pos ht hs hp (Ne.symm st) (Ne.symm ps) (Ne.symm pt)).1 h1
 have a2:=(h.pos ht hs hq (Ne.symm st) (Ne.symm qs) (Ne.symm qt)).1 h2
 have a3:=(h.pos ht hs hr (Ne.symm st) (Ne.symm rs) (Ne.symm rt)).1 h3
 have a4:=(h.pos ht hp hq (Ne.symm pt) pq (Ne.symm qt)).1 h4
 have a5:=(h.pos ht hq hr (Ne.symm qt) qr (Ne.symm rt)).1 h5
 have e:=k_tr px py p q r s t
 have b1:=Int.mul_pos a3 a4
 have b2:=Int.mul_pos a1 a5
 refine (h.pos ht hp hr (Ne.symm pt) pr (Ne.symm rt)).2 ?_
 apply Int.lt_of_not_ge
 intro c
 have:=Int.mul_nonpos_of_nonneg_of_nonpos (Int.le_of_lt a2) c
 omega
structure Bk (arr:Array Value) (F:Nat->Nat->Nat->Bool):Prop where
 n:arr.size=125
 e:∀ a b c,a<5->b<5->c<5->arr[a*25+b*5+c]?=some (.bool (F a b c))
theorem Bk.set {arr:Array Value} {F:Nat->Nat->Nat->Bool} (h:Bk arr F) {a b c:Nat} (ha:a<5) (hb:b<5) (hc:c<5) (x:Bool):Bk (arr.setIfInBounds (a*25+b*5+c) (.bool x)) (fun i j k=>if i=a∧j=b∧k=c then x else F i j k):=by
 have hn:=h.n
 refine ⟨by simp only [Array.size_setIfInBounds]; exact hn,fun i j k hi hj hk=>?_⟩
 rw [Array.getElem?_setIfInBounds]
 by_cases e:a*25+b*5+c=i*25+j*5+k
 ·have:i=a∧j=b∧k=c:=by omega
  rw [if_pos e,if_pos (by omega),if_pos this]
 ·rw [if_neg e,if_neg (fun q=>e (by obtain ⟨rfl,rfl,rfl⟩:=q; rfl))]
  exact h.e i j k hi hj hk
theorem Kn.same {px py:Nat->Int} {F:Nat->Nat->Nat->Bool} {a b c N:Nat} (h:Kn px py F N) (hN:N=a*25+b*5+c) (hb:b<5) (hc:c<5) (e:a=b∨b=c∨a=c):Kn px py F (N+1):=fun i j k hi hj hk ij jk ik hl=>by
 by_cases q:i*25+j*5+k<N
 ·exact h i j k hi hj hk ij jk ik q
 ·have:i=a∧j=b∧k=c:=by omega
  omega
theorem Kn.step {px py:Nat->Int} {F:Nat->Nat->Nat->Bool} {a b c N:Nat} (h:Kn px py F N) (hN:N=a*25+b*5+c) (hb:b<5) (hc:c<5) {x:Bool} (hx:x=decide (0<dk px py a b c)) (h0:dk px py a b c≠0):Kn px py (fun i j k=>if i=a∧j=b∧k=c then x else F i j k) (N+1):=fun i j k hi hj hk ij jk ik hl=>by
 by_cases q:i=a∧j=b∧k=c
 ·obtain ⟨rfl,rfl,rfl⟩:=q
  simp only [and_self,if_true]
  exact ⟨hx,h0⟩
 ·simp only [if_neg q]
  exact h i j k hi hj hk ij jk ik (by omega)
structure Pm (c:Nat->Int):Prop where
 r:∀ j,j<5->0<=c j∧c j<5
 d:∀ a b,a<5->b<5->a≠b->c a≠c b
theorem Pm.comp {c:Nat->Int} (h:Pm c) (s:Nat->Nat) (hs:∀ j,j<5->s j<5) (hi:∀ a b,a<5->b<5->a≠b->s a≠s b):Pm (fun j=>c (s j)) :=
 ⟨fun j hj=>h.r _ (hs j hj),fun a b ha hb hn=>h.d _ _ (hs a ha) (hs b hb) (hi a b ha hb hn)⟩
def pj (o d:Nat->Int) (k:Nat) (j:Nat):Int:=if j<k then o j else d (j-k)
theorem Pm.step {o d:Nat->Int} {k n:Nat} (h:Pm (pj o d k)) (hk:k<5) (hn:n<5-k) (o' d':Nat->Int) (ho:∀ j,j<k+1->o' j=if j=k then d n else o j) (hd:∀ j,j<4-k->d' j=if j<n then d j else d (j+1)):Pm (pj o' d' (k+1)):=by
 have q:=h.comp (fun j=>if j<k then j else if j=k then k+n else if j-(k+1)<n then j-1 else j) (fun j hj=>by split; omega; split; omega; split <;> omega) (fun a b ha hb hne=>by split <;> split <;> (try split) <;> (try split) <;> (try split) <;> (try split) <;> omega)
 have e:∀ j,j<5->pj o' d' (k+1) j=pj o d k (if j<k then j else if j=k then k+n else if j-(k+1)<n then j-1 else j):=fun j hj=>by
  unfold pj
  by_cases c1:j<k
  ·rw [if_pos (show j<k+1 by omega),if_pos c1,if_pos c1,ho j (by omega),if_neg (by omega)]
  ·rw [if_neg c1]
   by_cases c2:j=k
   ·rw [if_pos (show j<k+1 by omega),if_pos c2,if_neg (by omega),ho j (by omega),if_pos c2]
    congr 1; omega
   ·rw [if_neg (show ¬ j<k+1 by omega),if_neg c2,hd _ (by omega)]
    by_cases c3:j-(k+1)<n
    ·rw [if_pos c3,if_pos c3,if_neg (by omega)]
     congr 1; omega
    ·rw [if_neg c3,if_neg c3,if_neg (by omega)]
     congr 1; omega
 exact ⟨fun j hj=>by rw [e j hj]; exact q.r j hj,fun a b ha hb hne=>by rw [e a ha,e b hb]; exact q.d a b ha hb hne⟩
theorem Pm.first:Pm (pj (fun _=>0) (fun j=>(j:Int)) 0):=⟨fun j hj=>by unfold pj; rw [if_neg (by omega)]; dsimp only; omega,fun a b ha hb hne=>by unfold pj; rw [if_neg (by omega),if_neg (by omega)]; dsimp only; omega⟩
theorem vals_pre (d:Nat->Int) {n m:Nat} (h:n<=m):(vals d m).take n=vals d n:=by
 apply List.ext_getElem?
 intro i
 rw [List.getElem?_take]
 by_cases c:i<n
 ·rw [if_pos c,vals_get d (by omega),vals_get d c]
 ·rw [if_neg c,List.getElem?_eq_none (by rw [vals_length]; omega)]
theorem Out.pre {B:Nat} {w:World} {g m cap:Nat} {d:Nat->Int} (h:Out B w (.slice (some ⟨g,0,none⟩) m cap) m d) {n:Nat} (hn:n<=m):Out B w (.slice (some ⟨g,0,none⟩) n cap) n d:=by
 obtain ⟨hl,⟨e,_⟩ | ⟨g',cap',cur,e,hb,hg,h1,h2,h3,h4⟩⟩:=h
 ·simp at e
 ·simp only [Value.slice.injEq,Option.some.injEq,Addr.mk.injEq,and_true,true_and] at e
  obtain ⟨rfl,rfl⟩:=e
  refine ⟨by rw [vals_length]; omega,.inr ⟨g,cap,cur,rfl,hb,hg,by omega,h2,h3,?_⟩⟩
  have:=congrArg (List.take (n*1)) h4
  rw [List.take_take,Nat.mul_one,Nat.mul_one,Nat.min_eq_left hn] at this
  rw [Nat.mul_one,this,vals_pre d hn]
theorem Out.ne {B:Nat} {w:World} {g m cap:Nat} {d:Nat->Int} (h:Out B w (.slice (some ⟨g,0,none⟩) m cap) m d) {o:Nat} {xs:Array Value} {t:TypeId} {z:Nat × Nat} (ho:w.heap[o]?=some (.cells xs t z)) (ht:t≠3):g≠o:=fun e=>by
 subst e
 obtain ⟨hl,⟨e,_⟩ | ⟨g',cap',cur,e,hb,hg,_⟩⟩:=h
 ·simp at e
 ·simp only [Value.slice.injEq,Option.some.injEq,Addr.mk.injEq,and_true,true_and] at e
  obtain ⟨rfl,rfl⟩:=e
  rw [hg] at ho
  simp only [Option.some.injEq,Obj.cells.injEq] at ho
  exact ht ho.2.1.symm
theorem Out.lt {B:Nat} {w:World} {g m cap:Nat} {d:Nat->Int} (h:Out B w (.slice (some ⟨g,0,none⟩) m cap) m d):g<w.heap.size:=(World.ownsRow.lt h g rfl).2
theorem Out.cap {B:Nat} {w:World} {g m cap:Nat} {d:Nat->Int} (h:Out B w (.slice (some ⟨g,0,none⟩) m cap) m d):m<=cap∧cap<=9223372036854775807:=by
 obtain ⟨ao,cap',e,hR⟩:=h.row
 simp only [Value.slice.injEq] at e
 obtain ⟨rfl,_,rfl⟩:=e
 exact ⟨hR.le,hR.max⟩
theorem Out.post {B:Nat} {w:World} {g m cap:Nat} {d:Nat->Int} (h:Out B w (.slice (some ⟨g,0,none⟩) m cap) m d) {n:Nat} (hn:n+1<=m):Row w (if cap=n+1 then some ⟨g,0,none⟩ else some ⟨g,n+1,none⟩) (m-(n+1)) (cap-(n+1)) (fun i=>d (n+1+i)):=by
 obtain ⟨l1,l2⟩:=h.cap
 by_cases c:cap=n+1
 ·rw [if_pos c]
  exact ⟨by omega,by omega,(fun e=>by cases e),fun h0=>by omega⟩
 rw [if_neg c]
 exact ⟨by omega,by omega,(fun e=>by cases e),fun h0=>⟨g,n+1,rfl,h.lt,fun i hi=>h.cell (by omega)⟩⟩
theorem q_ne {W:World} {g k:Nat} {X:Obj} (h:W.heap[k]?=some X) (hn:k≠g) (o:Nat) (v:Value):(W.setCell ⟨g,o,none⟩ v).heap[k]?=some X:=by
 have:=(Wr.refl g W).setCell o v
 exact (this.block k (Array.getElem?_eq_some_iff.1 h).1 hn).trans h
theorem permuted_any (i:Int) (hi:0<=i) (hm:i<1000) (w:World) :
  Calls Tryz.prog 9 #[.int .i64 i] w fun e w'=>∃ o,e=.returned (.agg #[.int .i64 (o 0),.int .i64 (o 1),.int .i64 (o 2),.int .i64 (o 3),.int .i64 (o 4)])∧Pm o∧Below w.heap.size w w':=by
 go_enter Tryz.func9,Tryz.ntmps9
 go_wp2_with fail
 have hb0:=bel_a3 w (.cells #[.int .i64 0,.int .i64 0,.int .i64 0,.int .i64 0,.int .i64 0] 35) (.cells #[.int .i64 0,.int .i64 1,.int .i64 2,.int .i64 3,.int .i64 4] 3) (.cells #[.int .i64 0,.int .i64 0,.int .i64 0,.int .i64 0,.int .i64 0] 35)
 have r_k:=h3_0 w (.cells #[.int .i64 0,.int .i64 0,.int .i64 0,.int .i64 0,.int .i64 0] 35) (.cells #[.int .i64 0,.int .i64 1,.int .i64 2,.int .i64 3,.int .i64 4] 3) (.cells #[.int .i64 0,.int .i64 0,.int .i64 0,.int .i64 0,.int .i64 0] 35)
 have g_k:=h3_1 w (.cells #[.int .i64 0,.int .i64 0,.int .i64 0,.int .i64 0,.int .i64 0] 35) (.cells #[.int .i64 0,.int .i64 1,.int .i64 2,.int .i64 3,.int .i64 4] 3) (.cells #[.int .i64 0,.int .i64 0,.int .i64 0,.int .i64 0,.int .i64 0] 35)
 have o_k:=h3_2 w (.cells #[.int .i64 0,.int .i64 0,.int .i64 0,.int .i64 0,.int .i64 0] 35) (.cells #[.int .i64 0,.int .i64 1,.int .i64 2,.int .i64 3,.int .i64 4] 3) (.cells #[.int .i64 0,.int .i64 0,.int .i64 0,.int .i64 0,.int .i64 0] 35)
 generalize ((w.alloc (.cells #[.int .i64 0,.int .i64 0,.int .i64 0,.int .i64 0,.int .i64 0] 35)).alloc (.cells #[.int .i64 0,.int .i64 1,.int .i64 2,.int .i64 3,.int .i64 4] 3)).alloc (.cells #[.int .i64 0,.int .i64 0,.int .i64 0,.int .i64 0,.int .i64 0] 35)=x0 at hb0 r_k g_k o_k ⊢
 have HO:Hid (Out w.heap.size x0 (.slice (some ⟨w.heap.size+1,0,none⟩) 5 5) 5 (fun j=>(j:Int))):=⟨rfl,.inr ⟨w.heap.size+1,5,_,rfl,by omega,g_k,by omega,by decide,rfl,rfl⟩⟩
 have HP:Hid (Pm (pj (fun _=>0) (fun j=>(j:Int)) 0)):=Pm.first
 go_loopw [5,0,3] (fun kv iv lv wr=>∃ k:Nat,k<=5∧kv=.int .i64 k∧∃ (ic:Int) (o d:Nat->Int),0<=ic∧ic<1000∧iv=.int .i64 ic∧Hid (k<5->∃ (gl lc:Nat),lv=.slice (some ⟨gl,0,none⟩) (5-k) lc∧Out w.heap.size wr (.slice (some ⟨gl,0,none⟩) (5-k) lc) (5-k) d)∧Hid (Pm (pj o d k))∧wr.heap[w.heap.size]?=some (.cells #[.int .i64 0,.int .i64 0,.int .i64 0,.int .i64 0,.int .i64 0] 35 (0,0))∧wr.heap[w.heap.size+2]?=some (.cells #[.int .i64 (o 0),.int .i64 (o 1),.int .i64 (o 2),.int .i64 (o 3),.int .i64 (o 4)] 35 (0,0))∧Below w.heap.size w wr) (fun kv _ _ _=>5-(intOf kv).toNat)
 case atStart=>exact ⟨0,by omega,rfl,i,fun _=>0,fun j=>(j:Int),hi,hm,rfl,(fun _=>⟨_,_,rfl,HO⟩),HP,r_k,o_k,hb0⟩
 case round=>
  clear r_k g_k o_k hb0 HO HP hi hm
  obtain ⟨k,hk,rfl,ic,o,d,i0,i1,rfl,HO,HP,r_k,o_k,hbw⟩:=hrel
  have k6:k=0∨k=1∨k=2∨k=3∨k=4∨k=5:=by omega
  rcases k6 with rfl | rfl | rfl | rfl | rfl | rfl
  ·obtain ⟨gl,lc,rfl,hO⟩:=HO.out (by decide)
   replace hO:Out w.heap.size wr (.slice (some ⟨gl,0,none⟩) 5 lc) 5 d:=hO
   clear HO
   skip
   have hlo:=hO.ne o_k (by decide)
   have hlr:=hO.ne r_k (by decide)
   obtain ⟨l1,l2⟩:=hO.cap
   go_upto_region 8 with (fail)
   obtain ⟨n,hn⟩:∃ n:Nat,ic % 5=n:=⟨(ic % 5).toNat,by omega⟩
   obtain ⟨q,hq⟩:∃ q:Int,ic/5=q:=⟨_,rfl⟩
   have hn5:n<5:=by omega
   have q0:0<=q:=by omega
   have q1:q<1000:=by omega
   rw [hn,hq]
   clear hn hq i0 i1
   have n0:(0:Int)<=(n:Int):=by omega
   have n5:(n:Int)<5:=by omega
   have c0:=hO.cell hn5
   have e0:=blkC o_k 0 rfl
   have z0:=blkF o_k 0
   have hS:Out w.heap.size (wr.setCell ⟨w.heap.size+2,0,none⟩ (.int .i64 (d n))) (.slice (some ⟨gl,0,none⟩) 5 lc) 5 d:=hO.of_block fun g hg=>by
    obtain rfl:gl=g:=by simpa [Value.ownBlock] using hg
    exact ((Wr.refl _ _).setCell 0 _).block gl (hO.lt) hlo
   have o_k2:=heap_set o_k 0 (.int .i64 (d n))
   have r_k2:=q_ne r_k (show w.heap.size≠w.heap.size+2 by omega) 0 (.int .i64 (d n))
   have hb2:=hbw.setCell (p:=⟨w.heap.size+2,0,none⟩) (show w.heap.size<=w.heap.size+2 by omega) (.int .i64 (d n))
   have RS:=hS.post (n:=n) (by omega)
   rw [show 5-(n+1)=4-n by omega] at RS
   have l3:n+1<=lc:=by omega
   go_wp2_with (first | (have _t:=hb3; at_builtin; refine wpList_app rfl _ _ rfl w.heap.size (.slice (some ⟨gl,0,none⟩) n lc) n d rfl hS1 vo (4-n) vc (cat (fun _=>0) 0 (fun i=>d (n+1+i))) rfl R1 (by omega) hb3.size ?_; intro v2 w2 hO2 hg2) | (at_builtin; refine wpList_app rfl _ _ rfl w.heap.size (.slice none 0 0) 0 (fun _=>0) rfl (Out.nil _ _ _) (if lc=n+1 then some ⟨gl,0,none⟩ else some ⟨gl,n+1,none⟩) (4-n) (lc-(n+1)) (fun i=>d (n+1+i)) rfl RS (by omega) hb2.size ?_; intro v1 w1 hO1 hg1; obtain ⟨vo,vc,rfl,R1⟩:=hO1.row; rw [Nat.zero_add] at R1; have hx1:Below (wr.setCell ⟨w.heap.size+2,0,none⟩ (.int .i64 (d n))).heap.size (wr.setCell ⟨w.heap.size+2,0,none⟩ (.int .i64 (d n))) w1:=(bel_refl _).grown hg1 (Nat.le_refl _) (fun g hg=>by have h:(none:Option Nat)=some g:=hg; cases h); have hS1:=(hS.stays hx1).pre (n:=n) (by omega); have o_k3:=blk_on hx1 o_k2; have r_k3:=blk_on hx1 r_k2; have hb3:=bel_trans hb2 hx1))
   have o_k4:=(hg2.block _ (Array.getElem?_eq_some_iff.1 o_k3).1 (fun e=>hlo (by simpa [Value.ownBlock] using e.symm))).trans o_k3
   have r_k4:=(hg2.block _ (Array.getElem?_eq_some_iff.1 r_k3).1 (fun e=>hlr (by simpa [Value.ownBlock] using e.symm))).trans r_k3
   have hb4:=hb3.grown hg2 hb3.size (own_ge hS1)
   rw [show n+(4-n)=4 by omega] at hO2
   have HP2:=hideIt (HP.out.step (k:=0) (n:=n) (by decide) (by omega) (fun j=>if j=0 then d n else o j) (cat d n (cat (fun _=>0) 0 (fun i=>d (n+1+i)))) (fun j _=>rfl) (fun j hj=>by unfold cat; by_cases c:j<n; (· rw [if_pos c,if_pos c]); (· rw [if_neg c,if_neg c,if_neg (by omega)]; show d (n+1+(j-n-0))=d (j+1); congr 1; omega)))
   go_roundw
   case rel=>
    refine ⟨1,by omega,by go_num,q,_,_,q0,q1,rfl,(fun _=>?_),HP2,r_k4,o_k4,hb4⟩
    obtain ⟨ao,cap,rfl,_⟩:=hO2.row
    obtain ⟨g,rfl,_⟩:=hO2.spot (by decide)
    exact ⟨g,cap,rfl,hO2⟩
   case measure=>simp [intOf]
  ·obtain ⟨gl,lc,rfl,hO⟩:=HO.out (by decide)
   replace hO:Out w.heap.size wr (.slice (some ⟨gl,0,none⟩) 4 lc) 4 d:=hO
   clear HO
   skip
   have hlo:=hO.ne o_k (by decide)
   have hlr:=hO.ne r_k (by decide)
   obtain ⟨l1,l2⟩:=hO.cap
   go_upto_region 8 with (fail)
   obtain ⟨n,hn⟩:∃ n:Nat,ic % 4=n:=⟨(ic % 4).toNat,by omega⟩
   obtain ⟨q,hq⟩:∃ q:Int,ic/4=q:=⟨_,rfl⟩
   have hn5:n<4:=by omega
   have q0:0<=q:=by omega
   have q1:q<1000:=by omega
   rw [hn,hq]
   clear hn hq i0 i1
   have n0:(0:Int)<=(n:Int):=by omega
   have n5:(n:Int)<4:=by omega
   have c0:=hO.cell hn5
   have e0:=blkC o_k 1 rfl
   have z0:=blkF o_k 1
   have hS:Out w.heap.size (wr.setCell ⟨w.heap.size+2,1,none⟩ (.int .i64 (d n))) (.slice (some ⟨gl,0,none⟩) 4 lc) 4 d:=hO.of_block fun g hg=>by
    obtain rfl:gl=g:=by simpa [Value.ownBlock] using hg
    exact ((Wr.refl _ _).setCell 1 _).block gl (hO.lt) hlo
   have o_k2:=heap_set o_k 1 (.int .i64 (d n))
   have r_k2:=q_ne r_k (show w.heap.size≠w.heap.size+2 by omega) 1 (.int .i64 (d n))
   have hb2:=hbw.setCell (p:=⟨w.heap.size+2,1,none⟩) (show w.heap.size<=w.heap.size+2 by omega) (.int .i64 (d n))
   have RS:=hS.post (n:=n) (by omega)
   rw [show 4-(n+1)=3-n by omega] at RS
   have l3:n+1<=lc:=by omega
   go_wp2_with (first | (have _t:=hb3; at_builtin; refine wpList_app rfl _ _ rfl w.heap.size (.slice (some ⟨gl,0,none⟩) n lc) n d rfl hS1 vo (3-n) vc (cat (fun _=>0) 0 (fun i=>d (n+1+i))) rfl R1 (by omega) hb3.size ?_; intro v2 w2 hO2 hg2) | (at_builtin; refine wpList_app rfl _ _ rfl w.heap.size (.slice none 0 0) 0 (fun _=>0) rfl (Out.nil _ _ _) (if lc=n+1 then some ⟨gl,0,none⟩ else some ⟨gl,n+1,none⟩) (3-n) (lc-(n+1)) (fun i=>d (n+1+i)) rfl RS (by omega) hb2.size ?_; intro v1 w1 hO1 hg1; obtain ⟨vo,vc,rfl,R1⟩:=hO1.row; rw [Nat.zero_add] at R1; have hx1:Below (wr.setCell ⟨w.heap.size+2,1,none⟩ (.int .i64 (d n))).heap.size (wr.setCell ⟨w.heap.size+2,1,none⟩ (.int .i64 (d n))) w1:=(bel_refl _).grown hg1 (Nat.le_refl _) (fun g hg=>by have h:(none:Option Nat)=some g:=hg; cases h); have hS1:=(hS.stays hx1).pre (n:=n) (by omega); have o_k3:=blk_on hx1 o_k2; have r_k3:=blk_on hx1 r_k2; have hb3:=bel_trans hb2 hx1))
   have o_k4:=(hg2.block _ (Array.getElem?_eq_some_iff.1 o_k3).1 (fun e=>hlo (by simpa [Value.ownBlock] using e.symm))).trans o_k3
   have r_k4:=(hg2.block _ (Array.getElem?_eq_some_iff.1 r_k3).1 (fun e=>hlr (by simpa [Value.ownBlock] using e.symm))).trans r_k3
   have hb4:=hb3.grown hg2 hb3.size (own_ge hS1)
   rw [show n+(3-n)=3 by omega] at hO2
   have HP2:=hideIt (HP.out.step (k:=1) (n:=n) (by decide) (by omega) (fun j=>if j=1 then d n else o j) (cat d n (cat (fun _=>0) 0 (fun i=>d (n+1+i)))) (fun j _=>rfl) (fun j hj=>by unfold cat; by_cases c:j<n; (· rw [if_pos c,if_pos c]); (· rw [if_neg c,if_neg c,if_neg (by omega)]; show d (n+1+(j-n-0))=d (j+1); congr 1; omega)))
   go_roundw
   case rel=>
    refine ⟨2,by omega,by go_num,q,_,_,q0,q1,rfl,(fun _=>?_),HP2,r_k4,o_k4,hb4⟩
    obtain ⟨ao,cap,rfl,_⟩:=hO2.row
    obtain ⟨g,rfl,_⟩:=hO2.spot (by decide)
    exact ⟨g,cap,rfl,hO2⟩
   case measure=>simp [intOf]
  ·obtain ⟨gl,lc,rfl,hO⟩:=HO.out (by decide)
   replace hO:Out w.heap.size wr (.slice (some ⟨gl,0,none⟩) 3 lc) 3 d:=hO
   clear HO
   skip
   have hlo:=hO.ne o_k (by decide)
   have hlr:=hO.ne r_k (by decide)
   obtain ⟨l1,l2⟩:=hO.cap
   go_upto_region 8 with (fail)
   obtain ⟨n,hn⟩:∃ n:Nat,ic % 3=n:=⟨(ic % 3).toNat,by omega⟩
   obtain ⟨q,hq⟩:∃ q:Int,ic/3=q:=⟨_,rfl⟩
   have hn5:n<3:=by omega
   have q0:0<=q:=by omega
   have q1:q<1000:=by omega
   rw [hn,hq]
   clear hn hq i0 i1
   have n0:(0:Int)<=(n:Int):=by omega
   have n5:(n:Int)<3:=by omega
   have c0:=hO.cell hn5
   have e0:=blkC o_k 2 rfl
   have z0:=blkF o_k 2
   have hS:Out w.heap.size (wr.setCell ⟨w.heap.size+2,2,none⟩ (.int .i64 (d n))) (.slice (some ⟨gl,0,none⟩) 3 lc) 3 d:=hO.of_block fun g hg=>by
    obtain rfl:gl=g:=by simpa [Value.ownBlock] using hg
    exact ((Wr.refl _ _).setCell 2 _).block gl (hO.lt) hlo
   have o_k2:=heap_set o_k 2 (.int .i64 (d n))
   have r_k2:=q_ne r_k (show w.heap.size≠w.heap.size+2 by omega) 2 (.int .i64 (d n))
   have hb2:=hbw.setCell (p:=⟨w.heap.size+2,2,none⟩) (show w.heap.size<=w.heap.size+2 by omega) (.int .i64 (d n))
   have RS:=hS.post (n:=n) (by omega)
   rw [show 3-(n+1)=2-n by omega] at RS
   have l3:n+1<=lc:=by omega
   go_wp2_with (first | (have _t:=hb3; at_builtin; refine wpList_app rfl _ _ rfl w.heap.size (.slice (some ⟨gl,0,none⟩) n lc) n d rfl hS1 vo (2-n) vc (cat (fun _=>0) 0 (fun i=>d (n+1+i))) rfl R1 (by omega) hb3.size ?_; intro v2 w2 hO2 hg2) | (at_builtin; refine wpList_app rfl _ _ rfl w.heap.size (.slice none 0 0) 0 (fun _=>0) rfl (Out.nil _ _ _) (if lc=n+1 then some ⟨gl,0,none⟩ else some ⟨gl,n+1,none⟩) (2-n) (lc-(n+1)) (fun i=>d (n+1+i)) rfl RS (by omega) hb2.size ?_; intro v1 w1 hO1 hg1; obtain ⟨vo,vc,rfl,R1⟩:=hO1.row; rw [Nat.zero_add] at R1; have hx1:Below (wr.setCell ⟨w.heap.size+2,2,none⟩ (.int .i64 (d n))).heap.size (wr.setCell ⟨w.heap.size+2,2,none⟩ (.int .i64 (d n))) w1:=(bel_refl _).grown hg1 (Nat.le_refl _) (fun g hg=>by have h:(none:Option Nat)=some g:=hg; cases h); have hS1:=(hS.stays hx1).pre (n:=n) (by omega); have o_k3:=blk_on hx1 o_k2; have r_k3:=blk_on hx1 r_k2; have hb3:=bel_trans hb2 hx1))
   have o_k4:=(hg2.block _ (Array.getElem?_eq_some_iff.1 o_k3).1 (fun e=>hlo (by simpa [Value.ownBlock] using e.symm))).trans o_k3
   have r_k4:=(hg2.block _ (Array.getElem?_eq_some_iff.1 r_k3).1 (fun e=>hlr (by simpa [Value.ownBlock] using e.symm))).trans r_k3
   have hb4:=hb3.grown hg2 hb3.size (own_ge hS1)
   rw [show n+(2-n)=2 by omega] at hO2
   have HP2:=hideIt (HP.out.step (k:=2) (n:=n) (by decide) (by omega) (fun j=>if j=2 then d n else o j) (cat d n (cat (fun _=>0) 0 (fun i=>d (n+1+i)))) (fun j _=>rfl) (fun j hj=>by unfold cat; by_cases c:j<n; (· rw [if_pos c,if_pos c]); (· rw [if_neg c,if_neg c,if_neg (by omega)]; show d (n+1+(j-n-0))=d (j+1); congr 1; omega)))
   go_roundw
   case rel=>
    refine ⟨3,by omega,by go_num,q,_,_,q0,q1,rfl,(fun _=>?_),HP2,r_k4,o_k4,hb4⟩
    obtain ⟨ao,cap,rfl,_⟩:=hO2.row
    obtain ⟨g,rfl,_⟩:=hO2.spot (by decide)
    exact ⟨g,cap,rfl,hO2⟩
   case measure=>simp [intOf]
  ·obtain ⟨gl,lc,rfl,hO⟩:=HO.out (by decide)
   replace hO:Out w.heap.size wr (.slice (some ⟨gl,0,none⟩) 2 lc) 2 d:=hO
   clear HO
   skip
   have hlo:=hO.ne o_k (by decide)
   have hlr:=hO.ne r_k (by decide)
   obtain ⟨l1,l2⟩:=hO.cap
   go_upto_region 8 with (fail)
   obtain ⟨n,hn⟩:∃ n:Nat,ic % 2=n:=⟨(ic % 2).toNat,by omega⟩
   obtain ⟨q,hq⟩:∃ q:Int,ic/2=q:=⟨_,rfl⟩
   have hn5:n<2:=by omega
   have q0:0<=q:=by omega
   have q1:q<1000:=by omega
   rw [hn,hq]
   clear hn hq i0 i1
   have n0:(0:Int)<=(n:Int):=by omega
   have n5:(n:Int)<2:=by omega
   have c0:=hO.cell hn5
   have e0:=blkC o_k 3 rfl
   have z0:=blkF o_k 3
   have hS:Out w.heap.size (wr.setCell ⟨w.heap.size+2,3,none⟩ (.int .i64 (d n))) (.slice (some ⟨gl,0,none⟩) 2 lc) 2 d:=hO.of_block fun g hg=>by
    obtain rfl:gl=g:=by simpa [Value.ownBlock] using hg
    exact ((Wr.refl _ _).setCell 3 _).block gl (hO.lt) hlo
   have o_k2:=heap_set o_k 3 (.int .i64 (d n))
   have r_k2:=q_ne r_k (show w.heap.size≠w.heap.size+2 by omega) 3 (.int .i64 (d n))
   have hb2:=hbw.setCell (p:=⟨w.heap.size+2,3,none⟩) (show w.heap.size<=w.heap.size+2 by omega) (.int .i64 (d n))
   have RS:=hS.post (n:=n) (by omega)
   rw [show 2-(n+1)=1-n by omega] at RS
   have l3:n+1<=lc:=by omega
   go_wp2_with (first | (have _t:=hb3; at_builtin; refine wpList_app rfl _ _ rfl w.heap.size (.slice (some ⟨gl,0,none⟩) n lc) n d rfl hS1 vo (1-n) vc (cat (fun _=>0) 0 (fun i=>d (n+1+i))) rfl R1 (by omega) hb3.size ?_; intro v2 w2 hO2 hg2) | (at_builtin; refine wpList_app rfl _ _ rfl w.heap.size (.slice none 0 0) 0 (fun _=>0) rfl (Out.nil _ _ _) (if lc=n+1 then some ⟨gl,0,none⟩ else some ⟨gl,n+1,none⟩) (1-n) (lc-(n+1)) (fun i=>d (n+1+i)) rfl RS (by omega) hb2.size ?_; intro v1 w1 hO1 hg1; obtain ⟨vo,vc,rfl,R1⟩:=hO1.row; rw [Nat.zero_add] at R1; have hx1:Below (wr.setCell ⟨w.heap.size+2,3,none⟩ (.int .i64 (d n))).heap.size (wr.setCell ⟨w.heap.size+2,3,none⟩ (.int .i64 (d n))) w1:=(bel_refl _).grown hg1 (Nat.le_refl _) (fun g hg=>by have h:(none:Option Nat)=some g:=hg; cases h); have hS1:=(hS.stays hx1).pre (n:=n) (by omega); have o_k3:=blk_on hx1 o_k2; have r_k3:=blk_on hx1 r_k2; have hb3:=bel_trans hb2 hx1))
   have o_k4:=(hg2.block _ (Array.getElem?_eq_some_iff.1 o_k3).1 (fun e=>hlo (by simpa [Value.ownBlock] using e.symm))).trans o_k3
   have r_k4:=(hg2.block _ (Array.getElem?_eq_some_iff.1 r_k3).1 (fun e=>hlr (by simpa [Value.ownBlock] using e.symm))).trans r_k3
   have hb4:=hb3.grown hg2 hb3.size (own_ge hS1)
   rw [show n+(1-n)=1 by omega] at hO2
   have HP2:=hideIt (HP.out.step (k:=3) (n:=n) (by decide) (by omega) (fun j=>if j=3 then d n else o j) (cat d n (cat (fun _=>0) 0 (fun i=>d (n+1+i)))) (fun j _=>rfl) (fun j hj=>by unfold cat; by_cases c:j<n; (· rw [if_pos c,if_pos c]); (· rw [if_neg c,if_neg c,if_neg (by omega)]; show d (n+1+(j-n-0))=d (j+1); congr 1; omega)))
   go_roundw
   case rel=>
    refine ⟨4,by omega,by go_num,q,_,_,q0,q1,rfl,(fun _=>?_),HP2,r_k4,o_k4,hb4⟩
    obtain ⟨ao,cap,rfl,_⟩:=hO2.row
    obtain ⟨g,rfl,_⟩:=hO2.spot (by decide)
    exact ⟨g,cap,rfl,hO2⟩
   case measure=>simp [intOf]
  ·obtain ⟨gl,lc,rfl,hO⟩:=HO.out (by decide)
   replace hO:Out w.heap.size wr (.slice (some ⟨gl,0,none⟩) 1 lc) 1 d:=hO
   clear HO
   skip
   have hlo:=hO.ne o_k (by decide)
   have hlr:=hO.ne r_k (by decide)
   obtain ⟨l1,l2⟩:=hO.cap
   go_upto_region 8 with (fail)
   have c0:=hO.cell (i:=0) (by decide)
   have e0:=blkC o_k 4 rfl
   have z0:=blkF o_k 4
   have hS:Out w.heap.size (wr.setCell ⟨w.heap.size+2,4,none⟩ (.int .i64 (d 0))) (.slice (some ⟨gl,0,none⟩) 1 lc) 1 d:=hO.of_block fun g hg=>by
    obtain rfl:gl=g:=by simpa [Value.ownBlock] using hg
    exact ((Wr.refl _ _).setCell 4 _).block gl (hO.lt) hlo
   have o_k2:=heap_set o_k 4 (.int .i64 (d 0))
   have r_k2:=q_ne r_k (show w.heap.size≠w.heap.size+2 by omega) 4 (.int .i64 (d 0))
   have hb2:=hbw.setCell (p:=⟨w.heap.size+2,4,none⟩) (show w.heap.size<=w.heap.size+2 by omega) (.int .i64 (d 0))
   have RS:Row _ (if lc=1 then some ⟨gl,0,none⟩ else some ⟨gl,1,none⟩) 0 (lc-1) (fun i=>d (0+1+i)):=hS.post (n:=0) (by omega)
   go_wp2_with (first | (have _t:=hb3; at_builtin; refine wpList_app rfl _ _ rfl w.heap.size (.slice (some ⟨gl,0,none⟩) 0 lc) 0 d rfl hS1 vo 0 vc (cat (fun _=>0) 0 (fun i=>d (0+1+i))) rfl R1 (by omega) hb3.size ?_; intro v2 w2 hO2 hg2) | (at_builtin; refine wpList_app rfl _ _ rfl w.heap.size (.slice none 0 0) 0 (fun _=>0) rfl (Out.nil _ _ _) (if lc=1 then some ⟨gl,0,none⟩ else some ⟨gl,1,none⟩) 0 (lc-1) (fun i=>d (0+1+i)) rfl RS (by omega) hb2.size ?_; intro v1 w1 hO1 hg1; obtain ⟨vo,vc,rfl,R1⟩:=hO1.row; rw [Nat.zero_add] at R1; have hx1:Below (wr.setCell ⟨w.heap.size+2,4,none⟩ (.int .i64 (d 0))).heap.size (wr.setCell ⟨w.heap.size+2,4,none⟩ (.int .i64 (d 0))) w1:=(bel_refl _).grown hg1 (Nat.le_refl _) (fun g hg=>by have h:(none:Option Nat)=some g:=hg; cases h); have hS1:=(hS.stays hx1).pre (n:=0) (by omega); have o_k3:=blk_on hx1 o_k2; have r_k3:=blk_on hx1 r_k2; have hb3:=bel_trans hb2 hx1))
   have o_k4:=(hg2.block _ (Array.getElem?_eq_some_iff.1 o_k3).1 (fun e=>hlo (by simpa [Value.ownBlock] using e.symm))).trans o_k3
   have r_k4:=(hg2.block _ (Array.getElem?_eq_some_iff.1 r_k3).1 (fun e=>hlr (by simpa [Value.ownBlock] using e.symm))).trans r_k3
   have hb4:=hb3.grown hg2 hb3.size (own_ge hS1)
   have HP2:=hideIt (HP.out.step (k:=4) (n:=0) (by decide) (by omega) (fun j=>if j=4 then d 0 else o j) d (fun j _=>rfl) (fun j hj=>absurd hj (by omega)))
   go_roundw
   case rel=>exact ⟨5,by omega,by go_num,ic,_,_,i0,i1,rfl,(fun h=>absurd h (by decide)),HP2,r_k4,o_k4,hb4⟩
   case measure=>simp [intOf]
  ·have hP:=HP.out
   have f0:=blkC o_k 0 rfl
   have k0:=blkC r_k 0 rfl
   have z0:=blkF r_k 0
   have f1:=blkC o_k 1 rfl
   have k1:=blkC r_k 1 rfl
   have z1:=blkF r_k 1
   have f2:=blkC o_k 2 rfl
   have k2:=blkC r_k 2 rfl
   have z2:=blkF r_k 2
   have f3:=blkC o_k 3 rfl
   have k3:=blkC r_k 3 rfl
   have z3:=blkF r_k 3
   have f4:=blkC o_k 4 rfl
   have k4:=blkC r_k 4 rfl
   have z4:=blkF r_k 4
   go_wp2
   refine bodyPost_ret (v:=.agg #[.int .i64 (o 0),.int .i64 (o 1),.int .i64 (o 2),.int .i64 (o 3),.int .i64 (o 4)]) (by simp [results,Tryz.results9,go_sem,k0,k1,k2,k3,k4]) rfl ⟨o,rfl,⟨fun j hj=>?_,fun a b ha hb hn=>?_⟩,(((((hbw).setCell (p:=⟨w.heap.size,0,none⟩) (Nat.le_refl _) _).setCell (p:=⟨w.heap.size,1,none⟩) (Nat.le_refl _) _).setCell (p:=⟨w.heap.size,2,none⟩) (Nat.le_refl _) _).setCell (p:=⟨w.heap.size,3,none⟩) (Nat.le_refl _) _).setCell (p:=⟨w.heap.size,4,none⟩) (Nat.le_refl _) _⟩
   ·have:=hP.r j hj
    unfold pj at this
    rwa [if_pos hj] at this
   ·have:=hP.d a b ha hb hn
    unfold pj at this
    rwa [if_pos ha,if_pos hb] at this
end Go.Proofs.YtjjihmnbdeeedaaGreatDoor
namespace Go.Proofs.YtjjihmnbdeeedaaGreatDoor
open Go Go.ChangeShapes Go.WideShapes Go.ChangeAt Go.RowKit Go.Proofs.YtjjihmnbdeeedaaGreatDoor.M
theorem q_cellsPoint:Tryz.prog.cellsOf 33=2:=by kernel_rfl
theorem q_cellsInt:Tryz.prog.cellsOf 3=1:=by kernel_rfl
theorem point_cells {H:Type} {enc:TypeId × Value->H} {W:World} {n:Nat} {cs:List Value} {x:DataW H × List MemPlace}
  (h:DataW.trod enc Tryz.prog W 0 (fun _=>true) true n 33 cs=some x) :
  ∃ a b:Int,cs=[.int .i64 a,.int .i64 b]∧rng a∧rng b:=by
 obtain ⟨xs,m,_,rfl,hl,hlen,hf⟩:=DataW.trod_struct Tryz.underlying33 h
 rw [q_cellsPoint] at hl
 match cs,hl with
 | [v0,v1],_=>
  match xs,hlen with
  | [y0,y1],_=>
   have f0:DataW.trod enc Tryz.prog W 0 (fun _=>true) true m 3 (([v0,v1].drop 0).take (Tryz.prog.cellsOf 3))=some y0:=hf 0 _ rfl
   have f1:DataW.trod enc Tryz.prog W 0 (fun _=>true) true m 3 (([v0,v1].drop 1).take (Tryz.prog.cellsOf 3))=some y1:=hf 1 _ rfl
   rw [q_cellsInt] at f0 f1
   simp only [List.drop_zero,List.drop_succ_cons,List.take_succ_cons,List.take_zero] at f0 f1
   obtain ⟨k0,e0,_,w0⟩:=DataW.trod_int Tryz.underlying3 f0
   obtain ⟨k1,e1,_,w1⟩:=DataW.trod_int Tryz.underlying3 f1
   simp at e0 e1
   subst e0 e1
   exact ⟨k0,k1,rfl,rng_of w0,rng_of w1⟩
structure IsPtk (W:World) (a:Option Addr) (len cap:Nat) (z:Nat->Int × Int):Prop where
 pts:Pts W a len cap (fun i=>(z i).1) (fun i=>(z i).2)
 rg:∀ i,i<len->rng (z i).1∧rng (z i).2
theorem ptk_of {H:Type} {enc:TypeId × Value->H} {W:World} {fuel:Nat} {a:Option Addr} {len cap:Nat} {x:DataW H × List MemPlace}
  (h:DataW.trod enc Tryz.prog W 0 (fun _=>true) true fuel 22 [.slice a len cap]=some x) (hw:∀ n ∈ x.1.weights Tryz.prog 22,n<=reachBytes):∃ z,IsPtk W a len cap z:=by
 rcases Deep.open_slice Tryz.underlying22 h with ⟨hcs,_⟩ | ⟨p,l,c,m,n,D,Pl,hcs,_,hl,hm,hmm,hx,hel⟩
 ·simp at hcs
  obtain ⟨rfl,rfl,rfl⟩:=hcs
  exact ⟨fun _=>(0,0),⟨Nat.le_refl _,by decide,fun h=>by omega⟩,fun i hi=>by omega⟩
 ·simp at hcs
  obtain ⟨rfl,rfl,rfl⟩:=hcs
  simp only [if_true] at hmm
  subst hmm
  by_cases h0:len=0
  ·exact ⟨fun _=>(0,0),⟨hl,by unfold maxLen at hm; exact hm,fun h=>by omega⟩,fun i hi=>by omega⟩
  have each:∀ i,i<len->∃ r:Int × Int,W.cells? 0 (p.add (i*2)) 2=some [.int .i64 r.1,.int .i64 r.2]∧rng r.1∧rng r.2:=by
   intro i hi
   obtain ⟨cs',h1,h2⟩:=hel i (by omega)
   rw [q_cellsPoint] at h1
   obtain ⟨r1,r2,rfl,hr⟩:=point_cells h2
   exact ⟨(r1,r2),h1,hr⟩
  obtain ⟨q,hq⟩:=Deep.choose_lt each
  have cell:∀ i j,i<len->j<2->W.cell? ((p.add (i*2)).add j)=([.int .i64 (q i).1,.int .i64 (q i).2]:List Value)[j]?:=by
   intro i j hi hj
   exact (World.cells?_some (hq i hi).1).2.2 j hj
  obtain ⟨b,off,spot⟩:=p
  have h2:W.cell? ⟨b,off,spot⟩=some (.int .i64 (q 0).1):=by simpa [Addr.add] using cell 0 0 (by omega) (by omega)
  have hspot:spot=none:=World.cell?_spot h2
  subst hspot
  refine ⟨q,⟨hl,by unfold maxLen at hm; exact hm,fun _=>⟨b,off,rfl,World.block_lt_of_cell? W _ h2,fun i hi=>?_⟩⟩,fun i hi=>(hq i hi).2⟩
  have x0:=cell i 0 hi (by omega)
  have x1:=cell i 1 hi (by omega)
  rw [add_none,add_none] at x0 x1
  exact ⟨x0,x1⟩
end Go.Proofs.YtjjihmnbdeeedaaGreatDoor
