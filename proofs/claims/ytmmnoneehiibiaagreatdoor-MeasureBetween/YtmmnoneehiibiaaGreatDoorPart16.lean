/- Parts of the proof. -/
import Derived.Test.YtmmnoneehiibiaaGreatDoorPart15
set_option linter.unusedVariables false
set_option linter.unusedSimpArgs false
namespace Go.Proofs.YtmmnoneehiibiaaGreatDoor
open Go Go.RowKit Go.Proofs.YtmmnoneehiibiaaGreatDoor.M
def oqLo (a b c d:Int):Int:=tLo (gLo a b) (gHi a b) (gLo c d) (gHi c d)
def oqHi (a b c d:Int):Int:=tHi (gLo a b) (gHi a b) (gLo c d) (gHi c d)
def owLo (ax ay bx by' cx cy:Int):Int:=eLo (ePlus (eOf (oqLo ax cx by' cy)) (eNeg (eOf (oqHi ay cy bx cx))))
def owHi (ax ay bx by' cx cy:Int):Int:=eHi (ePlus (eOf (oqHi ax cx by' cy)) (eNeg (eOf (oqLo ay cy bx cx))))
theorem oq_okk {a b c d:Int} (ra:rng a) (rb:rng b) (rc:rng c) (rd:rng d) (pa:pok a=true) (pb:pok b=true) (pc:pok c=true) (pd:pok d=true):Okk (oqLo a b c d) (oqHi a b c d) (mulS (patV a-patV b) (patV c-patV d)) :=
  (mulX (okk_pin (gap_okk ra rb pa pb)) (okk_pin (gap_okk rc rd pc pd))).2
theorem ow_okk {ax ay bx by' cx cy:Int} (rax:rng ax) (ray:rng ay) (rbx:rng bx) (rby:rng by') (rcx:rng cx) (rcy:rng cy) (pax:pok ax=true) (pay:pok ay=true) (pbx:pok bx=true) (pby:pok by'=true) (pcx:pok cx=true) (pcy:pok cy=true):Okk (owLo ax ay bx by' cx cy) (owHi ax ay bx by' cx cy) (mulS (patV ax-patV cx) (patV by'-patV cy)-mulS (patV ay-patV cy) (patV bx-patV cx)) :=
  (subX (okk_pin (oq_okk rax rcx rby rcy pax pcx pby pcy)) (okk_pin (oq_okk ray rcy rbx rcx pay pcy pbx pcx))).2
theorem det_X {ax ay bx by' cx cy:Int} (rax:rng ax) (ray:rng ay) (rbx:rng bx) (rby:rng by') (rcx:rng cx) (rcy:rng cy) (pax:pok ax=true) (pay:pok ay=true) (pbx:pok bx=true) (pby:pok by'=true) (pcx:pok cx=true) (pcy:pok cy=true) :
    Det (patV ax-patV cx) (patV ay-patV cy) (patV bx-patV cx) (patV by'-patV cy) (oDet ax ay bx by' cx cy*pw (-2148)):=by
  rw [pat_dif rax rcx pax pcx,pat_dif ray rcy pay pcy,pat_dif rbx rcx pbx pcx,pat_dif rby rcy pby pcy]
  exact ⟨_,_,prod_scale _ _,prod_scale _ _,by unfold oDet; rw [Int.sub_mul]⟩
set_option maxRecDepth 100000 in
set_option maxHeartbeats 8000000 in
theorem oWild_ok {ax ay bx by' cx cy:Int} (rax:rng ax) (ray:rng ay) (rbx:rng bx) (rby:rng by') (rcx:rng cx) (rcy:rng cy) (pax:pok ax=true) (pay:pok ay=true) (pbx:pok bx=true) (pby:pok by'=true) (pcx:pok cx=true) (pcy:pok cy=true) (w:World) (H:Hold4 w) :
    Calls Tryz.prog 24 #[.agg #[.int .i64 ax,.int .i64 ay],.agg #[.int .i64 bx,.int .i64 by'],.agg #[.int .i64 cx,.int .i64 cy]] w fun r w'=>r=.returned (.agg #[.int .i64 (ord (oDet ax ay bx by' cx cy) 0),.int .i64 (if sgK (owLo ax ay bx by' cx cy) (owHi ax ay bx by' cx cy) then 5 else 6)])∧Below w.heap.size w w':=by
  have A1:Hid (∀ W,Hold4 W->Calls Tryz.prog 42 #[.int .i64 ax,.int .i64 cx] W fun r w'=>r=.returned (.agg #[.int .i64 (gLo ax cx),.int .i64 (gHi ax cx)])∧Below W.heap.size W w'):=fun W h=>apartSpan rax rcx pax pcx W h
  have A2:Hid (∀ W,Hold4 W->Calls Tryz.prog 42 #[.int .i64 by',.int .i64 cy] W fun r w'=>r=.returned (.agg #[.int .i64 (gLo by' cy),.int .i64 (gHi by' cy)])∧Below W.heap.size W w'):=fun W h=>apartSpan rby rcy pby pcy W h
  have A3:Hid (∀ W,Hold4 W->Calls Tryz.prog 42 #[.int .i64 ay,.int .i64 cy] W fun r w'=>r=.returned (.agg #[.int .i64 (gLo ay cy),.int .i64 (gHi ay cy)])∧Below W.heap.size W w'):=fun W h=>apartSpan ray rcy pay pcy W h
  have A4:Hid (∀ W,Hold4 W->Calls Tryz.prog 42 #[.int .i64 bx,.int .i64 cx] W fun r w'=>r=.returned (.agg #[.int .i64 (gLo bx cx),.int .i64 (gHi bx cx)])∧Below W.heap.size W w'):=fun W h=>apartSpan rbx rcx pbx pcx W h
  have M1:=(mulX (okk_pin (gap_okk rax rcx pax pcx)) (okk_pin (gap_okk rby rcy pby pcy))).1
  have M2:=(mulX (okk_pin (gap_okk ray rcy pay pcy)) (okk_pin (gap_okk rbx rcx pbx pcx))).1
  have S1:=(subX (okk_pin (oq_okk rax rcx rby rcy pax pcx pby pcy)) (okk_pin (oq_okk ray rcy rbx rcx pay pcy pbx pcx))).1
  have ok:=ow_okk rax ray rbx rby rcx rcy pax pay pbx pby pcx pcy
  have hD:=det_X rax ray rbx rby rcx rcy pax pay pbx pby pcx pcy
  have eV:mulS (patV ax-patV cx) (patV by'-patV cy)-mulS (patV ay-patV cy) (patV bx-patV cx)=oDet ax ay bx by' cx cy*pw (-2148):=by
    obtain ⟨C,D,h1,h2,h3⟩:=hD
    rw [h3,mulS_of h1,mulS_of h2]
  rw [eV] at ok
  have hso:=sgn_has ok
  rw [ord_mulP (pw_pos _)] at hso
  have CS:Hid (∀ W,Calls Tryz.prog 44 #[.agg #[.int .i64 (owLo ax ay bx by' cx cy),.int .i64 (owHi ax ay bx by' cx cy)]] W fun e w'=>e=.returned (.tuple #[.int .i64 (sgV (owLo ax ay bx by' cx cy) (owHi ax ay bx by' cx cy)),.bool (sgK (owLo ax ay bx by' cx cy) (owHi ax ay bx by' cx cy)),.int .i64 (errA (vld (owLo ax ay bx by' cx cy) (owHi ax ay bx by' cx cy)))])∧Below W.heap.size W w'):=fun W=>spanSignE ok.lo.1 ok.hi.1 W
  have HSO:Hid (sgK (owLo ax ay bx by' cx cy) (owHi ax ay bx by' cx cy)=true->sgV (owLo ax ay bx by' cx cy) (owHi ax ay bx by' cx cy)=ord (oDet ax ay bx by' cx cy) 0):=hso
  have CX:Hid (∀ W,Hold4 W->Calls Tryz.prog 46 #[.agg #[.int .i64 ax,.int .i64 ay],.agg #[.int .i64 bx,.int .i64 by'],.agg #[.int .i64 cx,.int .i64 cy]] W fun r w'=>∃ n_g n_o n_n n_c n_e,r=.returned (.agg #[.bool n_g,.slice n_o n_n n_c,.int .i64 n_e])∧(∀ W2,Below w'.heap.size w' W2->Calls Tryz.prog 45 #[.agg #[.bool n_g,.slice n_o n_n n_c,.int .i64 n_e]] W2 fun r2 w2=>r2=.returned (.tuple #[.int .i64 (ord (oDet ax ay bx by' cx cy) 0),.int .i64 0])∧Below W2.heap.size W2 w2)∧Below W.heap.size W w'):=fun W h=>by
    refine (oexact_any pax pay pbx pby pcx pcy W h).mono ?_
    rintro _ w3 ⟨v,V,rfl,hA,hV,hB⟩
    obtain ⟨n_g,n_o,n_n,n_c,n_e,rfl⟩:=dans_shape hA
    refine ⟨n_g,n_o,n_n,n_c,n_e,rfl,fun W4 h4=>?_,hA.below⟩
    have:=sign_D (hA.num.keeps h4) (hB.ok (by omega))
    rw [hV.unique hD,ord_mulP (pw_pos _)] at this
    exact this
  clear eV hso ok hD
  clear rax ray rbx rby rcx rcy pax pay pbx pby pcx pcy
  unfold owLo owHi at CS HSO ⊢
  unfold oqLo oqHi at *
  generalize ord (oDet ax ay bx by' cx cy) 0=sgn at *
  generalize sgV (eLo (ePlus (eOf (tLo (gLo ax cx) (gHi ax cx) (gLo by' cy) (gHi by' cy))) (eNeg (eOf (tHi (gLo ay cy) (gHi ay cy) (gLo bx cx) (gHi bx cx)))))) (eHi (ePlus (eOf (tHi (gLo ax cx) (gHi ax cx) (gLo by' cy) (gHi by' cy))) (eNeg (eOf (tLo (gLo ay cy) (gHi ay cy) (gLo bx cx) (gHi bx cx))))))=sgo at *
  generalize sgK (eLo (ePlus (eOf (tLo (gLo ax cx) (gHi ax cx) (gLo by' cy) (gHi by' cy))) (eNeg (eOf (tHi (gLo ay cy) (gHi ay cy) (gLo bx cx) (gHi bx cx)))))) (eHi (ePlus (eOf (tHi (gLo ax cx) (gHi ax cx) (gLo by' cy) (gHi by' cy))) (eNeg (eOf (tLo (gLo ay cy) (gHi ay cy) (gLo bx cx) (gHi bx cx))))))=kb at *
  generalize errA (vld (eLo (ePlus (eOf (tLo (gLo ax cx) (gHi ax cx) (gLo by' cy) (gHi by' cy))) (eNeg (eOf (tHi (gLo ay cy) (gHi ay cy) (gLo bx cx) (gHi bx cx)))))) (eHi (ePlus (eOf (tHi (gLo ax cx) (gHi ax cx) (gLo by' cy) (gHi by' cy))) (eNeg (eOf (tLo (gLo ay cy) (gHi ay cy) (gLo bx cx) (gHi bx cx)))))))=er0 at *
  generalize eLo (ePlus (eOf (tLo (gLo ax cx) (gHi ax cx) (gLo by' cy) (gHi by' cy))) (eNeg (eOf (tHi (gLo ay cy) (gHi ay cy) (gLo bx cx) (gHi bx cx)))))=lo at *
  generalize eHi (ePlus (eOf (tHi (gLo ax cx) (gHi ax cx) (gLo by' cy) (gHi by' cy))) (eNeg (eOf (tLo (gLo ay cy) (gHi ay cy) (gLo bx cx) (gHi bx cx)))))=hi at *
  generalize tLo (gLo ax cx) (gHi ax cx) (gLo by' cy) (gHi by' cy)=l0 at *
  generalize tHi (gLo ax cx) (gHi ax cx) (gLo by' cy) (gHi by' cy)=l1 at *
  generalize tLo (gLo ay cy) (gHi ay cy) (gLo bx cx) (gHi bx cx)=s0 at *
  generalize tHi (gLo ay cy) (gHi ay cy) (gLo bx cx) (gHi bx cx)=s1 at *
  generalize gLo ax cx=a1 at *
  generalize gHi ax cx=b1 at *
  generalize gLo by' cy=a2 at *
  generalize gHi by' cy=b2 at *
  generalize gLo ay cy=a3 at *
  generalize gHi ay cy=b3 at *
  generalize gLo bx cx=a4 at *
  generalize gHi bx cx=b4 at *
  have a_k:(w.alloc (.cells #[.int .i64 ax,.int .i64 ay] 23)).heap[w.heap.size]?=some (.cells #[.int .i64 ax,.int .i64 ay] 23):=heap_new (.cells #[.int .i64 ax,.int .i64 ay] 23) (by rfl)
  have hb0:=bel_alloc w (.cells #[.int .i64 ax,.int .i64 ay] 23)
  replace a_k:=heap_past (.cells #[.int .i64 bx,.int .i64 by'] 23) a_k
  have b_k:((w.alloc (.cells #[.int .i64 ax,.int .i64 ay] 23)).alloc (.cells #[.int .i64 bx,.int .i64 by'] 23)).heap[w.heap.size+1]?=some (.cells #[.int .i64 bx,.int .i64 by'] 23):=heap_new (.cells #[.int .i64 bx,.int .i64 by'] 23) (by simp only [size_alloc])
  replace hb0:=bel_trans hb0 (bel_alloc (w.alloc (.cells #[.int .i64 ax,.int .i64 ay] 23)) (.cells #[.int .i64 bx,.int .i64 by'] 23))
  replace a_k:=heap_past (.cells #[.int .i64 cx,.int .i64 cy] 23) a_k
  replace b_k:=heap_past (.cells #[.int .i64 cx,.int .i64 cy] 23) b_k
  have c_k:(((w.alloc (.cells #[.int .i64 ax,.int .i64 ay] 23)).alloc (.cells #[.int .i64 bx,.int .i64 by'] 23)).alloc (.cells #[.int .i64 cx,.int .i64 cy] 23)).heap[w.heap.size+1+1]?=some (.cells #[.int .i64 cx,.int .i64 cy] 23):=heap_new (.cells #[.int .i64 cx,.int .i64 cy] 23) (by simp only [size_alloc])
  replace hb0:=bel_trans hb0 (bel_alloc ((w.alloc (.cells #[.int .i64 ax,.int .i64 ay] 23)).alloc (.cells #[.int .i64 bx,.int .i64 by'] 23)) (.cells #[.int .i64 cx,.int .i64 cy] 23))
  replace a_k:=heap_past (.cells #[.int .i64 0,.int .i64 0] 42) a_k
  replace b_k:=heap_past (.cells #[.int .i64 0,.int .i64 0] 42) b_k
  replace c_k:=heap_past (.cells #[.int .i64 0,.int .i64 0] 42) c_k
  have r_k:((((w.alloc (.cells #[.int .i64 ax,.int .i64 ay] 23)).alloc (.cells #[.int .i64 bx,.int .i64 by'] 23)).alloc (.cells #[.int .i64 cx,.int .i64 cy] 23)).alloc (.cells #[.int .i64 0,.int .i64 0] 42)).heap[w.heap.size+1+1+1]?=some (.cells #[.int .i64 0,.int .i64 0] 42):=heap_new (.cells #[.int .i64 0,.int .i64 0] 42) (by simp only [size_alloc])
  replace hb0:=bel_trans hb0 (bel_alloc (((w.alloc (.cells #[.int .i64 ax,.int .i64 ay] 23)).alloc (.cells #[.int .i64 bx,.int .i64 by'] 23)).alloc (.cells #[.int .i64 cx,.int .i64 cy] 23)) (.cells #[.int .i64 0,.int .i64 0] 42))
  go_enter Tryz.func24,Tryz.ntmps24
  go_wp2_with fail
  rename_i Q0 K00 hK00
  generalize ((((w.alloc (.cells #[.int .i64 ax,.int .i64 ay] 23)).alloc (.cells #[.int .i64 bx,.int .i64 by'] 23)).alloc (.cells #[.int .i64 cx,.int .i64 cy] 23)).alloc (.cells #[.int .i64 0,.int .i64 0] 42))=x0 at hb0 a_k b_k c_k r_k ⊢
  have H:=H.keeps hb0
  have hK1:=hK00
  have HN1:∀ (g:Nat) (x1:World) (t:Array Value),#[t.getD 0 undef,t.getD 1 undef,t.getD 2 undef,.pointer (some ⟨w.heap.size,0,none⟩),.pointer (some ⟨w.heap.size+1,0,none⟩),.pointer (some ⟨w.heap.size+1+1,0,none⟩),.pointer (some ⟨w.heap.size+1+1+1,0,none⟩),.pointer (some ⟨g,0,none⟩),t.getD 8 undef,t.getD 9 undef,t.getD 10 undef,t.getD 11 undef,t.getD 12 undef,t.getD 13 undef,t.getD 14 undef,t.getD 15 undef,t.getD 16 undef,t.getD 17 undef,t.getD 18 undef,t.getD 19 undef,t.getD 20 undef,t.getD 21 undef,t.getD 22 undef,t.getD 23 undef,t.getD 24 undef,t.getD 25 undef,t.getD 26 undef,t.getD 27 undef,t.getD 28 undef,t.getD 29 undef,t.getD 30 undef,t.getD 31 undef,t.getD 32 undef,t.getD 33 undef,t.getD 34 undef,t.getD 35 undef,t.getD 36 undef,t.getD 37 undef,t.getD 38 undef,t.getD 39 undef,t.getD 40 undef,t.getD 41 undef,t.getD 42 undef,t.getD 43 undef,t.getD 44 undef,t.getD 45 undef,t.getD 46 undef,t.getD 47 undef,t.getD 48 undef,t.getD 49 undef,t.getD 50 undef,t.getD 51 undef,t.getD 52 undef,t.getD 53 undef,t.getD 54 undef,t.getD 55 undef,t.getD 56 undef,t.getD 57 undef,t.getD 58 undef,t.getD 59 undef,t.getD 60 undef,t.getD 61 undef,t.getD 62 undef,t.getD 63 undef,t.getD 64 undef,t.getD 65 undef,t.getD 66 undef,t.getD 67 undef,t.getD 68 undef,t.getD 69 undef,t.getD 70 undef]=t->x0.heap.size<=g->x1.heap[g]?=some (.cells #[.int .i64 l0,.int .i64 l1] 77 (0,0))->Below x0.heap.size x0 x1->Exit.then K00 Q0 Exit.normal { tmps:=t,defers:=[] } x1:=by
    intro g_l x1 t ht l_ge l_k hw1
    obtain ⟨u1,hu⟩:∃ u:Nat->Value,t=#[u 0,u 1,u 2,.pointer (some ⟨w.heap.size,0,none⟩),.pointer (some ⟨w.heap.size+1,0,none⟩),.pointer (some ⟨w.heap.size+1+1,0,none⟩),.pointer (some ⟨w.heap.size+1+1+1,0,none⟩),.pointer (some ⟨g_l,0,none⟩),u 8,u 9,u 10,u 11,u 12,u 13,u 14,u 15,u 16,u 17,u 18,u 19,u 20,u 21,u 22,u 23,u 24,u 25,u 26,u 27,u 28,u 29,u 30,u 31,u 32,u 33,u 34,u 35,u 36,u 37,u 38,u 39,u 40,u 41,u 42,u 43,u 44,u 45,u 46,u 47,u 48,u 49,u 50,u 51,u 52,u 53,u 54,u 55,u 56,u 57,u 58,u 59,u 60,u 61,u 62,u 63,u 64,u 65,u 66,u 67,u 68,u 69,u 70]:=⟨fun k=>t.getD k undef,ht.symm⟩
    clear ht
    subst hu
    have H:=H.keeps hw1
    have a_k:=(hw1.block _ (Array.getElem?_eq_some_iff.1 a_k).1).trans a_k
    have b_k:=(hw1.block _ (Array.getElem?_eq_some_iff.1 b_k).1).trans b_k
    have c_k:=(hw1.block _ (Array.getElem?_eq_some_iff.1 c_k).1).trans c_k
    have r_k:=(hw1.block _ (Array.getElem?_eq_some_iff.1 r_k).1).trans r_k
    have hb1:=bel_trans hb0 hw1
    go_wp2_with fail
    rename_i K2 hK2
    have HN2:∀ (g:Nat) (x2:World) (t:Array Value),#[t.getD 0 undef,t.getD 1 undef,t.getD 2 undef,.pointer (some ⟨w.heap.size,0,none⟩),.pointer (some ⟨w.heap.size+1,0,none⟩),.pointer (some ⟨w.heap.size+1+1,0,none⟩),.pointer (some ⟨w.heap.size+1+1+1,0,none⟩),.pointer (some ⟨g_l,0,none⟩),t.getD 8 undef,.pointer (some ⟨g,0,none⟩),t.getD 10 undef,t.getD 11 undef,t.getD 12 undef,t.getD 13 undef,t.getD 14 undef,t.getD 15 undef,t.getD 16 undef,t.getD 17 undef,t.getD 18 undef,t.getD 19 undef,t.getD 20 undef,t.getD 21 undef,t.getD 22 undef,t.getD 23 undef,t.getD 24 undef,t.getD 25 undef,t.getD 26 undef,t.getD 27 undef,t.getD 28 undef,t.getD 29 undef,t.getD 30 undef,t.getD 31 undef,t.getD 32 undef,t.getD 33 undef,t.getD 34 undef,t.getD 35 undef,t.getD 36 undef,t.getD 37 undef,t.getD 38 undef,t.getD 39 undef,t.getD 40 undef,t.getD 41 undef,t.getD 42 undef,t.getD 43 undef,t.getD 44 undef,t.getD 45 undef,t.getD 46 undef,t.getD 47 undef,t.getD 48 undef,t.getD 49 undef,t.getD 50 undef,t.getD 51 undef,t.getD 52 undef,t.getD 53 undef,t.getD 54 undef,t.getD 55 undef,t.getD 56 undef,t.getD 57 undef,t.getD 58 undef,t.getD 59 undef,t.getD 60 undef,t.getD 61 undef,t.getD 62 undef,t.getD 63 undef,t.getD 64 undef,t.getD 65 undef,t.getD 66 undef,t.getD 67 undef,t.getD 68 undef,t.getD 69 undef,t.getD 70 undef]=t->x1.heap.size<=g->x2.heap[g]?=some (.cells #[.int .i64 s0,.int .i64 s1] 77 (0,0))->Below x1.heap.size x1 x2->Exit.then K2 Q0 Exit.normal { tmps:=t,defers:=[] } x2:=by
      intro g_s x2 t ht s_ge s_k hw2
      obtain ⟨u2,hu⟩:∃ u:Nat->Value,t=#[u 0,u 1,u 2,.pointer (some ⟨w.heap.size,0,none⟩),.pointer (some ⟨w.heap.size+1,0,none⟩),.pointer (some ⟨w.heap.size+1+1,0,none⟩),.pointer (some ⟨w.heap.size+1+1+1,0,none⟩),.pointer (some ⟨g_l,0,none⟩),u 8,.pointer (some ⟨g_s,0,none⟩),u 10,u 11,u 12,u 13,u 14,u 15,u 16,u 17,u 18,u 19,u 20,u 21,u 22,u 23,u 24,u 25,u 26,u 27,u 28,u 29,u 30,u 31,u 32,u 33,u 34,u 35,u 36,u 37,u 38,u 39,u 40,u 41,u 42,u 43,u 44,u 45,u 46,u 47,u 48,u 49,u 50,u 51,u 52,u 53,u 54,u 55,u 56,u 57,u 58,u 59,u 60,u 61,u 62,u 63,u 64,u 65,u 66,u 67,u 68,u 69,u 70]:=⟨fun k=>t.getD k undef,ht.symm⟩
      clear ht
      subst hu
      have H:=H.keeps hw2
      have a_k:=(hw2.block _ (Array.getElem?_eq_some_iff.1 a_k).1).trans a_k
      have b_k:=(hw2.block _ (Array.getElem?_eq_some_iff.1 b_k).1).trans b_k
      have c_k:=(hw2.block _ (Array.getElem?_eq_some_iff.1 c_k).1).trans c_k
      have r_k:=(hw2.block _ (Array.getElem?_eq_some_iff.1 r_k).1).trans r_k
      have l_k:=(hw2.block _ (Array.getElem?_eq_some_iff.1 l_k).1).trans l_k
      have hb2:=bel_trans hb1 hw2
      have f_l0:=blkC l_k 0 rfl
      have f_l1:=blkC l_k 1 rfl
      have f_s0:=blkC s_k 0 rfl
      have f_s1:=blkC s_k 1 rfl
      go_wp2_with fail
      clear f_l0 f_l1 f_s0 f_s1
      refine (S1.out _ H).mono ?_
      rintro _ ye ⟨rfl,hwe⟩
      replace a_k:=heap_past (.cells #[.int .i64 lo,.int .i64 hi] 77) (blk_on hwe a_k)
      replace b_k:=heap_past (.cells #[.int .i64 lo,.int .i64 hi] 77) (blk_on hwe b_k)
      replace c_k:=heap_past (.cells #[.int .i64 lo,.int .i64 hi] 77) (blk_on hwe c_k)
      replace r_k:=heap_past (.cells #[.int .i64 lo,.int .i64 hi] 77) (blk_on hwe r_k)
      replace H:=(H.keeps hwe).keeps (bel_alloc ye (.cells #[.int .i64 lo,.int .i64 hi] 77))
      have hbe:=bel_trans (bel_trans hb2 hwe) (bel_alloc ye (.cells #[.int .i64 lo,.int .i64 hi] 77))
      go_wp2_with fail
      generalize ye.alloc (.cells #[.int .i64 lo,.int .i64 hi] 77)=xe at a_k b_k c_k r_k H hbe ⊢
      refine (CS.out _).mono ?_
      rintro _ yf ⟨rfl,hwf⟩
      replace a_k:=blk_on hwf a_k
      replace b_k:=blk_on hwf b_k
      replace c_k:=blk_on hwf c_k
      replace r_k:=blk_on hwf r_k
      replace hbe:=bel_trans hbe hwf
      replace H:=H.keeps hwf
      cases kb
      . have f_a0:=blkC a_k 0 rfl
        have f_a1:=blkC a_k 1 rfl
        have f_b0:=blkC b_k 0 rfl
        have f_b1:=blkC b_k 1 rfl
        have f_c0:=blkC c_k 0 rfl
        have f_c1:=blkC c_k 1 rfl
        go_wp2_with fail
        clear f_a0 f_a1 f_b0 f_b1 f_c0 f_c1
        refine (CX.out _ H).mono ?_
        rintro _ yg ⟨n_g,n_o,n_n,n_c,n_e,rfl,CG,hwg⟩
        replace r_k:=blk_on hwg r_k
        replace hbe:=bel_trans hbe hwg
        go_wp2_with fail
        refine (CG _ (bel_refl _)).mono ?_
        rintro _ yh ⟨rfl,hwh⟩
        replace r_k:=blk_on hwh r_k
        replace hbe:=bel_trans hbe hwh
        have k0:=blkC r_k 0 rfl
        have k1:=blkC r_k 1 rfl
        have z0:=blkF r_k 0
        have z1:=blkF r_k 1
        go_wp2
        exact bodyPost_ret (v:=.agg #[.int .i64 sgn,.int .i64 6]) (by simp [results,Tryz.results24,go_sem,k0,k1]) rfl ⟨rfl,((hbe.setCell (p:=⟨w.heap.size+3,0,none⟩) (show w.heap.size<=w.heap.size+3 by omega) _).setCell (p:=⟨w.heap.size+3,1,none⟩) (show w.heap.size<=w.heap.size+3 by omega) _)⟩
      . obtain rfl:=HSO.out rfl
        have k0:=blkC r_k 0 rfl
        have k1:=blkC r_k 1 rfl
        have z0:=blkF r_k 0
        have z1:=blkF r_k 1
        go_wp2
        exact bodyPost_ret (v:=.agg #[.int .i64 sgo,.int .i64 5]) (by simp [results,Tryz.results24,go_sem,k0,k1]) rfl ⟨rfl,((hbe.setCell (p:=⟨w.heap.size+3,0,none⟩) (show w.heap.size<=w.heap.size+3 by omega) _).setCell (p:=⟨w.heap.size+3,1,none⟩) (show w.heap.size<=w.heap.size+3 by omega) _)⟩
    have KK2:∀ W,Below x1.heap.size x1 W->W.cell? ⟨w.heap.size,1,none⟩=some (.int .i64 ay)∧W.cell? ⟨w.heap.size+2,1,none⟩=some (.int .i64 cy)∧W.cell? ⟨w.heap.size+1,0,none⟩=some (.int .i64 bx)∧W.cell? ⟨w.heap.size+2,0,none⟩=some (.int .i64 cx):=fun W hb=>⟨q_cell (blkC a_k 1 rfl) hb,q_cell (blkC c_k 1 rfl) hb,q_cell (blkC b_k 0 rfl) hb,q_cell (blkC c_k 0 rfl) hb⟩
    have hC2_0:=(bel_refl x1).drew
    have hT2_0:Below w.heap.size w x1.drew:=hb1.drew
    have H_2_0:=H.keeps (bel_refl x1).drew
    have hs2_0:=(bel_refl x1).drew
    go_region_held3 (fun W=>W.cell? ⟨w.heap.size,1,none⟩=some (.int .i64 ay)∧W.cell? ⟨w.heap.size+2,1,none⟩=some (.int .i64 cy)∧W.cell? ⟨w.heap.size+1,0,none⟩=some (.int .i64 bx)∧W.cell? ⟨w.heap.size+2,0,none⟩=some (.int .i64 cx))
      (with_reducible first | assumption | exact KK2 _ (bel_alloc _ _).drew | exact KK2 _ hC2_0 | exact KK2 _ hC2_1 | exact KK2 _ hC2_2 | exact KK2 _ hC2_3 | exact KK2 _ (bel_trans hC2_0 (bel_alloc _ _)) | exact KK2 _ (bel_trans hC2_1 (bel_alloc _ _)) | exact KK2 _ (bel_trans hC2_2 (bel_alloc _ _)) | exact KK2 _ (bel_trans hC2_3 (bel_alloc _ _)) | exact KK2 _ (bel_set2q (hC2_3) (Nat.le_refl _) _ _) | exact KK2 _ (bel_set2q (hC2_3) (hC2_1.size) _ _) | exact KK2 _ (bel_set2q (hC2_3) (hC2_2.size) _ _) | fail)
      (first
        | (go_at_call 41; have _t:=hs2_2; refine (M2.out _ (H_2_2.keeps (by with_reducible first | exact bel_refl _ | exact bel_alloc _ _ | exact bel_dr _ _))).mono ?_; rintro _ y2_3 ⟨rfl,hq2_3⟩; have hs2_3:Below y2_2.heap.size y2_2 y2_3:=(by with_reducible first | exact hq2_3 | exact bel_trans (bel_alloc _ _) hq2_3 | exact bel_trans (bel_dr _ _) hq2_3); have hT2_3:=bel_trans hT2_2 hs2_3; have hC2_3:=bel_trans hC2_2 hs2_3; have H_2_3:=H_2_2.keeps hs2_3; with_reducible first | (have qz2:y2_3.heap[x1.heap.size]?=some (.cells #[.int .i64 0,.int .i64 0] 77 (0,0)):=blk_on hq2_3 (blk_on hq2_2 (blk_on hq2_1 (heap_a1d x1 (.cells #[.int .i64 0,.int .i64 0] 77)))); have cz2_0:=blkC qz2 0 rfl; have zz2_0:=blkF qz2 0; have cz2_1:=blkC qz2 1 rfl; have zz2_1:=blkF qz2 1) | (have qz2:y2_3.heap[y2_1.heap.size]?=some (.cells #[.int .i64 0,.int .i64 0] 77 (0,0)):=blk_on hq2_3 (blk_on hq2_2 (heap_a1 _ _)); have cz2_0:=blkC qz2 0 rfl; have zz2_0:=blkF qz2 0; have cz2_1:=blkC qz2 1 rfl; have zz2_1:=blkF qz2 1) | (have qz2:y2_3.heap[y2_2.heap.size]?=some (.cells #[.int .i64 0,.int .i64 0] 77 (0,0)):=blk_on hq2_3 (heap_a1 _ _); have cz2_0:=blkC qz2 0 rfl; have zz2_0:=blkF qz2 0; have cz2_1:=blkC qz2 1 rfl; have zz2_1:=blkF qz2 1) | skip)
        | (go_at_call 42; have _t:=hs2_1; refine (A4.out _ (H_2_1.keeps (by with_reducible first | exact bel_refl _ | exact bel_alloc _ _ | exact bel_dr _ _))).mono ?_; rintro _ y2_2 ⟨rfl,hq2_2⟩; have hs2_2:Below y2_1.heap.size y2_1 y2_2:=(by with_reducible first | exact hq2_2 | exact bel_trans (bel_alloc _ _) hq2_2 | exact bel_trans (bel_dr _ _) hq2_2); have hT2_2:=bel_trans hT2_1 hs2_2; have hC2_2:=bel_trans hC2_1 hs2_2; have H_2_2:=H_2_1.keeps hs2_2)
        | (go_at_call 42; refine (A3.out _ (H_2_0.keeps (by with_reducible first | exact bel_refl _ | exact bel_alloc _ _ | exact bel_dr _ _))).mono ?_; rintro _ y2_1 ⟨rfl,hq2_1⟩; have hs2_1:Below x1.drew.heap.size x1.drew y2_1:=(by with_reducible first | exact hq2_1 | exact bel_trans (bel_alloc _ _) hq2_1 | exact bel_trans (bel_dr _ _) hq2_1); have hT2_1:=bel_trans hT2_0 hs2_1; have hC2_1:=bel_trans hC2_0 hs2_1; have H_2_1:=H_2_0.keeps hs2_1))
    . exact HN2 y2_3.heap.size _ _ (by kernel_rfl) ((bel_trans (bel_trans (bel_trans (hs2_0) hs2_1) hs2_2) hs2_3).size) (heap_a1 _ _) (bel_trans (bel_trans (bel_trans (bel_trans (hs2_0) hs2_1) hs2_2) hs2_3) (bel_alloc _ _))
    . exact HN2 y2_2.heap.size _ _ (by kernel_rfl) ((bel_trans (bel_trans (hs2_0) hs2_1) hs2_2).size) (heap_set (heap_set (blk_on hq2_3 (heap_a1 _ _)) 0 _) 1 _) (bel_set2q (bel_trans (bel_trans (bel_trans (hs2_0) hs2_1) hs2_2) hs2_3) ((bel_trans (bel_trans (hs2_0) hs2_1) hs2_2).size) _ _)
    . exact HN2 y2_1.heap.size _ _ (by kernel_rfl) ((bel_trans (hs2_0) hs2_1).size) (heap_set (heap_set (blk_on hq2_3 (blk_on hq2_2 (heap_a1 _ _))) 0 _) 1 _) (bel_set2q (bel_trans (bel_trans (bel_trans (hs2_0) hs2_1) hs2_2) hs2_3) ((bel_trans (hs2_0) hs2_1).size) _ _)
    . exact HN2 x1.heap.size _ _ (by kernel_rfl) (Nat.le_refl _) (heap_set (heap_set (blk_on hq2_3 (blk_on hq2_2 (blk_on hq2_1 (heap_a1d x1 (.cells #[.int .i64 0,.int .i64 0] 77))))) 0 _) 1 _) (bel_set2q (bel_trans (bel_trans (bel_trans (hs2_0) hs2_1) hs2_2) hs2_3) (Nat.le_refl _) _ _)
  have KK1:∀ W,Below x0.heap.size x0 W->W.cell? ⟨w.heap.size,0,none⟩=some (.int .i64 ax)∧W.cell? ⟨w.heap.size+2,0,none⟩=some (.int .i64 cx)∧W.cell? ⟨w.heap.size+1,1,none⟩=some (.int .i64 by')∧W.cell? ⟨w.heap.size+2,1,none⟩=some (.int .i64 cy):=fun W hb=>⟨q_cell (blkC a_k 0 rfl) hb,q_cell (blkC c_k 0 rfl) hb,q_cell (blkC b_k 1 rfl) hb,q_cell (blkC c_k 1 rfl) hb⟩
  have hC1_0:=(bel_refl x0).drew
  have hT1_0:Below w.heap.size w x0.drew:=hb0.drew
  have H_1_0:=H.keeps (bel_refl x0).drew
  have hs1_0:=(bel_refl x0).drew
  go_region_held3 (fun W=>W.cell? ⟨w.heap.size,0,none⟩=some (.int .i64 ax)∧W.cell? ⟨w.heap.size+2,0,none⟩=some (.int .i64 cx)∧W.cell? ⟨w.heap.size+1,1,none⟩=some (.int .i64 by')∧W.cell? ⟨w.heap.size+2,1,none⟩=some (.int .i64 cy))
    (with_reducible first | assumption | exact KK1 _ (bel_alloc _ _).drew | exact KK1 _ hC1_0 | exact KK1 _ hC1_1 | exact KK1 _ hC1_2 | exact KK1 _ hC1_3 | exact KK1 _ (bel_trans hC1_0 (bel_alloc _ _)) | exact KK1 _ (bel_trans hC1_1 (bel_alloc _ _)) | exact KK1 _ (bel_trans hC1_2 (bel_alloc _ _)) | exact KK1 _ (bel_trans hC1_3 (bel_alloc _ _)) | exact KK1 _ (bel_set2q (hC1_3) (Nat.le_refl _) _ _) | exact KK1 _ (bel_set2q (hC1_3) (hC1_1.size) _ _) | exact KK1 _ (bel_set2q (hC1_3) (hC1_2.size) _ _) | fail)
    (first
      | (go_at_call 41; have _t:=hs1_2; refine (M1.out _ (H_1_2.keeps (by with_reducible first | exact bel_refl _ | exact bel_alloc _ _ | exact bel_dr _ _))).mono ?_; rintro _ y1_3 ⟨rfl,hq1_3⟩; have hs1_3:Below y1_2.heap.size y1_2 y1_3:=(by with_reducible first | exact hq1_3 | exact bel_trans (bel_alloc _ _) hq1_3 | exact bel_trans (bel_dr _ _) hq1_3); have hT1_3:=bel_trans hT1_2 hs1_3; have hC1_3:=bel_trans hC1_2 hs1_3; have H_1_3:=H_1_2.keeps hs1_3; with_reducible first | (have qz1:y1_3.heap[x0.heap.size]?=some (.cells #[.int .i64 0,.int .i64 0] 77 (0,0)):=blk_on hq1_3 (blk_on hq1_2 (blk_on hq1_1 (heap_a1d x0 (.cells #[.int .i64 0,.int .i64 0] 77)))); have cz1_0:=blkC qz1 0 rfl; have zz1_0:=blkF qz1 0; have cz1_1:=blkC qz1 1 rfl; have zz1_1:=blkF qz1 1) | (have qz1:y1_3.heap[y1_1.heap.size]?=some (.cells #[.int .i64 0,.int .i64 0] 77 (0,0)):=blk_on hq1_3 (blk_on hq1_2 (heap_a1 _ _)); have cz1_0:=blkC qz1 0 rfl; have zz1_0:=blkF qz1 0; have cz1_1:=blkC qz1 1 rfl; have zz1_1:=blkF qz1 1) | (have qz1:y1_3.heap[y1_2.heap.size]?=some (.cells #[.int .i64 0,.int .i64 0] 77 (0,0)):=blk_on hq1_3 (heap_a1 _ _); have cz1_0:=blkC qz1 0 rfl; have zz1_0:=blkF qz1 0; have cz1_1:=blkC qz1 1 rfl; have zz1_1:=blkF qz1 1) | skip)
      | (go_at_call 42; have _t:=hs1_1; refine (A2.out _ (H_1_1.keeps (by with_reducible first | exact bel_refl _ | exact bel_alloc _ _ | exact bel_dr _ _))).mono ?_; rintro _ y1_2 ⟨rfl,hq1_2⟩; have hs1_2:Below y1_1.heap.size y1_1 y1_2:=(by with_reducible first | exact hq1_2 | exact bel_trans (bel_alloc _ _) hq1_2 | exact bel_trans (bel_dr _ _) hq1_2); have hT1_2:=bel_trans hT1_1 hs1_2; have hC1_2:=bel_trans hC1_1 hs1_2; have H_1_2:=H_1_1.keeps hs1_2)
      | (go_at_call 42; refine (A1.out _ (H_1_0.keeps (by with_reducible first | exact bel_refl _ | exact bel_alloc _ _ | exact bel_dr _ _))).mono ?_; rintro _ y1_1 ⟨rfl,hq1_1⟩; have hs1_1:Below x0.drew.heap.size x0.drew y1_1:=(by with_reducible first | exact hq1_1 | exact bel_trans (bel_alloc _ _) hq1_1 | exact bel_trans (bel_dr _ _) hq1_1); have hT1_1:=bel_trans hT1_0 hs1_1; have hC1_1:=bel_trans hC1_0 hs1_1; have H_1_1:=H_1_0.keeps hs1_1))
  . exact HN1 y1_3.heap.size _ _ (by kernel_rfl) ((bel_trans (bel_trans (bel_trans (hs1_0) hs1_1) hs1_2) hs1_3).size) (heap_a1 _ _) (bel_trans (bel_trans (bel_trans (bel_trans (hs1_0) hs1_1) hs1_2) hs1_3) (bel_alloc _ _))
  . exact HN1 y1_2.heap.size _ _ (by kernel_rfl) ((bel_trans (bel_trans (hs1_0) hs1_1) hs1_2).size) (heap_set (heap_set (blk_on hq1_3 (heap_a1 _ _)) 0 _) 1 _) (bel_set2q (bel_trans (bel_trans (bel_trans (hs1_0) hs1_1) hs1_2) hs1_3) ((bel_trans (bel_trans (hs1_0) hs1_1) hs1_2).size) _ _)
  . exact HN1 y1_1.heap.size _ _ (by kernel_rfl) ((bel_trans (hs1_0) hs1_1).size) (heap_set (heap_set (blk_on hq1_3 (blk_on hq1_2 (heap_a1 _ _))) 0 _) 1 _) (bel_set2q (bel_trans (bel_trans (bel_trans (hs1_0) hs1_1) hs1_2) hs1_3) ((bel_trans (hs1_0) hs1_1).size) _ _)
  . exact HN1 x0.heap.size _ _ (by kernel_rfl) (Nat.le_refl _) (heap_set (heap_set (blk_on hq1_3 (blk_on hq1_2 (blk_on hq1_1 (heap_a1d x0 (.cells #[.int .i64 0,.int .i64 0] 77))))) 0 _) 1 _) (bel_set2q (bel_trans (bel_trans (bel_trans (hs1_0) hs1_1) hs1_2) hs1_3) (Nat.le_refl _) _ _)
set_option maxRecDepth 100000 in
theorem opoints_any {ax ay bx by' cx cy:Int} (rax:rng ax) (ray:rng ay) (rbx:rng bx) (rby:rng by') (rcx:rng cx) (rcy:rng cy) (w:World) :
    Calls Tryz.prog 23 #[.agg #[.int .i64 ax,.int .i64 ay],.agg #[.int .i64 bx,.int .i64 by'],.agg #[.int .i64 cx,.int .i64 cy]] w fun r w'=>r=.returned (.bool ((pok ax && pok ay) && (pok bx && pok by') && (pok cx && pok cy)))∧Below w.heap.size w w':=by
  have CA:Hid (∀ W,Calls Tryz.prog 18 #[.agg #[.int .i64 ax,.int .i64 ay]] W fun e w'=>e=.returned (.int .i64 (errF (pok ax && pok ay)))∧Below W.heap.size W w'):=fun W=>pointCheck rax ray W
  have CB:Hid (∀ W,Calls Tryz.prog 18 #[.agg #[.int .i64 bx,.int .i64 by']] W fun e w'=>e=.returned (.int .i64 (errF (pok bx && pok by')))∧Below W.heap.size W w'):=fun W=>pointCheck rbx rby W
  have CC:Hid (∀ W,Calls Tryz.prog 18 #[.agg #[.int .i64 cx,.int .i64 cy]] W fun e w'=>e=.returned (.int .i64 (errF (pok cx && pok cy)))∧Below W.heap.size W w'):=fun W=>pointCheck rcx rcy W
  have hb0:=bel_a3 w (.cells #[.int .i64 ax,.int .i64 ay] 23) (.cells #[.int .i64 bx,.int .i64 by'] 23) (.cells #[.int .i64 cx,.int .i64 cy] 23)
  have a_k:=h3_0 w (.cells #[.int .i64 ax,.int .i64 ay] 23) (.cells #[.int .i64 bx,.int .i64 by'] 23) (.cells #[.int .i64 cx,.int .i64 cy] 23)
  have b_k:=h3_1 w (.cells #[.int .i64 ax,.int .i64 ay] 23) (.cells #[.int .i64 bx,.int .i64 by'] 23) (.cells #[.int .i64 cx,.int .i64 cy] 23)
  have c_k:=h3_2 w (.cells #[.int .i64 ax,.int .i64 ay] 23) (.cells #[.int .i64 bx,.int .i64 by'] 23) (.cells #[.int .i64 cx,.int .i64 cy] 23)
  clear rax ray rbx rby rcx rcy
  have e0:errF true=0:=rfl
  have e1:errF false=10:=rfl
  generalize (pok ax && pok ay)=P at *
  generalize (pok bx && pok by')=Q at *
  generalize (pok cx && pok cy)=R at *
  cases P
  . rw [e1] at CA
    go_enter Tryz.func23,Tryz.ntmps23
    go_wp2_with fail
    generalize ((w.alloc (.cells #[.int .i64 ax,.int .i64 ay] 23)).alloc (.cells #[.int .i64 bx,.int .i64 by'] 23)).alloc (.cells #[.int .i64 cx,.int .i64 cy] 23)=x0 at hb0 a_k b_k c_k ⊢
    refine (CA.out _).mono ?_
    rintro _ y0 ⟨rfl,hw0⟩
    have b_k:=(hw0.block _ (Array.getElem?_eq_some_iff.1 b_k).1).trans b_k
    have c_k:=(hw0.block _ (Array.getElem?_eq_some_iff.1 c_k).1).trans c_k
    have hb1:=bel_trans hb0 hw0
    go_wp2
    all_goals go_ret
    all_goals exact ⟨rfl,by first | exact hb1 | exact hb1.drew⟩
  rw [e0] at CA
  cases Q
  . rw [e1] at CB
    go_enter Tryz.func23,Tryz.ntmps23
    go_wp2_with fail
    generalize ((w.alloc (.cells #[.int .i64 ax,.int .i64 ay] 23)).alloc (.cells #[.int .i64 bx,.int .i64 by'] 23)).alloc (.cells #[.int .i64 cx,.int .i64 cy] 23)=x0 at hb0 a_k b_k c_k ⊢
    refine (CA.out _).mono ?_
    rintro _ y0 ⟨rfl,hw0⟩
    have b_k:=(hw0.block _ (Array.getElem?_eq_some_iff.1 b_k).1).trans b_k
    have c_k:=(hw0.block _ (Array.getElem?_eq_some_iff.1 c_k).1).trans c_k
    have hb1:=bel_trans hb0 hw0
    have f10:=blkC b_k 0 rfl
    have f11:=blkC b_k 1 rfl
    go_wp2_with fail
    refine (CB.out _).mono ?_
    rintro _ y1 ⟨rfl,hw1⟩
    have c_k:=(hw1.block _ (Array.getElem?_eq_some_iff.1 c_k).1).trans c_k
    have hb2:=bel_trans hb1 hw1
    go_wp2
    all_goals go_ret
    all_goals exact ⟨rfl,by first | exact hb2 | exact hb2.drew⟩
  rw [e0] at CB
  cases R
  . rw [e1] at CC
    go_enter Tryz.func23,Tryz.ntmps23
    go_wp2_with fail
    generalize ((w.alloc (.cells #[.int .i64 ax,.int .i64 ay] 23)).alloc (.cells #[.int .i64 bx,.int .i64 by'] 23)).alloc (.cells #[.int .i64 cx,.int .i64 cy] 23)=x0 at hb0 a_k b_k c_k ⊢
    refine (CA.out _).mono ?_
    rintro _ y0 ⟨rfl,hw0⟩
    have b_k:=(hw0.block _ (Array.getElem?_eq_some_iff.1 b_k).1).trans b_k
    have c_k:=(hw0.block _ (Array.getElem?_eq_some_iff.1 c_k).1).trans c_k
    have hb1:=bel_trans hb0 hw0
    have f10:=blkC b_k 0 rfl
    have f11:=blkC b_k 1 rfl
    go_wp2_with fail
    refine (CB.out _).mono ?_
    rintro _ y1 ⟨rfl,hw1⟩
    have c_k:=(hw1.block _ (Array.getElem?_eq_some_iff.1 c_k).1).trans c_k
    have hb2:=bel_trans hb1 hw1
    have f20:=blkC c_k 0 rfl
    have f21:=blkC c_k 1 rfl
    go_wp2_with fail
    refine (CC.out _).mono ?_
    rintro _ y2 ⟨rfl,hw2⟩
    have hb3:=bel_trans hb2 hw2
    go_wp2
    all_goals go_ret
    all_goals exact ⟨rfl,by first | exact hb3 | exact hb3.drew⟩
  . rw [e0] at CC
    go_enter Tryz.func23,Tryz.ntmps23
    go_wp2_with fail
    generalize ((w.alloc (.cells #[.int .i64 ax,.int .i64 ay] 23)).alloc (.cells #[.int .i64 bx,.int .i64 by'] 23)).alloc (.cells #[.int .i64 cx,.int .i64 cy] 23)=x0 at hb0 a_k b_k c_k ⊢
    refine (CA.out _).mono ?_
    rintro _ y0 ⟨rfl,hw0⟩
    have b_k:=(hw0.block _ (Array.getElem?_eq_some_iff.1 b_k).1).trans b_k
    have c_k:=(hw0.block _ (Array.getElem?_eq_some_iff.1 c_k).1).trans c_k
    have hb1:=bel_trans hb0 hw0
    have f10:=blkC b_k 0 rfl
    have f11:=blkC b_k 1 rfl
    go_wp2_with fail
    refine (CB.out _).mono ?_
    rintro _ y1 ⟨rfl,hw1⟩
    have c_k:=(hw1.block _ (Array.getElem?_eq_some_iff.1 c_k).1).trans c_k
    have hb2:=bel_trans hb1 hw1
    have f20:=blkC c_k 0 rfl
    have f21:=blkC c_k 1 rfl
    go_wp2_with fail
    refine (CC.out _).mono ?_
    rintro _ y2 ⟨rfl,hw2⟩
    have hb3:=bel_trans hb2 hw2
    go_wp2
    all_goals go_ret
    all_goals exact ⟨rfl,by first | exact hb3 | exact hb3.drew⟩
def oSt (ax ay bx by' cx cy:Int):Int:=if allT3 ax ay bx by' cx cy then oStT ax ay bx by' cx cy else if sgK (owLo ax ay bx by' cx cy) (owHi ax ay bx by' cx cy) then 5 else 6
set_option maxRecDepth 100000 in
set_option maxHeartbeats 4000000 in
theorem oSign_walk {ax ay bx by' cx cy V U:Int} {b1 b2 b3:Bool} (hb:(b1 && b2 && b3)=true) (T1:∀ W,Calls Tryz.prog 21 #[.agg #[.int .i64 ax,.int .i64 ay]] W fun e w'=>e=.returned (.bool b1)∧Below W.heap.size W w') (T2:∀ W,Calls Tryz.prog 21 #[.agg #[.int .i64 bx,.int .i64 by']] W fun e w'=>e=.returned (.bool b2)∧Below W.heap.size W w') (T3:∀ W,Calls Tryz.prog 21 #[.agg #[.int .i64 cx,.int .i64 cy]] W fun e w'=>e=.returned (.bool b3)∧Below W.heap.size W w')
    (CV:∀ W,Hold4 W->Calls Tryz.prog 22 #[.agg #[.int .i64 ax,.int .i64 ay],.agg #[.int .i64 bx,.int .i64 by'],.agg #[.int .i64 cx,.int .i64 cy]] W fun r w'=>r=.returned (.agg #[.int .i64 V,.int .i64 U])∧Below W.heap.size W w') (w:World) (H:Hold4 w) :
    Calls Tryz.prog 13 #[.agg #[.int .i64 ax,.int .i64 ay],.agg #[.int .i64 bx,.int .i64 by'],.agg #[.int .i64 cx,.int .i64 cy]] w fun r w'=>r=.returned (.tuple #[.agg #[.int .i64 V,.int .i64 U],.int .i64 0])∧Below w.heap.size w w':=by
  obtain ⟨⟨rfl,rfl⟩,rfl⟩:(b1=true∧b2=true)∧b3=true:=by simpa using hb
  clear hb
  have h1:Hid _:=hideIt T1
  have h2:Hid _:=hideIt T2
  have h3:Hid _:=hideIt T3
  have h4:Hid _:=hideIt CV
  clear T1 T2 T3 CV
  obtain ⟨hb0,a_k,b_k,c_k,r_k,hsz0⟩:=blks4 w (.cells #[.int .i64 ax,.int .i64 ay] 23) (.cells #[.int .i64 bx,.int .i64 by'] 23) (.cells #[.int .i64 cx,.int .i64 cy] 23) (.cells #[.int .i64 0,.int .i64 0] 42)
  clear hsz0
  have f_a0:=blkC a_k 0 rfl
  have f_a1:=blkC a_k 1 rfl
  go_enter Tryz.func13,Tryz.ntmps13
  go_wp2_with fail
  clear f_a0 f_a1
  generalize ((((w.alloc (.cells #[.int .i64 ax,.int .i64 ay] 23)).alloc (.cells #[.int .i64 bx,.int .i64 by'] 23)).alloc (.cells #[.int .i64 cx,.int .i64 cy] 23)).alloc (.cells #[.int .i64 0,.int .i64 0] 42))=x0 at hb0 a_k b_k c_k r_k ⊢
  refine (h1.out _).mono ?_
  rintro _ y1 ⟨rfl,hw1⟩
  replace a_k:=blk_on hw1 a_k
  replace b_k:=blk_on hw1 b_k
  replace c_k:=blk_on hw1 c_k
  replace r_k:=blk_on hw1 r_k
  replace hb0:=bel_trans hb0 hw1
  have f_b0:=blkC b_k 0 rfl
  have f_b1:=blkC b_k 1 rfl
  go_wp2_with fail
  clear f_b0 f_b1
  refine (h2.out _).mono ?_
  rintro _ y2 ⟨rfl,hw2⟩
  replace a_k:=blk_on hw2 a_k
  replace b_k:=blk_on hw2 b_k
  replace c_k:=blk_on hw2 c_k
  replace r_k:=blk_on hw2 r_k
  replace hb0:=bel_trans hb0 hw2
  have f_c0:=blkC c_k 0 rfl
  have f_c1:=blkC c_k 1 rfl
  go_wp2_with fail
  clear f_c0 f_c1
  refine (h3.out _).mono ?_
  rintro _ y3 ⟨rfl,hw3⟩
  replace a_k:=blk_on hw3 a_k
  replace b_k:=blk_on hw3 b_k
  replace c_k:=blk_on hw3 c_k
  replace r_k:=blk_on hw3 r_k
  replace hb0:=bel_trans hb0 hw3
  have f_a0:=blkC a_k 0 rfl
  have f_a1:=blkC a_k 1 rfl
  have f_b0:=blkC b_k 0 rfl
  have f_b1:=blkC b_k 1 rfl
  have f_c0:=blkC c_k 0 rfl
  have f_c1:=blkC c_k 1 rfl
  go_wp2_with fail
  clear f_a0 f_a1 f_b0 f_b1 f_c0 f_c1
  replace H:=H.keeps hb0
  refine (h4.out _ H).mono ?_
  rintro _ y4 ⟨rfl,hw4⟩
  replace r_k:=blk_on hw4 r_k
  replace hb0:=bel_trans hb0 hw4
  have k0:=blkC r_k 0 rfl
  have k1:=blkC r_k 1 rfl
  have z0:=blkF r_k 0
  have z1:=blkF r_k 1
  go_wp2
  exact bodyPost_ret (v:=.tuple #[.agg #[.int .i64 V,.int .i64 U],.int .i64 0]) (by simp [results,Tryz.results13,go_sem,k0,k1]) rfl ⟨rfl,((hb0.setCell (p:=⟨w.heap.size+1+1+1,0,none⟩) (show w.heap.size<=w.heap.size+1+1+1 by omega) _).setCell (p:=⟨w.heap.size+1+1+1,1,none⟩) (show w.heap.size<=w.heap.size+1+1+1 by omega) _)⟩
set_option maxRecDepth 100000 in
set_option maxHeartbeats 4000000 in
theorem oSign_wild {ax ay bx by' cx cy V U:Int} {b1 b2 b3:Bool} (hb:(b1 && b2 && b3)=false) (T1:∀ W,Calls Tryz.prog 21 #[.agg #[.int .i64 ax,.int .i64 ay]] W fun e w'=>e=.returned (.bool b1)∧Below W.heap.size W w') (T2:∀ W,Calls Tryz.prog 21 #[.agg #[.int .i64 bx,.int .i64 by']] W fun e w'=>e=.returned (.bool b2)∧Below W.heap.size W w') (T3:∀ W,Calls Tryz.prog 21 #[.agg #[.int .i64 cx,.int .i64 cy]] W fun e w'=>e=.returned (.bool b3)∧Below W.heap.size W w')
    (CP:∀ W,Calls Tryz.prog 23 #[.agg #[.int .i64 ax,.int .i64 ay],.agg #[.int .i64 bx,.int .i64 by'],.agg #[.int .i64 cx,.int .i64 cy]] W fun r w'=>r=.returned (.bool true)∧Below W.heap.size W w')
    (CV:∀ W,Hold4 W->Calls Tryz.prog 24 #[.agg #[.int .i64 ax,.int .i64 ay],.agg #[.int .i64 bx,.int .i64 by'],.agg #[.int .i64 cx,.int .i64 cy]] W fun r w'=>r=.returned (.agg #[.int .i64 V,.int .i64 U])∧Below W.heap.size W w') (w:World) (H:Hold4 w) :
    Calls Tryz.prog 13 #[.agg #[.int .i64 ax,.int .i64 ay],.agg #[.int .i64 bx,.int .i64 by'],.agg #[.int .i64 cx,.int .i64 cy]] w fun r w'=>r=.returned (.tuple #[.agg #[.int .i64 V,.int .i64 U],.int .i64 0])∧Below w.heap.size w w':=by
  have h1:Hid _:=hideIt T1
  have h2:Hid _:=hideIt T2
  have h3:Hid _:=hideIt T3
  have h5:Hid _:=hideIt CP
  have h4:Hid _:=hideIt CV
  clear T1 T2 T3 CP CV
  cases b1
  . clear h2 h3
    obtain ⟨hb0,a_k,b_k,c_k,r_k,hsz0⟩:=blks4 w (.cells #[.int .i64 ax,.int .i64 ay] 23) (.cells #[.int .i64 bx,.int .i64 by'] 23) (.cells #[.int .i64 cx,.int .i64 cy] 23) (.cells #[.int .i64 0,.int .i64 0] 42)
    clear hsz0
    have f_a0:=blkC a_k 0 rfl
    have f_a1:=blkC a_k 1 rfl
    go_enter Tryz.func13,Tryz.ntmps13
    go_wp2_with fail
    clear f_a0 f_a1
    generalize ((((w.alloc (.cells #[.int .i64 ax,.int .i64 ay] 23)).alloc (.cells #[.int .i64 bx,.int .i64 by'] 23)).alloc (.cells #[.int .i64 cx,.int .i64 cy] 23)).alloc (.cells #[.int .i64 0,.int .i64 0] 42))=x0 at hb0 a_k b_k c_k r_k ⊢
    refine (h1.out _).mono ?_
    rintro _ y1 ⟨rfl,hw1⟩
    replace a_k:=blk_on hw1 a_k
    replace b_k:=blk_on hw1 b_k
    replace c_k:=blk_on hw1 c_k
    replace r_k:=blk_on hw1 r_k
    replace hb0:=bel_trans hb0 hw1
    have f_a0:=blkC a_k 0 rfl
    have f_a1:=blkC a_k 1 rfl
    have f_b0:=blkC b_k 0 rfl
    have f_b1:=blkC b_k 1 rfl
    have f_c0:=blkC c_k 0 rfl
    have f_c1:=blkC c_k 1 rfl
    go_wp2_with fail
    clear f_a0 f_a1 f_b0 f_b1 f_c0 f_c1
    refine (h5.out _).mono ?_
    rintro _ y5 ⟨rfl,hw5⟩
    replace a_k:=blk_on hw5 a_k
    replace b_k:=blk_on hw5 b_k
    replace c_k:=blk_on hw5 c_k
    replace r_k:=blk_on hw5 r_k
    replace hb0:=bel_trans hb0 hw5
    have f_a0:=blkC a_k 0 rfl
    have f_a1:=blkC a_k 1 rfl
    have f_b0:=blkC b_k 0 rfl
    have f_b1:=blkC b_k 1 rfl
    have f_c0:=blkC c_k 0 rfl
    have f_c1:=blkC c_k 1 rfl
    go_wp2_with fail
    clear f_a0 f_a1 f_b0 f_b1 f_c0 f_c1
    replace H:=H.keeps hb0
    refine (h4.out _ H).mono ?_
    rintro _ y4 ⟨rfl,hw4⟩
    replace r_k:=blk_on hw4 r_k
    replace hb0:=bel_trans hb0 hw4
    have k0:=blkC r_k 0 rfl
    have k1:=blkC r_k 1 rfl
    have z0:=blkF r_k 0
    have z1:=blkF r_k 1
    go_wp2
    exact bodyPost_ret (v:=.tuple #[.agg #[.int .i64 V,.int .i64 U],.int .i64 0]) (by simp [results,Tryz.results13,go_sem,k0,k1]) rfl ⟨rfl,((hb0.setCell (p:=⟨w.heap.size+1+1+1,0,none⟩) (show w.heap.size<=w.heap.size+1+1+1 by omega) _).setCell (p:=⟨w.heap.size+1+1+1,1,none⟩) (show w.heap.size<=w.heap.size+1+1+1 by omega) _)⟩
  cases b2
  . clear h3
    obtain ⟨hb0,a_k,b_k,c_k,r_k,hsz0⟩:=blks4 w (.cells #[.int .i64 ax,.int .i64 ay] 23) (.cells #[.int .i64 bx,.int .i64 by'] 23) (.cells #[.int .i64 cx,.int .i64 cy] 23) (.cells #[.int .i64 0,.int .i64 0] 42)
    clear hsz0
    have f_a0:=blkC a_k 0 rfl
    have f_a1:=blkC a_k 1 rfl
    go_enter Tryz.func13,Tryz.ntmps13
    go_wp2_with fail
    clear f_a0 f_a1
    generalize ((((w.alloc (.cells #[.int .i64 ax,.int .i64 ay] 23)).alloc (.cells #[.int .i64 bx,.int .i64 by'] 23)).alloc (.cells #[.int .i64 cx,.int .i64 cy] 23)).alloc (.cells #[.int .i64 0,.int .i64 0] 42))=x0 at hb0 a_k b_k c_k r_k ⊢
    refine (h1.out _).mono ?_
    rintro _ y1 ⟨rfl,hw1⟩
    replace a_k:=blk_on hw1 a_k
    replace b_k:=blk_on hw1 b_k
    replace c_k:=blk_on hw1 c_k
    replace r_k:=blk_on hw1 r_k
    replace hb0:=bel_trans hb0 hw1
    have f_b0:=blkC b_k 0 rfl
    have f_b1:=blkC b_k 1 rfl
    go_wp2_with fail
    clear f_b0 f_b1
    refine (h2.out _).mono ?_
    rintro _ y2 ⟨rfl,hw2⟩
    replace a_k:=blk_on hw2 a_k
    replace b_k:=blk_on hw2 b_k
    replace c_k:=blk_on hw2 c_k
    replace r_k:=blk_on hw2 r_k
    replace hb0:=bel_trans hb0 hw2
    have f_a0:=blkC a_k 0 rfl
    have f_a1:=blkC a_k 1 rfl
    have f_b0:=blkC b_k 0 rfl
    have f_b1:=blkC b_k 1 rfl
    have f_c0:=blkC c_k 0 rfl
    have f_c1:=blkC c_k 1 rfl
    go_wp2_with fail
    clear f_a0 f_a1 f_b0 f_b1 f_c0 f_c1
    refine (h5.out _).mono ?_
    rintro _ y5 ⟨rfl,hw5⟩
    replace a_k:=blk_on hw5 a_k
    replace b_k:=blk_on hw5 b_k
    replace c_k:=blk_on hw5 c_k
    replace r_k:=blk_on hw5 r_k
    replace hb0:=bel_trans hb0 hw5
    have f_a0:=blkC a_k 0 rfl
    have f_a1:=blkC a_k 1 rfl
    have f_b0:=blkC b_k 0 rfl
    have f_b1:=blkC b_k 1 rfl
    have f_c0:=blkC c_k 0 rfl
    have f_c1:=blkC c_k 1 rfl
    go_wp2_with fail
    clear f_a0 f_a1 f_b0 f_b1 f_c0 f_c1
    replace H:=H.keeps hb0
    refine (h4.out _ H).mono ?_
    rintro _ y4 ⟨rfl,hw4⟩
    replace r_k:=blk_on hw4 r_k
    replace hb0:=bel_trans hb0 hw4
    have k0:=blkC r_k 0 rfl
    have k1:=blkC r_k 1 rfl
    have z0:=blkF r_k 0
    have z1:=blkF r_k 1
    go_wp2
    exact bodyPost_ret (v:=.tuple #[.agg #[.int .i64 V,.int .i64 U],.int .i64 0]) (by simp [results,Tryz.results13,go_sem,k0,k1]) rfl ⟨rfl,((hb0.setCell (p:=⟨w.heap.size+1+1+1,0,none⟩) (show w.heap.size<=w.heap.size+1+1+1 by omega) _).setCell (p:=⟨w.heap.size+1+1+1,1,none⟩) (show w.heap.size<=w.heap.size+1+1+1 by omega) _)⟩
  cases b3
  . skip
    obtain ⟨hb0,a_k,b_k,c_k,r_k,hsz0⟩:=blks4 w (.cells #[.int .i64 ax,.int .i64 ay] 23) (.cells #[.int .i64 bx,.int .i64 by'] 23) (.cells #[.int .i64 cx,.int .i64 cy] 23) (.cells #[.int .i64 0,.int .i64 0] 42)
    clear hsz0
    have f_a0:=blkC a_k 0 rfl
    have f_a1:=blkC a_k 1 rfl
    go_enter Tryz.func13,Tryz.ntmps13
    go_wp2_with fail
    clear f_a0 f_a1
    generalize ((((w.alloc (.cells #[.int .i64 ax,.int .i64 ay] 23)).alloc (.cells #[.int .i64 bx,.int .i64 by'] 23)).alloc (.cells #[.int .i64 cx,.int .i64 cy] 23)).alloc (.cells #[.int .i64 0,.int .i64 0] 42))=x0 at hb0 a_k b_k c_k r_k ⊢
    refine (h1.out _).mono ?_
    rintro _ y1 ⟨rfl,hw1⟩
    replace a_k:=blk_on hw1 a_k
    replace b_k:=blk_on hw1 b_k
    replace c_k:=blk_on hw1 c_k
    replace r_k:=blk_on hw1 r_k
    replace hb0:=bel_trans hb0 hw1
    have f_b0:=blkC b_k 0 rfl
    have f_b1:=blkC b_k 1 rfl
    go_wp2_with fail
    clear f_b0 f_b1
    refine (h2.out _).mono ?_
    rintro _ y2 ⟨rfl,hw2⟩
    replace a_k:=blk_on hw2 a_k
    replace b_k:=blk_on hw2 b_k
    replace c_k:=blk_on hw2 c_k
    replace r_k:=blk_on hw2 r_k
    replace hb0:=bel_trans hb0 hw2
    have f_c0:=blkC c_k 0 rfl
    have f_c1:=blkC c_k 1 rfl
    go_wp2_with fail
    clear f_c0 f_c1
    refine (h3.out _).mono ?_
    rintro _ y3 ⟨rfl,hw3⟩
    replace a_k:=blk_on hw3 a_k
    replace b_k:=blk_on hw3 b_k
    replace c_k:=blk_on hw3 c_k
    replace r_k:=blk_on hw3 r_k
    replace hb0:=bel_trans hb0 hw3
    have f_a0:=blkC a_k 0 rfl
    have f_a1:=blkC a_k 1 rfl
    have f_b0:=blkC b_k 0 rfl
    have f_b1:=blkC b_k 1 rfl
    have f_c0:=blkC c_k 0 rfl
    have f_c1:=blkC c_k 1 rfl
    go_wp2_with fail
    clear f_a0 f_a1 f_b0 f_b1 f_c0 f_c1
    refine (h5.out _).mono ?_
    rintro _ y5 ⟨rfl,hw5⟩
    replace a_k:=blk_on hw5 a_k
    replace b_k:=blk_on hw5 b_k
    replace c_k:=blk_on hw5 c_k
    replace r_k:=blk_on hw5 r_k
    replace hb0:=bel_trans hb0 hw5
    have f_a0:=blkC a_k 0 rfl
    have f_a1:=blkC a_k 1 rfl
    have f_b0:=blkC b_k 0 rfl
    have f_b1:=blkC b_k 1 rfl
    have f_c0:=blkC c_k 0 rfl
    have f_c1:=blkC c_k 1 rfl
    go_wp2_with fail
    clear f_a0 f_a1 f_b0 f_b1 f_c0 f_c1
    replace H:=H.keeps hb0
    refine (h4.out _ H).mono ?_
    rintro _ y4 ⟨rfl,hw4⟩
    replace r_k:=blk_on hw4 r_k
    replace hb0:=bel_trans hb0 hw4
    have k0:=blkC r_k 0 rfl
    have k1:=blkC r_k 1 rfl
    have z0:=blkF r_k 0
    have z1:=blkF r_k 1
    go_wp2
    exact bodyPost_ret (v:=.tuple #[.agg #[.int .i64 V,.int .i64 U],.int .i64 0]) (by simp [results,Tryz.results13,go_sem,k0,k1]) rfl ⟨rfl,((hb0.setCell (p:=⟨w.heap.size+1+1+1,0,none⟩) (show w.heap.size<=w.heap.size+1+1+1 by omega) _).setCell (p:=⟨w.heap.size+1+1+1,1,none⟩) (show w.heap.size<=w.heap.size+1+1+1 by omega) _)⟩
  . simp at hb
theorem allT3_eq (ax ay bx by' cx cy:Int):allT3 ax ay bx by' cx cy=((tame ax && tame ay) && (tame bx && tame by') && (tame cx && tame cy)):=rfl
theorem oSign_ok {ax ay bx by' cx cy:Int} (rax:rng ax) (ray:rng ay) (rbx:rng bx) (rby:rng by') (rcx:rng cx) (rcy:rng cy) (pax:pok ax=true) (pay:pok ay=true) (pbx:pok bx=true) (pby:pok by'=true) (pcx:pok cx=true) (pcy:pok cy=true) (w:World) (H:Hold4 w) :
    Calls Tryz.prog 13 #[.agg #[.int .i64 ax,.int .i64 ay],.agg #[.int .i64 bx,.int .i64 by'],.agg #[.int .i64 cx,.int .i64 cy]] w fun r w'=>r=.returned (.tuple #[.agg #[.int .i64 (ord (oDet ax ay bx by' cx cy) 0),.int .i64 (oSt ax ay bx by' cx cy)],.int .i64 0])∧Below w.heap.size w w':=by
  cases hT:allT3 ax ay bx by' cx cy
  . have CP:∀ W,Calls Tryz.prog 23 #[.agg #[.int .i64 ax,.int .i64 ay],.agg #[.int .i64 bx,.int .i64 by'],.agg #[.int .i64 cx,.int .i64 cy]] W fun r w'=>r=.returned (.bool true)∧Below W.heap.size W w':=fun W=>by
      have:=opoints_any rax ray rbx rby rcx rcy W
      rw [pax,pay,pbx,pby,pcx,pcy] at this
      exact this
    have e:oSt ax ay bx by' cx cy=if sgK (owLo ax ay bx by' cx cy) (owHi ax ay bx by' cx cy) then 5 else 6:=by unfold oSt; rw [hT]; rfl
    rw [e]
    exact oSign_wild (hT ▸ (allT3_eq ax ay bx by' cx cy).symm) (fun W=>o_tame rax ray W) (fun W=>o_tame rbx rby W) (fun W=>o_tame rcx rcy W) CP (fun W h=>oWild_ok rax ray rbx rby rcx rcy pax pay pbx pby pcx pcy W h) w H
  . obtain ⟨hax,hay,hbx,hby,hcx,hcy⟩:=tame3 rax ray rbx rby rcx rcy hT
    have e:oSt ax ay bx by' cx cy=oStT ax ay bx by' cx cy:=by unfold oSt; rw [hT]; rfl
    rw [e]
    exact oSign_walk (hT ▸ (allT3_eq ax ay bx by' cx cy).symm) (fun W=>o_tame rax ray W) (fun W=>o_tame rbx rby W) (fun W=>o_tame rcx rcy W) (fun W h=>oTame_ok hax hay hbx hby hcx hcy W h) w H
set_option maxRecDepth 100000 in
set_option maxHeartbeats 1000000 in
theorem rof_any (b:Int) (w:World) (hb:rng b) (hp:pok b=true) :
    Calls Tryz.prog 76 #[.int .i64 b] w fun r w'=>∃ v,r=.returned v∧DAns w w' (sg (pneg b) (pmag b)*pw (pexp b)) v:=by
  obtain ⟨i0,i1,i2,i3⟩:=pmag_in hp
  have hF:=fun W=>rfrom_any (pmag b) W i0 (by omega)
  have hN:=fun W ao n cap d (h:Row W ao n cap d) (hd:Dig d n) (hn:n<=40000)=>rnorm_any (pneg b) ao n cap d (pexp b) W h hd hn (by omega) (by omega)
  have hP:=fun W=>refParts b W hb
  generalize pneg b=ng at *
  generalize pexp b=ex at *
  generalize pmag b=mg at *
  rw [hp] at hP
  go_enter Tryz.func76,Tryz.ntmps76
  go_wp2_with fail
  refine (hP _).mono ?_
  rintro r w1 ⟨rfl,rfl⟩
  go_wp2_with fail
  refine (hF _).mono ?_
  rintro r w2 ⟨v,rfl,hA⟩
  obtain ⟨so,sn,sc,d,rfl,hR,hNr,hv⟩:=hA.num
  have hsn:sn<=100:=hA.num.len (k:=100) (by have:=P_le (show 3<=100 by omega); have:P 3=1237940039285380274899124224:=rfl; omega)
  have hbw:=bel_trans (bel_alloc w _) hA.below
  go_wp2_with fail
  refine (hN _ _ _ _ _ hR hNr.1 (by omega)).mono ?_
  rw [hv]
  rintro r w3 ⟨v,rfl,hD⟩
  obtain ⟨ng',s',m',e',rfl,hyy,hA2⟩:=id hD
  obtain ⟨so',sn',sc',rfl⟩:=hA2.num.shape
  have q0:=((bel_trans hA.below hD.below).block w.heap.size (by rw [size1]; omega)).trans (heap_a1 _ _)
  have x0:=blkC q0 0 rfl
  have x1:=blkC q0 1 rfl
  have x2:=blkC q0 2 rfl
  have z0:=blkF q0 0
  have z1:=blkF q0 1
  have z2:=blkF q0 2
  go_wp2
  refine bodyPost_ret (v:=.agg #[.bool ng',.slice so' sn' sc',.int .i64 e']) (by simp [results,Tryz.results76,go_sem,x0,x1,x2]) rfl ⟨_,rfl,?_⟩
  exact dans_res3 (g:=w.heap.size) hD hbw (Nat.le_refl _) (Nat.lt_of_lt_of_le (by rw [size1]; omega) hA.below.size) _ _ _
set_option maxRecDepth 100000 in
theorem r3exact_any (b:Int) (w:World) (hb:rng b) (hp:pok b=true) :
    Calls Tryz.prog 48 #[.int .i64 b] w fun r w'=>∃ v,r=.returned v∧DAns w w' (patV b) v:=by
  have r_k:=heap_a1 w (.cells #[.bool false,.slice none 0 0,.int .i64 0] 34)
  have hb0:=bel_alloc w (.cells #[.bool false,.slice none 0 0,.int .i64 0] 34)
  have CO:Hid (∀ W,Calls Tryz.prog 76 #[.int .i64 b] W fun r w'=>∃ v,r=.returned v∧DAns W w' (patV b) v):=fun W=>rof_any b W hb hp
  go_enter Tryz.func48,Tryz.ntmps48
  go_wp2_with fail
  generalize w.alloc (.cells #[.bool false,.slice none 0 0,.int .i64 0] 34)=x0 at r_k hb0 ⊢
  have hs0:=(Array.getElem?_eq_some_iff.1 r_k).1
  refine (CO.out _).mono ?_
  rintro _ y1 ⟨v,rfl,h1⟩
  obtain ⟨n_g,n_o,n_n,n_c,n_e,rfl⟩:=dans_shape h1
  have hw:=h1.below
  have r_k:=(hw.block _ (Array.getElem?_eq_some_iff.1 r_k).1).trans r_k
  have k0:=blkC r_k 0 rfl
  have k1:=blkC r_k 1 rfl
  have k2:=blkC r_k 2 rfl
  have z0:=blkF r_k 0
  have z1:=blkF r_k 1
  have z2:=blkF r_k 2
  go_wp2
  refine bodyPost_ret (v:=.agg #[.bool n_g,.slice n_o n_n n_c,.int .i64 n_e]) (by simp [results,Tryz.results48,go_sem,k0,k1,k2]) rfl ⟨_,rfl,?_⟩
  exact dans_res3 (g:=w.heap.size) h1 hb0 (Nat.le_refl _) hs0 _ _ _
theorem dan_opp {B:Nat} {w:World} {y:NumR} (h:DAn B w y.V y.v) (ok:okR y=true):DAn B w (-y.V) y.opp.v:=by
  obtain ⟨m,h1,h2⟩:=DAn.parts h
  obtain ⟨e1,e2⟩:=opp_V ok
  rw [e1] at e2
  obtain ⟨_,rfl,_⟩:=h1.unique (okR_dy ok).1
  exact ⟨_,_,_,_,rfl,e2,h2⟩
theorem DAn.shape {B:Nat} {w:World} {V:Int} {v:Value} (h:DAn B w V v):∃ ng so sn sc e,v=.agg #[.bool ng,.slice so sn sc,.int .i64 e]:=h.three
set_option maxRecDepth 100000 in
theorem r3minus_any {B:Nat} {w:World} {x y:Value} {A C:Int} {K:Nat} (hx:DAn B w A x) (hy:DAn B w C y) (hB:B<=w.heap.size) (bA:Bd K A) (bC:Bd K C) (hK:K<=28000) :
    Calls Tryz.prog 49 #[x,y] w fun r w'=>∃ v,r=.returned v∧DAn B w' (A-C) v∧Below w.heap.size w w':=by
  have CS:∀ W,Below w.heap.size w W->Calls Tryz.prog 77 #[x,y] W fun r w'=>∃ v,r=.returned v∧DAn B w' (A-C) v∧Below W.heap.size W w':=fun W hW=>by
    have hx':=hx.keeps hW
    have hy':=hy.keeps hW
    obtain ⟨x,rfl,hR,ok,rfl⟩:=hx'.num.open (bA.ok (by omega))
    obtain ⟨y,rfl,hR',ok',rfl⟩:=hy'.num.open (bC.ok (by omega))
    refine (rsub3_any x y W hR hR' ok ok' (K:=K) (by omega) bA bC).mono ?_
    rintro r w' ⟨v,rfl,h⟩
    refine ⟨v,rfl,?_,h.1⟩
    rw [Int.sub_eq_add_neg]
    rcases h.2 with h1 | ⟨h1,rfl⟩ | ⟨h1,rfl⟩
    . exact h1.dan.lower (Nat.le_trans hB hW.size)
    . rw [h1,Int.zero_add]; exact (dan_opp hy' ok').keeps h.1
    . rw [h1,Int.add_zero]; exact hx'.keeps h.1
  obtain ⟨p_g,p_o,p_n,p_c,p_e,rfl⟩:=hx.shape
  obtain ⟨q_g,q_o,q_n,q_c,q_e,rfl⟩:=hy.shape
  clear hx hy bA bC
  have hb0:=bel_a3 w (.cells #[.bool p_g,.slice p_o p_n p_c,.int .i64 p_e] 34) (.cells #[.bool q_g,.slice q_o q_n q_c,.int .i64 q_e] 34) (.cells #[.bool false,.slice none 0 0,.int .i64 0] 34)
  have r_k:=h3_2 w (.cells #[.bool p_g,.slice p_o p_n p_c,.int .i64 p_e] 34) (.cells #[.bool q_g,.slice q_o q_n q_c,.int .i64 q_e] 34) (.cells #[.bool false,.slice none 0 0,.int .i64 0] 34)
  go_enter Tryz.func49,Tryz.ntmps49
  go_wp2_with fail
  generalize ((w.alloc (.cells #[.bool p_g,.slice p_o p_n p_c,.int .i64 p_e] 34)).alloc (.cells #[.bool q_g,.slice q_o q_n q_c,.int .i64 q_e] 34)).alloc (.cells #[.bool false,.slice none 0 0,.int .i64 0] 34)=x0 at r_k hb0 ⊢
  refine (CS _ hb0).mono ?_
  rintro _ y1 ⟨v,rfl,h1,hw⟩
  obtain ⟨n_g,n_o,n_n,n_c,n_e,rfl⟩:=h1.shape
  have r_k:=(hw.block _ (Array.getElem?_eq_some_iff.1 r_k).1).trans r_k
  have k0:=blkC r_k 0 rfl
  have k1:=blkC r_k 1 rfl
  have k2:=blkC r_k 2 rfl
  have z0:=blkF r_k 0
  have z1:=blkF r_k 1
  have z2:=blkF r_k 2
  go_wp2
  refine bodyPost_ret (v:=.agg #[.bool n_g,.slice n_o n_n n_c,.int .i64 n_e]) (by simp [results,Tryz.results49,go_sem,k0,k1,k2]) rfl ⟨_,rfl,dan_res3 h1 r_k _ _ _,bel_set3 (bel_trans hb0 hw) (by omega) _ _ _⟩
set_option maxRecDepth 100000 in
theorem r3times_any {w:World} {x y:Value} {A C:Int} {K:Nat} (hx:DNum w x A) (hy:DNum w y C) (bA:Bd K A) (bC:Bd K C) (hK:K<=14000) :
    Calls Tryz.prog 50 #[x,y] w fun r w'=>∃ v V,r=.returned v∧DAns w w' V v∧V*2^4194304=A*C∧Bd (2*K) V:=by
  have CS:∀ W,Below w.heap.size w W->Calls Tryz.prog 78 #[x,y] W fun r w'=>∃ v V,r=.returned v∧DAns W w' V v∧V*2^4194304=A*C∧Bd (2*K) V:=fun W hW=>by
    have hx':=hx.keeps hW
    have hy':=hy.keeps hW
    obtain ⟨x,rfl,hR,ok,rfl⟩:=hx'.open (bA.ok (by omega))
    obtain ⟨y,rfl,hR',ok',rfl⟩:=hy'.open (bC.ok (by omega))
    refine (rmul3_any x y W hR hR' (okR_sane ok) (okR_sane ok')).mono ?_
    rintro r w' ⟨v,rfl,h⟩
    have hC:=mulV_eq (x:=x) (y:=y) (by have:=(okR_sane ok).2.2.1; omega) (by have:=(okR_sane ok').2.2.1; omega)
    exact ⟨v,_,rfl,h,hC,bA.mul bC hC (by omega)⟩
  obtain ⟨p,rfl,_,_,_⟩:=hx.open (bA.ok (by omega))
  obtain ⟨q,rfl,_,_,_⟩:=hy.open (bC.ok (by omega))
  obtain ⟨p_g,p_o,p_n,p_c,p_d,p_e⟩:=p
  obtain ⟨q_g,q_o,q_n,q_c,q_d,q_e⟩:=q
  unfold NumR.v at *
  simp only at *
  clear hx hy bA bC
  have hb0:=bel_a3 w (.cells #[.bool p_g,.slice p_o p_n p_c,.int .i64 p_e] 34) (.cells #[.bool q_g,.slice q_o q_n q_c,.int .i64 q_e] 34) (.cells #[.bool false,.slice none 0 0,.int .i64 0] 34)
  have r_k:=h3_2 w (.cells #[.bool p_g,.slice p_o p_n p_c,.int .i64 p_e] 34) (.cells #[.bool q_g,.slice q_o q_n q_c,.int .i64 q_e] 34) (.cells #[.bool false,.slice none 0 0,.int .i64 0] 34)
  go_enter Tryz.func50,Tryz.ntmps50
  go_wp2_with fail
  generalize ((w.alloc (.cells #[.bool p_g,.slice p_o p_n p_c,.int .i64 p_e] 34)).alloc (.cells #[.bool q_g,.slice q_o q_n q_c,.int .i64 q_e] 34)).alloc (.cells #[.bool false,.slice none 0 0,.int .i64 0] 34)=x0 at r_k hb0 ⊢
  have hs0:=(Array.getElem?_eq_some_iff.1 r_k).1
  refine (CS _ hb0).mono ?_
  rintro _ y1 ⟨v,V,rfl,h1,hE,hBd⟩
  obtain ⟨n_g,n_o,n_n,n_c,n_e,rfl⟩:=dans_shape h1
  have hw:=h1.below
  have r_k:=(hw.block _ (Array.getElem?_eq_some_iff.1 r_k).1).trans r_k
  have k0:=blkC r_k 0 rfl
  have k1:=blkC r_k 1 rfl
  have k2:=blkC r_k 2 rfl
  have z0:=blkF r_k 0
  have z1:=blkF r_k 1
  have z2:=blkF r_k 2
  go_wp2
  refine bodyPost_ret (v:=.agg #[.bool n_g,.slice n_o n_n n_c,.int .i64 n_e]) (by simp [results,Tryz.results50,go_sem,k0,k1,k2]) rfl ⟨_,V,rfl,?_,hE,hBd⟩
  exact dans_res3 (g:=w.heap.size+2) h1 hb0 (by omega) hs0 _ _ _
set_option maxRecDepth 100000 in
set_option maxHeartbeats 8000000 in
theorem r10exact_any {ax ay bx by' cx cy:Int} (pax:pok ax=true) (pay:pok ay=true) (pbx:pok bx=true) (pby:pok by'=true) (pcx:pok cx=true) (pcy:pok cy=true) (rax:rng ax) (ray:rng ay) (rbx:rng bx) (rby:rng by') (rcx:rng cx) (rcy:rng cy) (w:World) :
    Calls Tryz.prog 27 #[.agg #[.int .i64 ax,.int .i64 ay],.agg #[.int .i64 bx,.int .i64 by'],.agg #[.int .i64 cx,.int .i64 cy]] w fun r w'=>∃ v V,r=.returned v∧DAn w.heap.size w' V v∧Below w.heap.size w w'∧Det (patV ax-patV cx) (patV ay-patV cy) (patV bx-patV cx) (patV by'-patV cy) V:=by
  have Eax:Hid (∀ W,Calls Tryz.prog 48 #[.int .i64 ax] W fun r w'=>∃ v,r=.returned v∧DAns W w' (patV ax) v):=fun W=>r3exact_any ax W rax pax
  have Bax:=patV_bd pax
  have Eay:Hid (∀ W,Calls Tryz.prog 48 #[.int .i64 ay] W fun r w'=>∃ v,r=.returned v∧DAns W w' (patV ay) v):=fun W=>r3exact_any ay W ray pay
  have Bay:=patV_bd pay
  have Ebx:Hid (∀ W,Calls Tryz.prog 48 #[.int .i64 bx] W fun r w'=>∃ v,r=.returned v∧DAns W w' (patV bx) v):=fun W=>r3exact_any bx W rbx pbx
  have Bbx:=patV_bd pbx
  have Eby:Hid (∀ W,Calls Tryz.prog 48 #[.int .i64 by'] W fun r w'=>∃ v,r=.returned v∧DAns W w' (patV by') v):=fun W=>r3exact_any by' W rby pby
  have Bby:=patV_bd pby
  have Ecx:Hid (∀ W,Calls Tryz.prog 48 #[.int .i64 cx] W fun r w'=>∃ v,r=.returned v∧DAns W w' (patV cx) v):=fun W=>r3exact_any cx W rcx pcx
  have Bcx:=patV_bd pcx
  have Ecy:Hid (∀ W,Calls Tryz.prog 48 #[.int .i64 cy] W fun r w'=>∃ v,r=.returned v∧DAns W w' (patV cy) v):=fun W=>r3exact_any cy W rcy pcy
  have Bcy:=patV_bd pcy
  generalize patV ax=Vax at *
  generalize patV ay=Vay at *
  generalize patV bx=Vbx at *
  generalize patV by'=Vby at *
  generalize patV cx=Vcx at *
  generalize patV cy=Vcy at *
  clear pax pay pbx pby pcx pcy rax ray rbx rby rcx rcy
  have hb0:=bel_a4 w (.cells #[.int .i64 ax,.int .i64 ay] 23) (.cells #[.int .i64 bx,.int .i64 by'] 23) (.cells #[.int .i64 cx,.int .i64 cy] 23) (.cells #[.bool false,.slice none 0 0,.int .i64 0] 34)
  have a_k:=h4_0 w (.cells #[.int .i64 ax,.int .i64 ay] 23) (.cells #[.int .i64 bx,.int .i64 by'] 23) (.cells #[.int .i64 cx,.int .i64 cy] 23) (.cells #[.bool false,.slice none 0 0,.int .i64 0] 34)
  have b_k:=h4_1 w (.cells #[.int .i64 ax,.int .i64 ay] 23) (.cells #[.int .i64 bx,.int .i64 by'] 23) (.cells #[.int .i64 cx,.int .i64 cy] 23) (.cells #[.bool false,.slice none 0 0,.int .i64 0] 34)
  have c_k:=h4_2 w (.cells #[.int .i64 ax,.int .i64 ay] 23) (.cells #[.int .i64 bx,.int .i64 by'] 23) (.cells #[.int .i64 cx,.int .i64 cy] 23) (.cells #[.bool false,.slice none 0 0,.int .i64 0] 34)
  have r_k:=h4_3 w (.cells #[.int .i64 ax,.int .i64 ay] 23) (.cells #[.int .i64 bx,.int .i64 by'] 23) (.cells #[.int .i64 cx,.int .i64 cy] 23) (.cells #[.bool false,.slice none 0 0,.int .i64 0] 34)
  go_enter Tryz.func27,Tryz.ntmps27
  go_wp2_with fail
  rename_i Q0 Ka0 hKa0 Kb0 hKb0
  generalize (((w.alloc (.cells #[.int .i64 ax,.int .i64 ay] 23)).alloc (.cells #[.int .i64 bx,.int .i64 by'] 23)).alloc (.cells #[.int .i64 cx,.int .i64 cy] 23)).alloc (.cells #[.bool false,.slice none 0 0,.int .i64 0] 34)=x0 at hb0 a_k b_k c_k r_k ⊢
  refine (Ecx.out _).mono ?_
  rintro _ y1 ⟨v,rfl,h1⟩
  obtain ⟨cx_g,cx_o,cx_n,cx_c,cx_e,rfl⟩:=dans_shape h1
  have hw1:=h1.below
  have cx_D:=h1.dan.lower hb0.size
  have a_k:=(hw1.block _ (Array.getElem?_eq_some_iff.1 a_k).1).trans a_k
  have b_k:=(hw1.block _ (Array.getElem?_eq_some_iff.1 b_k).1).trans b_k
  have c_k:=(hw1.block _ (Array.getElem?_eq_some_iff.1 c_k).1).trans c_k
  have r_k:=(hw1.block _ (Array.getElem?_eq_some_iff.1 r_k).1).trans r_k
  have hb1:=bel_trans hb0 hw1
  have a_k:=heap_past (.cells #[.bool cx_g,.slice cx_o cx_n cx_c,.int .i64 cx_e] 34) a_k
  have b_k:=heap_past (.cells #[.bool cx_g,.slice cx_o cx_n cx_c,.int .i64 cx_e] 34) b_k
  have c_k:=heap_past (.cells #[.bool cx_g,.slice cx_o cx_n cx_c,.int .i64 cx_e] 34) c_k
  have r_k:=heap_past (.cells #[.bool cx_g,.slice cx_o cx_n cx_c,.int .i64 cx_e] 34) r_k
  have cx_k:=heap_a1 y1 (.cells #[.bool cx_g,.slice cx_o cx_n cx_c,.int .i64 cx_e] 34)
  have cx_D:=cx_D.keeps (bel_alloc y1 (.cells #[.bool cx_g,.slice cx_o cx_n cx_c,.int .i64 cx_e] 34))
  have hb2':=bel_trans hb1 (bel_alloc y1 (.cells #[.bool cx_g,.slice cx_o cx_n cx_c,.int .i64 cx_e] 34))
  have f_c1:=blkC c_k 1 rfl
  go_wp2_with fail
  clear f_c1
  generalize y1.alloc (.cells #[.bool cx_g,.slice cx_o cx_n cx_c,.int .i64 cx_e] 34)=x2 at a_k b_k c_k r_k cx_k cx_D hb2' ⊢
  refine (Ecy.out _).mono ?_
  rintro _ y2 ⟨v,rfl,h2⟩
  obtain ⟨cy_g,cy_o,cy_n,cy_c,cy_e,rfl⟩:=dans_shape h2
  have hw2:=h2.below
  have cy_D:=h2.dan.lower hb2'.size
  have a_k:=(hw2.block _ (Array.getElem?_eq_some_iff.1 a_k).1).trans a_k
  have b_k:=(hw2.block _ (Array.getElem?_eq_some_iff.1 b_k).1).trans b_k
  have c_k:=(hw2.block _ (Array.getElem?_eq_some_iff.1 c_k).1).trans c_k
  have r_k:=(hw2.block _ (Array.getElem?_eq_some_iff.1 r_k).1).trans r_k
  have cx_k:=(hw2.block _ (Array.getElem?_eq_some_iff.1 cx_k).1).trans cx_k
  have cx_D:=cx_D.keeps hw2
  have hb2:=bel_trans hb2' hw2
  have a_k:=heap_past (.cells #[.bool cy_g,.slice cy_o cy_n cy_c,.int .i64 cy_e] 34) a_k
  have b_k:=heap_past (.cells #[.bool cy_g,.slice cy_o cy_n cy_c,.int .i64 cy_e] 34) b_k
  have c_k:=heap_past (.cells #[.bool cy_g,.slice cy_o cy_n cy_c,.int .i64 cy_e] 34) c_k
  have r_k:=heap_past (.cells #[.bool cy_g,.slice cy_o cy_n cy_c,.int .i64 cy_e] 34) r_k
  have cx_k:=heap_past (.cells #[.bool cy_g,.slice cy_o cy_n cy_c,.int .i64 cy_e] 34) cx_k
  have cy_k:=heap_a1 y2 (.cells #[.bool cy_g,.slice cy_o cy_n cy_c,.int .i64 cy_e] 34)
  have cx_D:=cx_D.keeps (bel_alloc y2 (.cells #[.bool cy_g,.slice cy_o cy_n cy_c,.int .i64 cy_e] 34))
  have cy_D:=cy_D.keeps (bel_alloc y2 (.cells #[.bool cy_g,.slice cy_o cy_n cy_c,.int .i64 cy_e] 34))
  have hb3':=bel_trans hb2 (bel_alloc y2 (.cells #[.bool cy_g,.slice cy_o cy_n cy_c,.int .i64 cy_e] 34))
  go_wp2_with fail
  generalize y2.alloc (.cells #[.bool cy_g,.slice cy_o cy_n cy_c,.int .i64 cy_e] 34)=x3 at a_k b_k c_k r_k cx_k cy_k cx_D cy_D hb3' ⊢
  have hr_ax1:=(Array.getElem?_eq_some_iff.1 r_k).1
  rename_i K4 hK4
  have HN4:∀ (g:Nat) (x4:World) (t:Array Value) (ax1_g:Bool) (ax1_o:Option Addr) (ax1_n ax1_c:Nat) (ax1_e:Int),#[t.getD 0 undef,t.getD 1 undef,t.getD 2 undef,.pointer (some ⟨w.heap.size,0,none⟩),.pointer (some ⟨w.heap.size+1,0,none⟩),.pointer (some ⟨w.heap.size+1+1,0,none⟩),.pointer (some ⟨w.heap.size+1+1+1,0,none⟩),.pointer (some ⟨y1.heap.size,0,none⟩),.pointer (some ⟨y2.heap.size,0,none⟩),.pointer (some ⟨g,0,none⟩),t.getD 10 undef,t.getD 11 undef,t.getD 12 undef,t.getD 13 undef,t.getD 14 undef,t.getD 15 undef,t.getD 16 undef,t.getD 17 undef,t.getD 18 undef,t.getD 19 undef,t.getD 20 undef,t.getD 21 undef,t.getD 22 undef,t.getD 23 undef,t.getD 24 undef,t.getD 25 undef,t.getD 26 undef,t.getD 27 undef,t.getD 28 undef,t.getD 29 undef,t.getD 30 undef,t.getD 31 undef,t.getD 32 undef,t.getD 33 undef,t.getD 34 undef,t.getD 35 undef,t.getD 36 undef,t.getD 37 undef,t.getD 38 undef,t.getD 39 undef,t.getD 40 undef,t.getD 41 undef,t.getD 42 undef,t.getD 43 undef,t.getD 44 undef,t.getD 45 undef]=t->x3.heap.size<=g->x4.heap[g]?=some (.cells #[.bool ax1_g,.slice ax1_o ax1_n ax1_c,.int .i64 ax1_e] 34 (0,0))->Below x3.heap.size x3 x4->DAn w.heap.size x4 (Vax-Vcx) (.agg #[.bool ax1_g,.slice ax1_o ax1_n ax1_c,.int .i64 ax1_e])->Exit.then K4 Q0 Exit.normal { tmps:=t,defers:=[] } x4:=by
    intro g_ax1 x4 t ax1_g ax1_o ax1_n ax1_c ax1_e  ht ax1_ge ax1_k hw4 ax1_D 
    obtain ⟨u4,hu⟩:∃ u:Nat->Value,t=#[u 0,u 1,u 2,.pointer (some ⟨w.heap.size,0,none⟩),.pointer (some ⟨w.heap.size+1,0,none⟩),.pointer (some ⟨w.heap.size+1+1,0,none⟩),.pointer (some ⟨w.heap.size+1+1+1,0,none⟩),.pointer (some ⟨y1.heap.size,0,none⟩),.pointer (some ⟨y2.heap.size,0,none⟩),.pointer (some ⟨g_ax1,0,none⟩),u 10,u 11,u 12,u 13,u 14,u 15,u 16,u 17,u 18,u 19,u 20,u 21,u 22,u 23,u 24,u 25,u 26,u 27,u 28,u 29,u 30,u 31,u 32,u 33,u 34,u 35,u 36,u 37,u 38,u 39,u 40,u 41,u 42,u 43,u 44,u 45]:=⟨fun k=>t.getD k undef,ht.symm⟩
    clear ht
    subst hu
    have a_k:=(hw4.block _ (Array.getElem?_eq_some_iff.1 a_k).1).trans a_k
    have b_k:=(hw4.block _ (Array.getElem?_eq_some_iff.1 b_k).1).trans b_k
    have c_k:=(hw4.block _ (Array.getElem?_eq_some_iff.1 c_k).1).trans c_k
    have r_k:=(hw4.block _ (Array.getElem?_eq_some_iff.1 r_k).1).trans r_k
    have cx_k:=(hw4.block _ (Array.getElem?_eq_some_iff.1 cx_k).1).trans cx_k
    have cx_D:=cx_D.keeps hw4
    have cy_k:=(hw4.block _ (Array.getElem?_eq_some_iff.1 cy_k).1).trans cy_k
    have cy_D:=cy_D.keeps hw4
    have hb4:=bel_trans hb3' hw4
    go_wp2_with fail
    have hr_ay1:=(Array.getElem?_eq_some_iff.1 r_k).1
    rename_i K5 hK5
    have HN5:∀ (g:Nat) (x5:World) (t:Array Value) (ay1_g:Bool) (ay1_o:Option Addr) (ay1_n ay1_c:Nat) (ay1_e:Int),#[t.getD 0 undef,t.getD 1 undef,t.getD 2 undef,.pointer (some ⟨w.heap.size,0,none⟩),.pointer (some ⟨w.heap.size+1,0,none⟩),.pointer (some ⟨w.heap.size+1+1,0,none⟩),.pointer (some ⟨w.heap.size+1+1+1,0,none⟩),.pointer (some ⟨y1.heap.size,0,none⟩),.pointer (some ⟨y2.heap.size,0,none⟩),.pointer (some ⟨g_ax1,0,none⟩),.pointer (some ⟨g,0,none⟩),t.getD 11 undef,t.getD 12 undef,t.getD 13 undef,t.getD 14 undef,t.getD 15 undef,t.getD 16 undef,t.getD 17 undef,t.getD 18 undef,t.getD 19 undef,t.getD 20 undef,t.getD 21 undef,t.getD 22 undef,t.getD 23 undef,t.getD 24 undef,t.getD 25 undef,t.getD 26 undef,t.getD 27 undef,t.getD 28 undef,t.getD 29 undef,t.getD 30 undef,t.getD 31 undef,t.getD 32 undef,t.getD 33 undef,t.getD 34 undef,t.getD 35 undef,t.getD 36 undef,t.getD 37 undef,t.getD 38 undef,t.getD 39 undef,t.getD 40 undef,t.getD 41 undef,t.getD 42 undef,t.getD 43 undef,t.getD 44 undef,t.getD 45 undef]=t->x4.heap.size<=g->x5.heap[g]?=some (.cells #[.bool ay1_g,.slice ay1_o ay1_n ay1_c,.int .i64 ay1_e] 34 (0,0))->Below x4.heap.size x4 x5->DAn w.heap.size x5 (Vay-Vcy) (.agg #[.bool ay1_g,.slice ay1_o ay1_n ay1_c,.int .i64 ay1_e])->Exit.then K5 Q0 Exit.normal { tmps:=t,defers:=[] } x5:=by
      intro g_ay1 x5 t ay1_g ay1_o ay1_n ay1_c ay1_e  ht ay1_ge ay1_k hw5 ay1_D 
      obtain ⟨u5,hu⟩:∃ u:Nat->Value,t=#[u 0,u 1,u 2,.pointer (some ⟨w.heap.size,0,none⟩),.pointer (some ⟨w.heap.size+1,0,none⟩),.pointer (some ⟨w.heap.size+1+1,0,none⟩),.pointer (some ⟨w.heap.size+1+1+1,0,none⟩),.pointer (some ⟨y1.heap.size,0,none⟩),.pointer (some ⟨y2.heap.size,0,none⟩),.pointer (some ⟨g_ax1,0,none⟩),.pointer (some ⟨g_ay1,0,none⟩),u 11,u 12,u 13,u 14,u 15,u 16,u 17,u 18,u 19,u 20,u 21,u 22,u 23,u 24,u 25,u 26,u 27,u 28,u 29,u 30,u 31,u 32,u 33,u 34,u 35,u 36,u 37,u 38,u 39,u 40,u 41,u 42,u 43,u 44,u 45]:=⟨fun k=>t.getD k undef,ht.symm⟩
      clear ht
      subst hu
      have a_k:=(hw5.block _ (Array.getElem?_eq_some_iff.1 a_k).1).trans a_k
      have b_k:=(hw5.block _ (Array.getElem?_eq_some_iff.1 b_k).1).trans b_k
      have c_k:=(hw5.block _ (Array.getElem?_eq_some_iff.1 c_k).1).trans c_k
      have r_k:=(hw5.block _ (Array.getElem?_eq_some_iff.1 r_k).1).trans r_k
      have cx_k:=(hw5.block _ (Array.getElem?_eq_some_iff.1 cx_k).1).trans cx_k
      have cx_D:=cx_D.keeps hw5
      have cy_k:=(hw5.block _ (Array.getElem?_eq_some_iff.1 cy_k).1).trans cy_k
      have cy_D:=cy_D.keeps hw5
      have ax1_k:=(hw5.block _ (Array.getElem?_eq_some_iff.1 ax1_k).1).trans ax1_k
      have ax1_D:=ax1_D.keeps hw5
      have hb5:=bel_trans hb4 hw5
      go_wp2_with fail
      have hr_bx1:=(Array.getElem?_eq_some_iff.1 r_k).1
      rename_i K6 hK6
      have HN6:∀ (g:Nat) (x6:World) (t:Array Value) (bx1_g:Bool) (bx1_o:Option Addr) (bx1_n bx1_c:Nat) (bx1_e:Int),#[t.getD 0 undef,t.getD 1 undef,t.getD 2 undef,.pointer (some ⟨w.heap.size,0,none⟩),.pointer (some ⟨w.heap.size+1,0,none⟩),.pointer (some ⟨w.heap.size+1+1,0,none⟩),.pointer (some ⟨w.heap.size+1+1+1,0,none⟩),.pointer (some ⟨y1.heap.size,0,none⟩),.pointer (some ⟨y2.heap.size,0,none⟩),.pointer (some ⟨g_ax1,0,none⟩),.pointer (some ⟨g_ay1,0,none⟩),.pointer (some ⟨g,0,none⟩),t.getD 12 undef,t.getD 13 undef,t.getD 14 undef,t.getD 15 undef,t.getD 16 undef,t.getD 17 undef,t.getD 18 undef,t.getD 19 undef,t.getD 20 undef,t.getD 21 undef,t.getD 22 undef,t.getD 23 undef,t.getD 24 undef,t.getD 25 undef,t.getD 26 undef,t.getD 27 undef,t.getD 28 undef,t.getD 29 undef,t.getD 30 undef,t.getD 31 undef,t.getD 32 undef,t.getD 33 undef,t.getD 34 undef,t.getD 35 undef,t.getD 36 undef,t.getD 37 undef,t.getD 38 undef,t.getD 39 undef,t.getD 40 undef,t.getD 41 undef,t.getD 42 undef,t.getD 43 undef,t.getD 44 undef,t.getD 45 undef]=t->x5.heap.size<=g->x6.heap[g]?=some (.cells #[.bool bx1_g,.slice bx1_o bx1_n bx1_c,.int .i64 bx1_e] 34 (0,0))->Below x5.heap.size x5 x6->DAn w.heap.size x6 (Vbx-Vcx) (.agg #[.bool bx1_g,.slice bx1_o bx1_n bx1_c,.int .i64 bx1_e])->Exit.then K6 Q0 Exit.normal { tmps:=t,defers:=[] } x6:=by
        intro g_bx1 x6 t bx1_g bx1_o bx1_n bx1_c bx1_e  ht bx1_ge bx1_k hw6 bx1_D 
        obtain ⟨u6,hu⟩:∃ u:Nat->Value,t=#[u 0,u 1,u 2,.pointer (some ⟨w.heap.size,0,none⟩),.pointer (some ⟨w.heap.size+1,0,none⟩),.pointer (some ⟨w.heap.size+1+1,0,none⟩),.pointer (some ⟨w.heap.size+1+1+1,0,none⟩),.pointer (some ⟨y1.heap.size,0,none⟩),.pointer (some ⟨y2.heap.size,0,none⟩),.pointer (some ⟨g_ax1,0,none⟩),.pointer (some ⟨g_ay1,0,none⟩),.pointer (some ⟨g_bx1,0,none⟩),u 12,u 13,u 14,u 15,u 16,u 17,u 18,u 19,u 20,u 21,u 22,u 23,u 24,u 25,u 26,u 27,u 28,u 29,u 30,u 31,u 32,u 33,u 34,u 35,u 36,u 37,u 38,u 39,u 40,u 41,u 42,u 43,u 44,u 45]:=⟨fun k=>t.getD k undef,ht.symm⟩
        clear ht
        subst hu
        have a_k:=(hw6.block _ (Array.getElem?_eq_some_iff.1 a_k).1).trans a_k
        have b_k:=(hw6.block _ (Array.getElem?_eq_some_iff.1 b_k).1).trans b_k
        have c_k:=(hw6.block _ (Array.getElem?_eq_some_iff.1 c_k).1).trans c_k
        have r_k:=(hw6.block _ (Array.getElem?_eq_some_iff.1 r_k).1).trans r_k
        have cx_k:=(hw6.block _ (Array.getElem?_eq_some_iff.1 cx_k).1).trans cx_k
        have cx_D:=cx_D.keeps hw6
        have cy_k:=(hw6.block _ (Array.getElem?_eq_some_iff.1 cy_k).1).trans cy_k
        have cy_D:=cy_D.keeps hw6
        have ax1_k:=(hw6.block _ (Array.getElem?_eq_some_iff.1 ax1_k).1).trans ax1_k
        have ax1_D:=ax1_D.keeps hw6
        have ay1_k:=(hw6.block _ (Array.getElem?_eq_some_iff.1 ay1_k).1).trans ay1_k
        have ay1_D:=ay1_D.keeps hw6
        have hb6:=bel_trans hb5 hw6
        go_wp2_with fail
        have hr_by1:=(Array.getElem?_eq_some_iff.1 r_k).1
        rename_i K7 hK7
        have HN7:∀ (g:Nat) (x7:World) (t:Array Value) (by1_g:Bool) (by1_o:Option Addr) (by1_n by1_c:Nat) (by1_e:Int),#[t.getD 0 undef,t.getD 1 undef,t.getD 2 undef,.pointer (some ⟨w.heap.size,0,none⟩),.pointer (some ⟨w.heap.size+1,0,none⟩),.pointer (some ⟨w.heap.size+1+1,0,none⟩),.pointer (some ⟨w.heap.size+1+1+1,0,none⟩),.pointer (some ⟨y1.heap.size,0,none⟩),.pointer (some ⟨y2.heap.size,0,none⟩),.pointer (some ⟨g_ax1,0,none⟩),.pointer (some ⟨g_ay1,0,none⟩),.pointer (some ⟨g_bx1,0,none⟩),.pointer (some ⟨g,0,none⟩),t.getD 13 undef,t.getD 14 undef,t.getD 15 undef,t.getD 16 undef,t.getD 17 undef,t.getD 18 undef,t.getD 19 undef,t.getD 20 undef,t.getD 21 undef,t.getD 22 undef,t.getD 23 undef,t.getD 24 undef,t.getD 25 undef,t.getD 26 undef,t.getD 27 undef,t.getD 28 undef,t.getD 29 undef,t.getD 30 undef,t.getD 31 undef,t.getD 32 undef,t.getD 33 undef,t.getD 34 undef,t.getD 35 undef,t.getD 36 undef,t.getD 37 undef,t.getD 38 undef,t.getD 39 undef,t.getD 40 undef,t.getD 41 undef,t.getD 42 undef,t.getD 43 undef,t.getD 44 undef,t.getD 45 undef]=t->x6.heap.size<=g->x7.heap[g]?=some (.cells #[.bool by1_g,.slice by1_o by1_n by1_c,.int .i64 by1_e] 34 (0,0))->Below x6.heap.size x6 x7->DAn w.heap.size x7 (Vby-Vcy) (.agg #[.bool by1_g,.slice by1_o by1_n by1_c,.int .i64 by1_e])->Exit.then K7 Q0 Exit.normal { tmps:=t,defers:=[] } x7:=by
          intro g_by1 x7 t by1_g by1_o by1_n by1_c by1_e  ht by1_ge by1_k hw7 by1_D 
          obtain ⟨u7,hu⟩:∃ u:Nat->Value,t=#[u 0,u 1,u 2,.pointer (some ⟨w.heap.size,0,none⟩),.pointer (some ⟨w.heap.size+1,0,none⟩),.pointer (some ⟨w.heap.size+1+1,0,none⟩),.pointer (some ⟨w.heap.size+1+1+1,0,none⟩),.pointer (some ⟨y1.heap.size,0,none⟩),.pointer (some ⟨y2.heap.size,0,none⟩),.pointer (some ⟨g_ax1,0,none⟩),.pointer (some ⟨g_ay1,0,none⟩),.pointer (some ⟨g_bx1,0,none⟩),.pointer (some ⟨g_by1,0,none⟩),u 13,u 14,u 15,u 16,u 17,u 18,u 19,u 20,u 21,u 22,u 23,u 24,u 25,u 26,u 27,u 28,u 29,u 30,u 31,u 32,u 33,u 34,u 35,u 36,u 37,u 38,u 39,u 40,u 41,u 42,u 43,u 44,u 45]:=⟨fun k=>t.getD k undef,ht.symm⟩
          clear ht
          subst hu
          have a_k:=(hw7.block _ (Array.getElem?_eq_some_iff.1 a_k).1).trans a_k
          have b_k:=(hw7.block _ (Array.getElem?_eq_some_iff.1 b_k).1).trans b_k
          have c_k:=(hw7.block _ (Array.getElem?_eq_some_iff.1 c_k).1).trans c_k
          have r_k:=(hw7.block _ (Array.getElem?_eq_some_iff.1 r_k).1).trans r_k
          have cx_k:=(hw7.block _ (Array.getElem?_eq_some_iff.1 cx_k).1).trans cx_k
          have cx_D:=cx_D.keeps hw7
          have cy_k:=(hw7.block _ (Array.getElem?_eq_some_iff.1 cy_k).1).trans cy_k
          have cy_D:=cy_D.keeps hw7
          have ax1_k:=(hw7.block _ (Array.getElem?_eq_some_iff.1 ax1_k).1).trans ax1_k
          have ax1_D:=ax1_D.keeps hw7
          have ay1_k:=(hw7.block _ (Array.getElem?_eq_some_iff.1 ay1_k).1).trans ay1_k
          have ay1_D:=ay1_D.keeps hw7
          have bx1_k:=(hw7.block _ (Array.getElem?_eq_some_iff.1 bx1_k).1).trans bx1_k
          have bx1_D:=bx1_D.keeps hw7
          have hb7:=bel_trans hb6 hw7
          go_wp2_with fail
          have B1:=Bax.sub Bcx (by decide)
          have B2:=Bby.sub Bcy (by decide)
          have B3:=Bay.sub Bcy (by decide)
          have B4:=Bbx.sub Bcx (by decide)
          have ne_ax1:g_ax1≠w.heap.size+3:=by have:=ax1_ge; omega
          have ne_by1:g_by1≠w.heap.size+3:=by have:=by1_ge; omega
          have ne_ay1:g_ay1≠w.heap.size+3:=by have:=ay1_ge; omega
          have ne_bx1:g_bx1≠w.heap.size+3:=by have:=bx1_ge; omega
          have KK8:∀ W,Below x7.heap.size x7 W->W.cell? ⟨g_ax1,0,none⟩=some (.bool ax1_g)∧W.cell? ⟨g_ax1,1,none⟩=some (.slice ax1_o ax1_n ax1_c)∧W.cell? ⟨g_ax1,2,none⟩=some (.int .i64 ax1_e)∧W.cell? ⟨g_by1,0,none⟩=some (.bool by1_g)∧W.cell? ⟨g_by1,1,none⟩=some (.slice by1_o by1_n by1_c)∧W.cell? ⟨g_by1,2,none⟩=some (.int .i64 by1_e)∧W.cell? ⟨g_ay1,0,none⟩=some (.bool ay1_g)∧W.cell? ⟨g_ay1,1,none⟩=some (.slice ay1_o ay1_n ay1_c)∧W.cell? ⟨g_ay1,2,none⟩=some (.int .i64 ay1_e)∧W.cell? ⟨g_bx1,0,none⟩=some (.bool bx1_g)∧W.cell? ⟨g_bx1,1,none⟩=some (.slice bx1_o bx1_n bx1_c)∧W.cell? ⟨g_bx1,2,none⟩=some (.int .i64 bx1_e):=fun W hb=>⟨q_cell (blkC ax1_k 0 rfl) hb,q_cell (blkC ax1_k 1 rfl) hb,q_cell (blkC ax1_k 2 rfl) hb,q_cell (blkC by1_k 0 rfl) hb,q_cell (blkC by1_k 1 rfl) hb,q_cell (blkC by1_k 2 rfl) hb,q_cell (blkC ay1_k 0 rfl) hb,q_cell (blkC ay1_k 1 rfl) hb,q_cell (blkC ay1_k 2 rfl) hb,q_cell (blkC bx1_k 0 rfl) hb,q_cell (blkC bx1_k 1 rfl) hb,q_cell (blkC bx1_k 2 rfl) hb⟩
          have hC8_0:=(bel_refl x7).drew
          have hs8_0:=(bel_refl x7).drew
          have hT8_0:Below w.heap.size w x7.drew:=hb7.drew
          have ax1_D_8_0:=ax1_D.keeps (bel_refl x7).drew
          have by1_D_8_0:=by1_D.keeps (bel_refl x7).drew
          have ay1_D_8_0:=ay1_D.keeps (bel_refl x7).drew
          have bx1_D_8_0:=bx1_D.keeps (bel_refl x7).drew
          go_region_held3 (fun W=>W.cell? ⟨g_ax1,0,none⟩=some (.bool ax1_g)∧W.cell? ⟨g_ax1,1,none⟩=some (.slice ax1_o ax1_n ax1_c)∧W.cell? ⟨g_ax1,2,none⟩=some (.int .i64 ax1_e)∧W.cell? ⟨g_by1,0,none⟩=some (.bool by1_g)∧W.cell? ⟨g_by1,1,none⟩=some (.slice by1_o by1_n by1_c)∧W.cell? ⟨g_by1,2,none⟩=some (.int .i64 by1_e)∧W.cell? ⟨g_ay1,0,none⟩=some (.bool ay1_g)∧W.cell? ⟨g_ay1,1,none⟩=some (.slice ay1_o ay1_n ay1_c)∧W.cell? ⟨g_ay1,2,none⟩=some (.int .i64 ay1_e)∧W.cell? ⟨g_bx1,0,none⟩=some (.bool bx1_g)∧W.cell? ⟨g_bx1,1,none⟩=some (.slice bx1_o bx1_n bx1_c)∧W.cell? ⟨g_bx1,2,none⟩=some (.int .i64 bx1_e))
            (first | assumption | exact KK8 _ hC8_0 | exact KK8 _ hC8_1 | exact KK8 _ hC8_2 | exact KK8 _ hC8_3 | exact ⟨cellS (KK8 _ hC8_3).1 ne_ax1 _ _ _,cellS (KK8 _ hC8_3).2.1 ne_ax1 _ _ _,cellS (KK8 _ hC8_3).2.2.1 ne_ax1 _ _ _,cellS (KK8 _ hC8_3).2.2.2.1 ne_by1 _ _ _,cellS (KK8 _ hC8_3).2.2.2.2.1 ne_by1 _ _ _,cellS (KK8 _ hC8_3).2.2.2.2.2.1 ne_by1 _ _ _,cellS (KK8 _ hC8_3).2.2.2.2.2.2.1 ne_ay1 _ _ _,cellS (KK8 _ hC8_3).2.2.2.2.2.2.2.1 ne_ay1 _ _ _,cellS (KK8 _ hC8_3).2.2.2.2.2.2.2.2.1 ne_ay1 _ _ _,cellS (KK8 _ hC8_3).2.2.2.2.2.2.2.2.2.1 ne_bx1 _ _ _,cellS (KK8 _ hC8_3).2.2.2.2.2.2.2.2.2.2.1 ne_bx1 _ _ _,cellS (KK8 _ hC8_3).2.2.2.2.2.2.2.2.2.2.2 ne_bx1 _ _ _⟩ | fail)
            (first
              | (go_at_call 49; have _t:=hs8_2; refine (r3minus_any l_A s_A (Nat.le_trans hT8_2.size (Nat.le_refl _)) l_B s_B (by omega)).mono ?_; rintro _ y8_3 ⟨v,rfl,nm8,hq8_3⟩; obtain ⟨n_g,n_o,n_n,n_c,n_e,rfl⟩:=nm8.shape; have hs8_3:Below y8_2.heap.size y8_2 y8_3:=(by first | exact hq8_3 | exact bel_trans (bel_alloc _ _) hq8_3); have hT8_3:=bel_trans hT8_2 hs8_3; have hC8_3:=bel_trans hC8_2 hs8_3; have ax1_D_8_3:=ax1_D_8_2.keeps hs8_3; have by1_D_8_3:=by1_D_8_2.keeps hs8_3; have ay1_D_8_3:=ay1_D_8_2.keeps hs8_3; have bx1_D_8_3:=bx1_D_8_2.keeps hs8_3; have hr:=blk_on hs8_3 (blk_on hs8_2 (blk_on hs8_1 (blk_on hs8_0 r_k))); have k0:=(fun _=>blkC hr 0 rfl) hs8_3; have k1:=(fun _=>blkC hr 1 rfl) hs8_3; have k2:=(fun _=>blkC hr 2 rfl) hs8_3; have z0:=(fun _=>blkF hr 0) hs8_3; have z1:=(fun _=>blkF hr 1) hs8_3; have z2:=(fun _=>blkF hr 2) hs8_3; first | (have qz8:y8_3.heap[x7.heap.size]?=some (.cells #[.bool false,.slice none 0 0,.int .i64 0] 34 (0,0)):=blk_on hq8_3 (blk_on hq8_2 (blk_on hq8_1 (heap_a1 x7 (.cells #[.bool false,.slice none 0 0,.int .i64 0] 34)))); have cz8_0:=blkC qz8 0 rfl; have zz8_0:=blkF qz8 0; have cz8_1:=blkC qz8 1 rfl; have zz8_1:=blkF qz8 1; have cz8_2:=blkC qz8 2 rfl; have zz8_2:=blkF qz8 2) | (have qz8:y8_3.heap[y8_1.heap.size]?=some (.cells #[.bool false,.slice none 0 0,.int .i64 0] 34 (0,0)):=blk_on hq8_3 (blk_on hq8_2 (heap_a1 _ _)); have cz8_0:=blkC qz8 0 rfl; have zz8_0:=blkF qz8 0; have cz8_1:=blkC qz8 1 rfl; have zz8_1:=blkF qz8 1; have cz8_2:=blkC qz8 2 rfl; have zz8_2:=blkF qz8 2) | (have qz8:y8_3.heap[y8_2.heap.size]?=some (.cells #[.bool false,.slice none 0 0,.int .i64 0] 34 (0,0)):=blk_on hq8_3 (heap_a1 _ _); have cz8_0:=blkC qz8 0 rfl; have zz8_0:=blkF qz8 0; have cz8_1:=blkC qz8 1 rfl; have zz8_1:=blkF qz8 1; have cz8_2:=blkC qz8 2 rfl; have zz8_2:=blkF qz8 2) | skip)
              | (go_at_call 50; have _t:=hs8_1; refine (r3times_any (ay1_D_8_1.keeps (by first | exact bel_refl _ | exact bel_alloc _ _)).num (bx1_D_8_1.keeps (by first | exact bel_refl _ | exact bel_alloc _ _)).num B3 B4 (by omega)).mono ?_; rintro _ y8_2 ⟨v,s_V,rfl,nb8,s_E,s_B⟩; obtain ⟨s_g,s_o,s_n,s_c,s_e,rfl⟩:=dans_shape nb8; have hq8_2:=nb8.below; have s_A:=nb8.dan.lower (Nat.le_trans hT8_1.size (by first | exact Nat.le_refl _ | exact (bel_alloc _ _).size)); have hs8_2:Below y8_1.heap.size y8_1 y8_2:=(by first | exact hq8_2 | exact bel_trans (bel_alloc _ _) hq8_2); have hT8_2:=bel_trans hT8_1 hs8_2; have hC8_2:=bel_trans hC8_1 hs8_2; have ax1_D_8_2:=ax1_D_8_1.keeps hs8_2; have by1_D_8_2:=by1_D_8_1.keeps hs8_2; have ay1_D_8_2:=ay1_D_8_1.keeps hs8_2; have bx1_D_8_2:=bx1_D_8_1.keeps hs8_2; have l_A:=l_A.keeps hs8_2)
              | (go_at_call 50; refine (r3times_any (ax1_D_8_0.keeps (by first | exact bel_refl _ | exact bel_alloc _ _)).num (by1_D_8_0.keeps (by first | exact bel_refl _ | exact bel_alloc _ _)).num B1 B2 (by omega)).mono ?_; rintro _ y8_1 ⟨v,l_V,rfl,na8,l_E,l_B⟩; obtain ⟨l_g,l_o,l_n,l_c,l_e,rfl⟩:=dans_shape na8; have hq8_1:=na8.below; have l_A:=na8.dan.lower (Nat.le_trans hT8_0.size (by first | exact Nat.le_refl _ | exact (bel_alloc _ _).size)); have hs8_1:Below x7.drew.heap.size x7.drew y8_1:=(by first | exact hq8_1 | exact bel_trans (bel_alloc _ _) hq8_1); have hT8_1:=bel_trans hT8_0 hs8_1; have hC8_1:=bel_trans hC8_0 hs8_1; have ax1_D_8_1:=ax1_D_8_0.keeps hs8_1; have by1_D_8_1:=by1_D_8_0.keeps hs8_1; have ay1_D_8_1:=ay1_D_8_0.keeps hs8_1; have bx1_D_8_1:=bx1_D_8_0.keeps hs8_1))
          go_wp2
          refine bodyPost_ret (v:=.agg #[.bool n_g,.slice n_o n_n n_c,.int .i64 n_e]) (by simp [results,Tryz.results27,go_sem,k0,k1,k2]) rfl ⟨_,l_V-s_V,rfl,dan_res3 nm8 hr _ _ _,bel_set3 hT8_3 (by omega) _ _ _,⟨l_V,s_V,l_E,s_E,rfl⟩⟩
        have KK7:∀ W,Below x6.heap.size x6 W->W.cell? ⟨w.heap.size+1,1,none⟩=some (.int .i64 by')∧W.cell? ⟨y2.heap.size,0,none⟩=some (.bool cy_g)∧W.cell? ⟨y2.heap.size,1,none⟩=some (.slice cy_o cy_n cy_c)∧W.cell? ⟨y2.heap.size,2,none⟩=some (.int .i64 cy_e):=fun W hb=>⟨q_cell (blkC b_k 1 rfl) hb,q_cell (blkC cy_k 0 rfl) hb,q_cell (blkC cy_k 1 rfl) hb,q_cell (blkC cy_k 2 rfl) hb⟩
        have hC7_0:=(bel_refl x6).drew
        have hT7_0:Below w.heap.size w x6.drew:=hb6.drew
        have cy_D_7_0:=cy_D.keeps (bel_refl x6).drew
        have hs7_0:=(bel_refl x6).drew
        go_region_held3 (fun W=>W.cell? ⟨w.heap.size+1,1,none⟩=some (.int .i64 by')∧W.cell? ⟨y2.heap.size,0,none⟩=some (.bool cy_g)∧W.cell? ⟨y2.heap.size,1,none⟩=some (.slice cy_o cy_n cy_c)∧W.cell? ⟨y2.heap.size,2,none⟩=some (.int .i64 cy_e))
          (first | assumption | exact KK7 _ hC7_0 | exact KK7 _ hC7_1 | exact KK7 _ hC7_2 | exact KK7 _ (bel_trans hC7_0 (bel_alloc _ _)) | exact KK7 _ (bel_trans hC7_1 (bel_alloc _ _)) | exact KK7 _ (bel_trans hC7_2 (bel_alloc _ _)) | exact KK7 _ (bel_set3' hC7_2 (Nat.le_refl _) _ _ _) | exact KK7 _ (bel_set3' hC7_2 hC7_1.size _ _ _) | fail)
          (first
            | (go_at_call 49; have _t:=hs7_1; refine (r3minus_any (np7.keeps (by first | exact bel_refl _ | exact bel_alloc _ _)) (cy_D_7_1.keeps (by first | exact bel_refl _ | exact bel_alloc _ _)) (Nat.le_trans hT7_1.size (by first | exact Nat.le_refl _ | exact (bel_alloc _ _).size)) Bby Bcy (by omega)).mono ?_; rintro _ y7_2 ⟨v,rfl,nm7,hq7_2⟩; obtain ⟨by1_g,by1_o,by1_n,by1_c,by1_e,rfl⟩:=nm7.shape; have by1_A:=nm7; have hs7_2:Below y7_1.heap.size y7_1 y7_2:=(by first | exact hq7_2 | exact bel_trans (bel_alloc _ _) hq7_2); have hT7_2:=bel_trans hT7_1 hs7_2; have hC7_2:=bel_trans hC7_1 hs7_2; have cy_D_7_2:=cy_D_7_1.keeps hs7_2; first | (have qz7:y7_2.heap[x6.heap.size]?=some (.cells #[.bool false,.slice none 0 0,.int .i64 0] 34 (0,0)):=blk_on hq7_2 (blk_on hq7_1 (heap_a1 x6 (.cells #[.bool false,.slice none 0 0,.int .i64 0] 34))); have cz7_0:=blkC qz7 0 rfl; have zz7_0:=blkF qz7 0; have cz7_1:=blkC qz7 1 rfl; have zz7_1:=blkF qz7 1; have cz7_2:=blkC qz7 2 rfl; have zz7_2:=blkF qz7 2) | (have qz7:y7_2.heap[y7_1.heap.size]?=some (.cells #[.bool false,.slice none 0 0,.int .i64 0] 34 (0,0)):=blk_on hq7_2 (heap_a1 _ _); have cz7_0:=blkC qz7 0 rfl; have zz7_0:=blkF qz7 0; have cz7_1:=blkC qz7 1 rfl; have zz7_1:=blkF qz7 1; have cz7_2:=blkC qz7 2 rfl; have zz7_2:=blkF qz7 2) | skip)
            | (go_at_call 48; refine (Eby.out _).mono ?_; rintro _ y7_1 ⟨v,rfl,na7⟩; obtain ⟨p_g,p_o,p_n,p_c,p_e,rfl⟩:=dans_shape na7; have hq7_1:=na7.below; have np7:=na7.dan.lower (Nat.le_trans hT7_0.size (by first | exact Nat.le_refl _ | exact (bel_alloc _ _).size)); have hs7_1:Below x6.drew.heap.size x6.drew y7_1:=(by first | exact hq7_1 | exact bel_trans (bel_alloc _ _) hq7_1); have hT7_1:=bel_trans hT7_0 hs7_1; have hC7_1:=bel_trans hC7_0 hs7_1; have cy_D_7_1:=cy_D_7_0.keeps hs7_1))
        . exact HN7 y7_2.heap.size _ _ _ _ _ _ _  (by kernel_rfl) ((bel_trans (bel_trans (hs7_0) hs7_1) hs7_2).size) (heap_a1 _ _) (bel_trans (bel_trans (bel_trans (hs7_0) hs7_1) hs7_2) (bel_alloc _ _)) (by1_A.keeps (bel_alloc _ _)) 
        . exact HN7 y7_1.heap.size _ _ _ _ _ _ _  (by kernel_rfl) ((bel_trans (hs7_0) hs7_1).size) (heap_set (heap_set (heap_set (blk_on hq7_2 (heap_a1 _ _)) 0 _) 1 _) 2 _) (bel_set3' (bel_trans (bel_trans (hs7_0) hs7_1) hs7_2) ((bel_trans (hs7_0) hs7_1).size) _ _ _) (dan_res3 by1_A (blk_on hq7_2 (heap_a1 _ _)) _ _ _) 
        . exact HN7 x6.heap.size _ _ _ _ _ _ _  (by kernel_rfl) (Nat.le_refl _) (heap_set (heap_set (heap_set (blk_on hq7_2 (blk_on hq7_1 (heap_a1 x6 (.cells #[.bool false,.slice none 0 0,.int .i64 0] 34)))) 0 _) 1 _) 2 _) (bel_set3' (bel_trans (bel_trans (hs7_0) hs7_1) hs7_2) (Nat.le_refl _) _ _ _) (dan_res3 by1_A (blk_on hq7_2 (blk_on hq7_1 (heap_a1 x6 (.cells #[.bool false,.slice none 0 0,.int .i64 0] 34)))) _ _ _) 
      have KK6:∀ W,Below x5.heap.size x5 W->W.cell? ⟨w.heap.size+1,0,none⟩=some (.int .i64 bx)∧W.cell? ⟨y1.heap.size,0,none⟩=some (.bool cx_g)∧W.cell? ⟨y1.heap.size,1,none⟩=some (.slice cx_o cx_n cx_c)∧W.cell? ⟨y1.heap.size,2,none⟩=some (.int .i64 cx_e):=fun W hb=>⟨q_cell (blkC b_k 0 rfl) hb,q_cell (blkC cx_k 0 rfl) hb,q_cell (blkC cx_k 1 rfl) hb,q_cell (blkC cx_k 2 rfl) hb⟩
      have hC6_0:=(bel_refl x5).drew
      have hT6_0:Below w.heap.size w x5.drew:=hb5.drew
      have cx_D_6_0:=cx_D.keeps (bel_refl x5).drew
      have hs6_0:=(bel_refl x5).drew
      go_region_held3 (fun W=>W.cell? ⟨w.heap.size+1,0,none⟩=some (.int .i64 bx)∧W.cell? ⟨y1.heap.size,0,none⟩=some (.bool cx_g)∧W.cell? ⟨y1.heap.size,1,none⟩=some (.slice cx_o cx_n cx_c)∧W.cell? ⟨y1.heap.size,2,none⟩=some (.int .i64 cx_e))
        (first | assumption | exact KK6 _ hC6_0 | exact KK6 _ hC6_1 | exact KK6 _ hC6_2 | exact KK6 _ (bel_trans hC6_0 (bel_alloc _ _)) | exact KK6 _ (bel_trans hC6_1 (bel_alloc _ _)) | exact KK6 _ (bel_trans hC6_2 (bel_alloc _ _)) | exact KK6 _ (bel_set3' hC6_2 (Nat.le_refl _) _ _ _) | exact KK6 _ (bel_set3' hC6_2 hC6_1.size _ _ _) | fail)
        (first
          | (go_at_call 49; have _t:=hs6_1; refine (r3minus_any (np6.keeps (by first | exact bel_refl _ | exact bel_alloc _ _)) (cx_D_6_1.keeps (by first | exact bel_refl _ | exact bel_alloc _ _)) (Nat.le_trans hT6_1.size (by first | exact Nat.le_refl _ | exact (bel_alloc _ _).size)) Bbx Bcx (by omega)).mono ?_; rintro _ y6_2 ⟨v,rfl,nm6,hq6_2⟩; obtain ⟨bx1_g,bx1_o,bx1_n,bx1_c,bx1_e,rfl⟩:=nm6.shape; have bx1_A:=nm6; have hs6_2:Below y6_1.heap.size y6_1 y6_2:=(by first | exact hq6_2 | exact bel_trans (bel_alloc _ _) hq6_2); have hT6_2:=bel_trans hT6_1 hs6_2; have hC6_2:=bel_trans hC6_1 hs6_2; have cx_D_6_2:=cx_D_6_1.keeps hs6_2; first | (have qz6:y6_2.heap[x5.heap.size]?=some (.cells #[.bool false,.slice none 0 0,.int .i64 0] 34 (0,0)):=blk_on hq6_2 (blk_on hq6_1 (heap_a1 x5 (.cells #[.bool false,.slice none 0 0,.int .i64 0] 34))); have cz6_0:=blkC qz6 0 rfl; have zz6_0:=blkF qz6 0; have cz6_1:=blkC qz6 1 rfl; have zz6_1:=blkF qz6 1; have cz6_2:=blkC qz6 2 rfl; have zz6_2:=blkF qz6 2) | (have qz6:y6_2.heap[y6_1.heap.size]?=some (.cells #[.bool false,.slice none 0 0,.int .i64 0] 34 (0,0)):=blk_on hq6_2 (heap_a1 _ _); have cz6_0:=blkC qz6 0 rfl; have zz6_0:=blkF qz6 0; have cz6_1:=blkC qz6 1 rfl; have zz6_1:=blkF qz6 1; have cz6_2:=blkC qz6 2 rfl; have zz6_2:=blkF qz6 2) | skip)
          | (go_at_call 48; refine (Ebx.out _).mono ?_; rintro _ y6_1 ⟨v,rfl,na6⟩; obtain ⟨p_g,p_o,p_n,p_c,p_e,rfl⟩:=dans_shape na6; have hq6_1:=na6.below; have np6:=na6.dan.lower (Nat.le_trans hT6_0.size (by first | exact Nat.le_refl _ | exact (bel_alloc _ _).size)); have hs6_1:Below x5.drew.heap.size x5.drew y6_1:=(by first | exact hq6_1 | exact bel_trans (bel_alloc _ _) hq6_1); have hT6_1:=bel_trans hT6_0 hs6_1; have hC6_1:=bel_trans hC6_0 hs6_1; have cx_D_6_1:=cx_D_6_0.keeps hs6_1))
      . exact HN6 y6_2.heap.size _ _ _ _ _ _ _  (by kernel_rfl) ((bel_trans (bel_trans (hs6_0) hs6_1) hs6_2).size) (heap_a1 _ _) (bel_trans (bel_trans (bel_trans (hs6_0) hs6_1) hs6_2) (bel_alloc _ _)) (bx1_A.keeps (bel_alloc _ _)) 
      . exact HN6 y6_1.heap.size _ _ _ _ _ _ _  (by kernel_rfl) ((bel_trans (hs6_0) hs6_1).size) (heap_set (heap_set (heap_set (blk_on hq6_2 (heap_a1 _ _)) 0 _) 1 _) 2 _) (bel_set3' (bel_trans (bel_trans (hs6_0) hs6_1) hs6_2) ((bel_trans (hs6_0) hs6_1).size) _ _ _) (dan_res3 bx1_A (blk_on hq6_2 (heap_a1 _ _)) _ _ _) 
      . exact HN6 x5.heap.size _ _ _ _ _ _ _  (by kernel_rfl) (Nat.le_refl _) (heap_set (heap_set (heap_set (blk_on hq6_2 (blk_on hq6_1 (heap_a1 x5 (.cells #[.bool false,.slice none 0 0,.int .i64 0] 34)))) 0 _) 1 _) 2 _) (bel_set3' (bel_trans (bel_trans (hs6_0) hs6_1) hs6_2) (Nat.le_refl _) _ _ _) (dan_res3 bx1_A (blk_on hq6_2 (blk_on hq6_1 (heap_a1 x5 (.cells #[.bool false,.slice none 0 0,.int .i64 0] 34)))) _ _ _) 
    have KK5:∀ W,Below x4.heap.size x4 W->W.cell? ⟨w.heap.size,1,none⟩=some (.int .i64 ay)∧W.cell? ⟨y2.heap.size,0,none⟩=some (.bool cy_g)∧W.cell? ⟨y2.heap.size,1,none⟩=some (.slice cy_o cy_n cy_c)∧W.cell? ⟨y2.heap.size,2,none⟩=some (.int .i64 cy_e):=fun W hb=>⟨q_cell (blkC a_k 1 rfl) hb,q_cell (blkC cy_k 0 rfl) hb,q_cell (blkC cy_k 1 rfl) hb,q_cell (blkC cy_k 2 rfl) hb⟩
    have hC5_0:=(bel_refl x4).drew
    have hT5_0:Below w.heap.size w x4.drew:=hb4.drew
    have cy_D_5_0:=cy_D.keeps (bel_refl x4).drew
    have hs5_0:=(bel_refl x4).drew
    go_region_held3 (fun W=>W.cell? ⟨w.heap.size,1,none⟩=some (.int .i64 ay)∧W.cell? ⟨y2.heap.size,0,none⟩=some (.bool cy_g)∧W.cell? ⟨y2.heap.size,1,none⟩=some (.slice cy_o cy_n cy_c)∧W.cell? ⟨y2.heap.size,2,none⟩=some (.int .i64 cy_e))
      (first | assumption | exact KK5 _ hC5_0 | exact KK5 _ hC5_1 | exact KK5 _ hC5_2 | exact KK5 _ (bel_trans hC5_0 (bel_alloc _ _)) | exact KK5 _ (bel_trans hC5_1 (bel_alloc _ _)) | exact KK5 _ (bel_trans hC5_2 (bel_alloc _ _)) | exact KK5 _ (bel_set3' hC5_2 (Nat.le_refl _) _ _ _) | exact KK5 _ (bel_set3' hC5_2 hC5_1.size _ _ _) | fail)
      (first
        | (go_at_call 49; have _t:=hs5_1; refine (r3minus_any (np5.keeps (by first | exact bel_refl _ | exact bel_alloc _ _)) (cy_D_5_1.keeps (by first | exact bel_refl _ | exact bel_alloc _ _)) (Nat.le_trans hT5_1.size (by first | exact Nat.le_refl _ | exact (bel_alloc _ _).size)) Bay Bcy (by omega)).mono ?_; rintro _ y5_2 ⟨v,rfl,nm5,hq5_2⟩; obtain ⟨ay1_g,ay1_o,ay1_n,ay1_c,ay1_e,rfl⟩:=nm5.shape; have ay1_A:=nm5; have hs5_2:Below y5_1.heap.size y5_1 y5_2:=(by first | exact hq5_2 | exact bel_trans (bel_alloc _ _) hq5_2); have hT5_2:=bel_trans hT5_1 hs5_2; have hC5_2:=bel_trans hC5_1 hs5_2; have cy_D_5_2:=cy_D_5_1.keeps hs5_2; first | (have qz5:y5_2.heap[x4.heap.size]?=some (.cells #[.bool false,.slice none 0 0,.int .i64 0] 34 (0,0)):=blk_on hq5_2 (blk_on hq5_1 (heap_a1 x4 (.cells #[.bool false,.slice none 0 0,.int .i64 0] 34))); have cz5_0:=blkC qz5 0 rfl; have zz5_0:=blkF qz5 0; have cz5_1:=blkC qz5 1 rfl; have zz5_1:=blkF qz5 1; have cz5_2:=blkC qz5 2 rfl; have zz5_2:=blkF qz5 2) | (have qz5:y5_2.heap[y5_1.heap.size]?=some (.cells #[.bool false,.slice none 0 0,.int .i64 0] 34 (0,0)):=blk_on hq5_2 (heap_a1 _ _); have cz5_0:=blkC qz5 0 rfl; have zz5_0:=blkF qz5 0; have cz5_1:=blkC qz5 1 rfl; have zz5_1:=blkF qz5 1; have cz5_2:=blkC qz5 2 rfl; have zz5_2:=blkF qz5 2) | skip)
        | (go_at_call 48; refine (Eay.out _).mono ?_; rintro _ y5_1 ⟨v,rfl,na5⟩; obtain ⟨p_g,p_o,p_n,p_c,p_e,rfl⟩:=dans_shape na5; have hq5_1:=na5.below; have np5:=na5.dan.lower (Nat.le_trans hT5_0.size (by first | exact Nat.le_refl _ | exact (bel_alloc _ _).size)); have hs5_1:Below x4.drew.heap.size x4.drew y5_1:=(by first | exact hq5_1 | exact bel_trans (bel_alloc _ _) hq5_1); have hT5_1:=bel_trans hT5_0 hs5_1; have hC5_1:=bel_trans hC5_0 hs5_1; have cy_D_5_1:=cy_D_5_0.keeps hs5_1))
    . exact HN5 y5_2.heap.size _ _ _ _ _ _ _  (by kernel_rfl) ((bel_trans (bel_trans (hs5_0) hs5_1) hs5_2).size) (heap_a1 _ _) (bel_trans (bel_trans (bel_trans (hs5_0) hs5_1) hs5_2) (bel_alloc _ _)) (ay1_A.keeps (bel_alloc _ _)) 
    . exact HN5 y5_1.heap.size _ _ _ _ _ _ _  (by kernel_rfl) ((bel_trans (hs5_0) hs5_1).size) (heap_set (heap_set (heap_set (blk_on hq5_2 (heap_a1 _ _)) 0 _) 1 _) 2 _) (bel_set3' (bel_trans (bel_trans (hs5_0) hs5_1) hs5_2) ((bel_trans (hs5_0) hs5_1).size) _ _ _) (dan_res3 ay1_A (blk_on hq5_2 (heap_a1 _ _)) _ _ _) 
    . exact HN5 x4.heap.size _ _ _ _ _ _ _  (by kernel_rfl) (Nat.le_refl _) (heap_set (heap_set (heap_set (blk_on hq5_2 (blk_on hq5_1 (heap_a1 x4 (.cells #[.bool false,.slice none 0 0,.int .i64 0] 34)))) 0 _) 1 _) 2 _) (bel_set3' (bel_trans (bel_trans (hs5_0) hs5_1) hs5_2) (Nat.le_refl _) _ _ _) (dan_res3 ay1_A (blk_on hq5_2 (blk_on hq5_1 (heap_a1 x4 (.cells #[.bool false,.slice none 0 0,.int .i64 0] 34)))) _ _ _) 
  have KK4:∀ W,Below x3.heap.size x3 W->W.cell? ⟨w.heap.size,0,none⟩=some (.int .i64 ax)∧W.cell? ⟨y1.heap.size,0,none⟩=some (.bool cx_g)∧W.cell? ⟨y1.heap.size,1,none⟩=some (.slice cx_o cx_n cx_c)∧W.cell? ⟨y1.heap.size,2,none⟩=some (.int .i64 cx_e):=fun W hb=>⟨q_cell (blkC a_k 0 rfl) hb,q_cell (blkC cx_k 0 rfl) hb,q_cell (blkC cx_k 1 rfl) hb,q_cell (blkC cx_k 2 rfl) hb⟩
  have hC4_0:=(bel_refl x3).drew
  have hT4_0:Below w.heap.size w x3.drew:=hb3'.drew
  have cx_D_4_0:=cx_D.keeps (bel_refl x3).drew
  have hs4_0:=(bel_refl x3).drew
  go_region_held3 (fun W=>W.cell? ⟨w.heap.size,0,none⟩=some (.int .i64 ax)∧W.cell? ⟨y1.heap.size,0,none⟩=some (.bool cx_g)∧W.cell? ⟨y1.heap.size,1,none⟩=some (.slice cx_o cx_n cx_c)∧W.cell? ⟨y1.heap.size,2,none⟩=some (.int .i64 cx_e))
    (first | assumption | exact KK4 _ hC4_0 | exact KK4 _ hC4_1 | exact KK4 _ hC4_2 | exact KK4 _ (bel_trans hC4_0 (bel_alloc _ _)) | exact KK4 _ (bel_trans hC4_1 (bel_alloc _ _)) | exact KK4 _ (bel_trans hC4_2 (bel_alloc _ _)) | exact KK4 _ (bel_set3' hC4_2 (Nat.le_refl _) _ _ _) | exact KK4 _ (bel_set3' hC4_2 hC4_1.size _ _ _) | fail)
    (first
      | (go_at_call 49; have _t:=hs4_1; refine (r3minus_any (np4.keeps (by first | exact bel_refl _ | exact bel_alloc _ _)) (cx_D_4_1.keeps (by first | exact bel_refl _ | exact bel_alloc _ _)) (Nat.le_trans hT4_1.size (by first | exact Nat.le_refl _ | exact (bel_alloc _ _).size)) Bax Bcx (by omega)).mono ?_; rintro _ y4_2 ⟨v,rfl,nm4,hq4_2⟩; obtain ⟨ax1_g,ax1_o,ax1_n,ax1_c,ax1_e,rfl⟩:=nm4.shape; have ax1_A:=nm4; have hs4_2:Below y4_1.heap.size y4_1 y4_2:=(by first | exact hq4_2 | exact bel_trans (bel_alloc _ _) hq4_2); have hT4_2:=bel_trans hT4_1 hs4_2; have hC4_2:=bel_trans hC4_1 hs4_2; have cx_D_4_2:=cx_D_4_1.keeps hs4_2; first | (have qz4:y4_2.heap[x3.heap.size]?=some (.cells #[.bool false,.slice none 0 0,.int .i64 0] 34 (0,0)):=blk_on hq4_2 (blk_on hq4_1 (heap_a1 x3 (.cells #[.bool false,.slice none 0 0,.int .i64 0] 34))); have cz4_0:=blkC qz4 0 rfl; have zz4_0:=blkF qz4 0; have cz4_1:=blkC qz4 1 rfl; have zz4_1:=blkF qz4 1; have cz4_2:=blkC qz4 2 rfl; have zz4_2:=blkF qz4 2) | (have qz4:y4_2.heap[y4_1.heap.size]?=some (.cells #[.bool false,.slice none 0 0,.int .i64 0] 34 (0,0)):=blk_on hq4_2 (heap_a1 _ _); have cz4_0:=blkC qz4 0 rfl; have zz4_0:=blkF qz4 0; have cz4_1:=blkC qz4 1 rfl; have zz4_1:=blkF qz4 1; have cz4_2:=blkC qz4 2 rfl; have zz4_2:=blkF qz4 2) | skip)
      | (go_at_call 48; refine (Eax.out _).mono ?_; rintro _ y4_1 ⟨v,rfl,na4⟩; obtain ⟨p_g,p_o,p_n,p_c,p_e,rfl⟩:=dans_shape na4; have hq4_1:=na4.below; have np4:=na4.dan.lower (Nat.le_trans hT4_0.size (by first | exact Nat.le_refl _ | exact (bel_alloc _ _).size)); have hs4_1:Below x3.drew.heap.size x3.drew y4_1:=(by first | exact hq4_1 | exact bel_trans (bel_alloc _ _) hq4_1); have hT4_1:=bel_trans hT4_0 hs4_1; have hC4_1:=bel_trans hC4_0 hs4_1; have cx_D_4_1:=cx_D_4_0.keeps hs4_1))
  . exact HN4 y4_2.heap.size _ _ _ _ _ _ _  (by kernel_rfl) ((bel_trans (bel_trans (hs4_0) hs4_1) hs4_2).size) (heap_a1 _ _) (bel_trans (bel_trans (bel_trans (hs4_0) hs4_1) hs4_2) (bel_alloc _ _)) (ax1_A.keeps (bel_alloc _ _)) 
  . exact HN4 y4_1.heap.size _ _ _ _ _ _ _  (by kernel_rfl) ((bel_trans (hs4_0) hs4_1).size) (heap_set (heap_set (heap_set (blk_on hq4_2 (heap_a1 _ _)) 0 _) 1 _) 2 _) (bel_set3' (bel_trans (bel_trans (hs4_0) hs4_1) hs4_2) ((bel_trans (hs4_0) hs4_1).size) _ _ _) (dan_res3 ax1_A (blk_on hq4_2 (heap_a1 _ _)) _ _ _) 
  . exact HN4 x3.heap.size _ _ _ _ _ _ _  (by kernel_rfl) (Nat.le_refl _) (heap_set (heap_set (heap_set (blk_on hq4_2 (blk_on hq4_1 (heap_a1 x3 (.cells #[.bool false,.slice none 0 0,.int .i64 0] 34)))) 0 _) 1 _) 2 _) (bel_set3' (bel_trans (bel_trans (hs4_0) hs4_1) hs4_2) (Nat.le_refl _) _ _ _) (dan_res3 ax1_A (blk_on hq4_2 (blk_on hq4_1 (heap_a1 x3 (.cells #[.bool false,.slice none 0 0,.int .i64 0] 34)))) _ _ _) 
end Go.Proofs.YtmmnoneehiibiaaGreatDoor
