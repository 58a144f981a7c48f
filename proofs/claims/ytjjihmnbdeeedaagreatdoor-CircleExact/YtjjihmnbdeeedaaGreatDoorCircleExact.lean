/-
  CircleExact: for every four points the law returns true: the exact value is the document's, or ErrFinite; what is answered is the caller's own. As a card: the library's tables and the layout of package bits start as the program's text lays them.
-/
import Derived.Test.YtjjihmnbdeeedaaGreatDoorCe14
import Derived.Test.YtjjihmnbdeeedaaGreatDoorCe16
import Derived.Test.YtjjihmnbdeeedaaGreatDoorCe18
import Derived.Test.YtjjihmnbdeeedaaGreatDoorCe11
import Derived.Test.YtjjihmnbdeeedaaGreatDoorCe9
import Derived.Test.YtjjihmnbdeeedaaGreatDoorCards
import Derived.Test.YtjjihmnbdeeedaaGreatDoorTie
set_option linter.unusedVariables false
set_option linter.unusedSimpArgs false
namespace Go.Proofs.YtjjihmnbdeeedaaGreatDoor.circleExact
open Go Go.ChangeShapes Go.WideShapes Go.ChangeAt Go.RowKit Go.Proofs.YtjjihmnbdeeedaaGreatDoor Go.Proofs.YtjjihmnbdeeedaaGreatDoor.M
theorem c_uniq {A B M:Int} (a:A*2^4194304*2^4194304*2^4194304=M) (b:B*2^4194304*2^4194304*2^4194304=M):A=B:=scale_inj (scale_inj (scale_inj (a.trans b.symm)))
theorem cc_dans {w w':World} {V:Int} {v:Value} (h:DAn w.heap.size w' V v) (hb:Below w.heap.size w w'):DAns w w' V v:=by
  obtain ⟨ng,s,m,e,h1,h2,t,d,h3,h4,h5⟩:=h
  exact ⟨ng,s,m,e,h1,h2,t,d,h3,h4,h5,hb⟩
theorem an_block {B:Nat} {w:World} {so:Option Addr} {sn sc:Nat} {m:Int} (h:An B w (.slice so sn sc) m):sn=0∨∃ g cur,so=some ⟨g,0,none⟩∧B<=g∧w.heap[g]?=some (.cells cur 3 (0,0))∧sn<=cur.size:=by
  obtain ⟨t,d,hO,_⟩:=h
  rcases hO.2 with ⟨e,_⟩ | ⟨g,cap,cur,e,hb,hg,hn,hm,hs,ht⟩
  . simp only [Value.slice.injEq] at e
    exact .inl e.2.1
  . simp only [Value.slice.injEq] at e
    obtain ⟨rfl,rfl,rfl⟩:=e
    exact .inr ⟨g,cur,rfl,hb,hg,by omega⟩
set_option maxRecDepth 100000 in
set_option maxHeartbeats 4000000 in
theorem walk_no (ax ay bx by' cx cy dx dy:Int) (w:World) (rax:rng ax) (ray:rng ay) (rbx:rng bx) (rby:rng by') (rcx:rng cx) (rcy:rng cy) (rdx:rng dx) (rdy:rng dy) (hno:(ptok ax ay && ptok bx by' && ptok cx cy && ptok dx dy)=false) (H:Hold4 w) :
    Calls Tryz.prog 4 #[.agg #[.int .i64 ax,.int .i64 ay],.agg #[.int .i64 bx,.int .i64 by'],.agg #[.int .i64 cx,.int .i64 cy],.agg #[.int .i64 dx,.int .i64 dy]] w fun e w'=>e=.returned (.bool true)∧Below w.heap.size w w':=by
  have CE:Hid (∀ W,Calls Tryz.prog 11 #[.agg #[.int .i64 ax,.int .i64 ay],.agg #[.int .i64 bx,.int .i64 by'],.agg #[.int .i64 cx,.int .i64 cy],.agg #[.int .i64 dx,.int .i64 dy]] W fun r w'=>r=.returned (.tuple #[.agg #[.bool false,.slice none 0 0,.int .i64 0],.int .i64 10])∧Below W.heap.size W w'):=fun W=>cExact_no (px:=l4 ax bx cx dx) (py:=l4 ay by' cy dy) (rng4 rax rbx rcx rdx) (rng4 ray rby rcy rdy) ((allB4 ptok ax ay bx by' cx cy dx dy).trans hno) W
  have CG:Hid (∀ W,Calls Tryz.prog 12 #[.agg #[.int .i64 ax,.int .i64 ay,.int .i64 bx,.int .i64 by',.int .i64 cx,.int .i64 cy,.int .i64 dx,.int .i64 dy]] W fun r w'=>r=.returned (.bool false)∧Below W.heap.size W w'):=fun W=>by
    have:=lgood11_any (l4 ax bx cx dx) (l4 ay by' cy dy) W (rng4 rax rbx rcx rdx) (rng4 ray rby rcy rdy)
    rw [allB4,hno] at this
    exact this
  clear rax ray rbx rby rcx rcy rdx rdy hno
  have hb0:=bel_a4 w (.cells #[.int .i64 ax,.int .i64 ay] 33) (.cells #[.int .i64 bx,.int .i64 by'] 33) (.cells #[.int .i64 cx,.int .i64 cy] 33) (.cells #[.int .i64 dx,.int .i64 dy] 33)
  have a_k:=h4_0 w (.cells #[.int .i64 ax,.int .i64 ay] 33) (.cells #[.int .i64 bx,.int .i64 by'] 33) (.cells #[.int .i64 cx,.int .i64 cy] 33) (.cells #[.int .i64 dx,.int .i64 dy] 33)
  have b_k:=h4_1 w (.cells #[.int .i64 ax,.int .i64 ay] 33) (.cells #[.int .i64 bx,.int .i64 by'] 33) (.cells #[.int .i64 cx,.int .i64 cy] 33) (.cells #[.int .i64 dx,.int .i64 dy] 33)
  have c_k:=h4_2 w (.cells #[.int .i64 ax,.int .i64 ay] 33) (.cells #[.int .i64 bx,.int .i64 by'] 33) (.cells #[.int .i64 cx,.int .i64 cy] 33) (.cells #[.int .i64 dx,.int .i64 dy] 33)
  have d_k:=h4_3 w (.cells #[.int .i64 ax,.int .i64 ay] 33) (.cells #[.int .i64 bx,.int .i64 by'] 33) (.cells #[.int .i64 cx,.int .i64 cy] 33) (.cells #[.int .i64 dx,.int .i64 dy] 33)
  go_enter Tryz.func4,Tryz.ntmps4
  go_wp2_with fail
  generalize (((w.alloc (.cells #[.int .i64 ax,.int .i64 ay] 33)).alloc (.cells #[.int .i64 bx,.int .i64 by'] 33)).alloc (.cells #[.int .i64 cx,.int .i64 cy] 33)).alloc (.cells #[.int .i64 dx,.int .i64 dy] 33)=x0 at hb0 a_k b_k c_k d_k ⊢
  have H:=H.keeps hb0
  refine (alive11 _).mono ?_
  rintro _ y1 ⟨rfl,hw1⟩
  have H:=H.keeps hw1
  have a_k:=(hw1.block _ (Array.getElem?_eq_some_iff.1 a_k).1).trans a_k
  have b_k:=(hw1.block _ (Array.getElem?_eq_some_iff.1 b_k).1).trans b_k
  have c_k:=(hw1.block _ (Array.getElem?_eq_some_iff.1 c_k).1).trans c_k
  have d_k:=(hw1.block _ (Array.getElem?_eq_some_iff.1 d_k).1).trans d_k
  have hb1:=bel_trans hb0 hw1
  have f_a0:=blkC a_k 0 rfl
  have f_a1:=blkC a_k 1 rfl
  have f_b0:=blkC b_k 0 rfl
  have f_b1:=blkC b_k 1 rfl
  have f_c0:=blkC c_k 0 rfl
  have f_c1:=blkC c_k 1 rfl
  have f_d0:=blkC d_k 0 rfl
  have f_d1:=blkC d_k 1 rfl
  go_wp2_with fail
  clear f_a0 f_a1 f_b0 f_b1 f_c0 f_c1 f_d0 f_d1
  refine (CE.out _).mono ?_
  rintro _ y2 ⟨rfl,hw2⟩
  have H:=H.keeps hw2
  have a_k:=(hw2.block _ (Array.getElem?_eq_some_iff.1 a_k).1).trans a_k
  have b_k:=(hw2.block _ (Array.getElem?_eq_some_iff.1 b_k).1).trans b_k
  have c_k:=(hw2.block _ (Array.getElem?_eq_some_iff.1 c_k).1).trans c_k
  have d_k:=(hw2.block _ (Array.getElem?_eq_some_iff.1 d_k).1).trans d_k
  have hb2:=bel_trans hb1 hw2
  have a_k:=heap_past (.cells #[.bool false,.slice none 0 0,.int .i64 0] 40) a_k
  have b_k:=heap_past (.cells #[.bool false,.slice none 0 0,.int .i64 0] 40) b_k
  have c_k:=heap_past (.cells #[.bool false,.slice none 0 0,.int .i64 0] 40) c_k
  have d_k:=heap_past (.cells #[.bool false,.slice none 0 0,.int .i64 0] 40) d_k
  have x_k:=heap_a1 y2 (.cells #[.bool false,.slice none 0 0,.int .i64 0] 40)
  have H:=H.keeps (bel_alloc y2 (.cells #[.bool false,.slice none 0 0,.int .i64 0] 40))
  have hb3':=bel_trans hb2 (bel_alloc y2 (.cells #[.bool false,.slice none 0 0,.int .i64 0] 40))
  have f_a0:=blkC a_k 0 rfl
  have f_a1:=blkC a_k 1 rfl
  have f_b0:=blkC b_k 0 rfl
  have f_b1:=blkC b_k 1 rfl
  have f_c0:=blkC c_k 0 rfl
  have f_c1:=blkC c_k 1 rfl
  have f_d0:=blkC d_k 0 rfl
  have f_d1:=blkC d_k 1 rfl
  go_wp2_with fail
  clear f_a0 f_a1 f_b0 f_b1 f_c0 f_c1 f_d0 f_d1
  generalize y2.alloc (.cells #[.bool false,.slice none 0 0,.int .i64 0] 40)=x3 at a_k b_k c_k d_k x_k H hb3' ⊢
  refine (CG.out _).mono ?_
  rintro _ y3 ⟨rfl,hw3⟩
  have H:=H.keeps hw3
  have a_k:=(hw3.block _ (Array.getElem?_eq_some_iff.1 a_k).1).trans a_k
  have b_k:=(hw3.block _ (Array.getElem?_eq_some_iff.1 b_k).1).trans b_k
  have c_k:=(hw3.block _ (Array.getElem?_eq_some_iff.1 c_k).1).trans c_k
  have d_k:=(hw3.block _ (Array.getElem?_eq_some_iff.1 d_k).1).trans d_k
  have x_k:=(hw3.block _ (Array.getElem?_eq_some_iff.1 x_k).1).trans x_k
  have hb3:=bel_trans hb3' hw3
  have f_x0:=blkC x_k 0 rfl
  have f_x1:=blkC x_k 1 rfl
  have f_x2:=blkC x_k 2 rfl
  have CS:Hid (∀ W,Calls Tryz.prog 14 #[.agg #[.bool false,.slice none 0 0,.int .i64 0],.agg #[.bool false,.slice none 0 0,.int .i64 0]] W fun r w'=>r=.returned (.bool true)∧Below W.heap.size W w'):=fun W=>(osame_D (DNum.zero W) (DNum.zero W)).mono fun _ _ ⟨h,k⟩=>⟨by rw [h]; simp,k⟩
  go_wp2_with (first | (go_at_call 13; refine (cnum11 _ _).mono ?_; rintro _ _ ⟨rfl,rfl⟩) | (go_at_call 14; refine (CS.out _).mono ?_; rintro _ ys ⟨rfl,hws⟩))
  all_goals go_ret
  all_goals exact ⟨rfl,by first | exact bel_trans hb3 hws | exact (bel_trans hb3 hws).drew | exact bel_trans hb3.drew hws⟩
set_option maxRecDepth 100000 in
set_option maxHeartbeats 4000000 in
theorem walk_yes (ax ay bx by' cx cy dx dy:Int) (w:World) (rax:rng ax) (ray:rng ay) (rbx:rng bx) (rby:rng by') (rcx:rng cx) (rcy:rng cy) (rdx:rng dx) (rdy:rng dy) (pax:pok ax=true) (pay:pok ay=true) (pbx:pok bx=true) (pby:pok by'=true) (pcx:pok cx=true) (pcy:pok cy=true) (pdx:pok dx=true) (pdy:pok dy=true) (H:Hold4 w) :
    Calls Tryz.prog 4 #[.agg #[.int .i64 ax,.int .i64 ay],.agg #[.int .i64 bx,.int .i64 by'],.agg #[.int .i64 cx,.int .i64 cy],.agg #[.int .i64 dx,.int .i64 dy]] w fun e w'=>e=.returned (.bool true)∧Below w.heap.size w w':=by
  have H00:=H
  have PX:∀ i,i<4->pok (l4 ax bx cx dx i)=true:=fun i hi=>match i,hi with
    | 0,_=>pax
    | 1,_=>pbx
    | 2,_=>pcx
    | 3,_=>pdx
  have PY:∀ i,i<4->pok (l4 ay by' cy dy i)=true:=fun i hi=>match i,hi with
    | 0,_=>pay
    | 1,_=>pby
    | 2,_=>pcy
    | 3,_=>pdy
  obtain ⟨DX,hDX⟩:∃ DX,cdet (cwX (l4 ax bx cx dx)) (cwX (l4 ay by' cy dy))=DX:=⟨_,rfl⟩
  have CE:Hid (∀ W,Hold4 W->Calls Tryz.prog 11 #[.agg #[.int .i64 ax,.int .i64 ay],.agg #[.int .i64 bx,.int .i64 by'],.agg #[.int .i64 cx,.int .i64 cy],.agg #[.int .i64 dx,.int .i64 dy]] W fun r w'=>∃ v V,r=.returned (.tuple #[v,.int .i64 0])∧DAns W w' V v∧V*2^4194304*2^4194304*2^4194304=DX∧Bd (4*1075+5) V):=fun W h=>by
    refine (cExact_yes (px:=l4 ax bx cx dx) (py:=l4 ay by' cy dy) (rng4 rax rbx rcx rdx) (rng4 ray rby rcy rdy) PX PY W h).mono ?_
    rintro _ w' ⟨v,V,rfl,h1,h2,h3,h4⟩
    exact ⟨v,V,rfl,cc_dans h1 h2,h3.trans hDX,h4⟩
  have CR:Hid (∀ W,Calls Tryz.prog 15 #[.agg #[.int .i64 ax,.int .i64 ay],.agg #[.int .i64 bx,.int .i64 by'],.agg #[.int .i64 cx,.int .i64 cy],.agg #[.int .i64 dx,.int .i64 dy]] W fun r w'=>∃ v V,r=.returned v∧DAn W.heap.size w' V v∧Below W.heap.size W w'∧V*2^4194304*2^4194304*2^4194304=DX):=fun W=>by
    refine (r11exact_any (px:=l4 ax bx cx dx) (py:=l4 ay by' cy dy) (rng4 rax rbx rcx rdx) (rng4 ray rby rcy rdy) PX PY W).mono ?_
    rintro _ w' ⟨v,V,rfl,h1,h2,h3,_⟩
    exact ⟨v,V,rfl,h1,h2,h3.trans hDX⟩
  have CG:Hid (∀ W,Calls Tryz.prog 12 #[.agg #[.int .i64 ax,.int .i64 ay,.int .i64 bx,.int .i64 by',.int .i64 cx,.int .i64 cy,.int .i64 dx,.int .i64 dy]] W fun r w'=>r=.returned (.bool true)∧Below W.heap.size W w'):=fun W=>by
    have:=lgood11_any (l4 ax bx cx dx) (l4 ay by' cy dy) W (rng4 rax rbx rcx rdx) (rng4 ray rby rcy rdy)
    rw [allB4] at this
    unfold ptok at this
    rw [pax,pay,pbx,pby,pcx,pcy,pdx,pdy] at this
    exact this
  clear rax ray rbx rby rcx rcy rdx rdy pax pay pbx pby pcx pcy pdx pdy PX PY hDX
  have hb0:=bel_a4 w (.cells #[.int .i64 ax,.int .i64 ay] 33) (.cells #[.int .i64 bx,.int .i64 by'] 33) (.cells #[.int .i64 cx,.int .i64 cy] 33) (.cells #[.int .i64 dx,.int .i64 dy] 33)
  have a_k:=h4_0 w (.cells #[.int .i64 ax,.int .i64 ay] 33) (.cells #[.int .i64 bx,.int .i64 by'] 33) (.cells #[.int .i64 cx,.int .i64 cy] 33) (.cells #[.int .i64 dx,.int .i64 dy] 33)
  have b_k:=h4_1 w (.cells #[.int .i64 ax,.int .i64 ay] 33) (.cells #[.int .i64 bx,.int .i64 by'] 33) (.cells #[.int .i64 cx,.int .i64 cy] 33) (.cells #[.int .i64 dx,.int .i64 dy] 33)
  have c_k:=h4_2 w (.cells #[.int .i64 ax,.int .i64 ay] 33) (.cells #[.int .i64 bx,.int .i64 by'] 33) (.cells #[.int .i64 cx,.int .i64 cy] 33) (.cells #[.int .i64 dx,.int .i64 dy] 33)
  have d_k:=h4_3 w (.cells #[.int .i64 ax,.int .i64 ay] 33) (.cells #[.int .i64 bx,.int .i64 by'] 33) (.cells #[.int .i64 cx,.int .i64 cy] 33) (.cells #[.int .i64 dx,.int .i64 dy] 33)
  go_enter Tryz.func4,Tryz.ntmps4
  go_wp2_with fail
  generalize (((w.alloc (.cells #[.int .i64 ax,.int .i64 ay] 33)).alloc (.cells #[.int .i64 bx,.int .i64 by'] 33)).alloc (.cells #[.int .i64 cx,.int .i64 cy] 33)).alloc (.cells #[.int .i64 dx,.int .i64 dy] 33)=x0 at hb0 a_k b_k c_k d_k ⊢
  have H:=H.keeps hb0
  refine (alive11 _).mono ?_
  rintro _ y1 ⟨rfl,hw1⟩
  have H:=H.keeps hw1
  have a_k:=(hw1.block _ (Array.getElem?_eq_some_iff.1 a_k).1).trans a_k
  have b_k:=(hw1.block _ (Array.getElem?_eq_some_iff.1 b_k).1).trans b_k
  have c_k:=(hw1.block _ (Array.getElem?_eq_some_iff.1 c_k).1).trans c_k
  have d_k:=(hw1.block _ (Array.getElem?_eq_some_iff.1 d_k).1).trans d_k
  have hb1:=bel_trans hb0 hw1
  have f_a0:=blkC a_k 0 rfl
  have f_a1:=blkC a_k 1 rfl
  have f_b0:=blkC b_k 0 rfl
  have f_b1:=blkC b_k 1 rfl
  have f_c0:=blkC c_k 0 rfl
  have f_c1:=blkC c_k 1 rfl
  have f_d0:=blkC d_k 0 rfl
  have f_d1:=blkC d_k 1 rfl
  go_wp2_with fail
  clear f_a0 f_a1 f_b0 f_b1 f_c0 f_c1 f_d0 f_d1
  have hBx:=(Array.getElem?_eq_some_iff.1 d_k).1
  refine (CE.out _ H).mono ?_
  rintro _ y2 ⟨v,V,rfl,h2,hV,bV⟩
  obtain ⟨x_g,x_o,x_n,x_c,x_e,rfl⟩:=dans_shape h2
  have hw2:=h2.below
  have x_D:=h2.num
  have H:=H.keeps hw2
  have a_k:=(hw2.block _ (Array.getElem?_eq_some_iff.1 a_k).1).trans a_k
  have b_k:=(hw2.block _ (Array.getElem?_eq_some_iff.1 b_k).1).trans b_k
  have c_k:=(hw2.block _ (Array.getElem?_eq_some_iff.1 c_k).1).trans c_k
  have d_k:=(hw2.block _ (Array.getElem?_eq_some_iff.1 d_k).1).trans d_k
  have hb2:=bel_trans hb1 hw2
  have x_A:=h2.dan
  have x_A0:=h2.dan
  have a_k:=heap_past (.cells #[.bool x_g,.slice x_o x_n x_c,.int .i64 x_e] 40) a_k
  have b_k:=heap_past (.cells #[.bool x_g,.slice x_o x_n x_c,.int .i64 x_e] 40) b_k
  have c_k:=heap_past (.cells #[.bool x_g,.slice x_o x_n x_c,.int .i64 x_e] 40) c_k
  have d_k:=heap_past (.cells #[.bool x_g,.slice x_o x_n x_c,.int .i64 x_e] 40) d_k
  have x_k:=heap_a1 y2 (.cells #[.bool x_g,.slice x_o x_n x_c,.int .i64 x_e] 40)
  have x_D:=x_D.keeps (bel_alloc y2 (.cells #[.bool x_g,.slice x_o x_n x_c,.int .i64 x_e] 40))
  have H:=H.keeps (bel_alloc y2 (.cells #[.bool x_g,.slice x_o x_n x_c,.int .i64 x_e] 40))
  have x_A:=x_A.keeps (bel_alloc y2 (.cells #[.bool x_g,.slice x_o x_n x_c,.int .i64 x_e] 40))
  have hb3':=bel_trans hb2 (bel_alloc y2 (.cells #[.bool x_g,.slice x_o x_n x_c,.int .i64 x_e] 40))
  have f_a0:=blkC a_k 0 rfl
  have f_a1:=blkC a_k 1 rfl
  have f_b0:=blkC b_k 0 rfl
  have f_b1:=blkC b_k 1 rfl
  have f_c0:=blkC c_k 0 rfl
  have f_c1:=blkC c_k 1 rfl
  have f_d0:=blkC d_k 0 rfl
  have f_d1:=blkC d_k 1 rfl
  go_wp2_with fail
  clear f_a0 f_a1 f_b0 f_b1 f_c0 f_c1 f_d0 f_d1
  generalize y2.alloc (.cells #[.bool x_g,.slice x_o x_n x_c,.int .i64 x_e] 40)=x3 at a_k b_k c_k d_k x_k x_D H x_A hb3' ⊢
  refine (CG.out _).mono ?_
  rintro _ y3 ⟨rfl,hw3⟩
  have H:=H.keeps hw3
  have x_A:=x_A.keeps hw3
  have a_k:=(hw3.block _ (Array.getElem?_eq_some_iff.1 a_k).1).trans a_k
  have b_k:=(hw3.block _ (Array.getElem?_eq_some_iff.1 b_k).1).trans b_k
  have c_k:=(hw3.block _ (Array.getElem?_eq_some_iff.1 c_k).1).trans c_k
  have d_k:=(hw3.block _ (Array.getElem?_eq_some_iff.1 d_k).1).trans d_k
  have x_k:=(hw3.block _ (Array.getElem?_eq_some_iff.1 x_k).1).trans x_k
  have x_D:=x_D.keeps hw3
  have hb3:=bel_trans hb3' hw3
  have f_a0:=blkC a_k 0 rfl
  have f_a1:=blkC a_k 1 rfl
  have f_b0:=blkC b_k 0 rfl
  have f_b1:=blkC b_k 1 rfl
  have f_c0:=blkC c_k 0 rfl
  have f_c1:=blkC c_k 1 rfl
  have f_d0:=blkC d_k 0 rfl
  have f_d1:=blkC d_k 1 rfl
  go_wp2_with fail
  clear f_a0 f_a1 f_b0 f_b1 f_c0 f_c1 f_d0 f_d1
  refine (CR.out _).mono ?_
  rintro _ y4 ⟨v,V',rfl,want_D,hw4,hV'⟩
  obtain rfl:=c_uniq hV hV'
  obtain ⟨want_g,want_o,want_n,want_c,want_e,rfl⟩:=want_D.shape
  have hWx:=(Array.getElem?_eq_some_iff.1 x_k).1
  have x_old:=x_A
  have H:=H.keeps hw4
  have x_A:=x_A.keeps hw4
  have a_k:=(hw4.block _ (Array.getElem?_eq_some_iff.1 a_k).1).trans a_k
  have b_k:=(hw4.block _ (Array.getElem?_eq_some_iff.1 b_k).1).trans b_k
  have c_k:=(hw4.block _ (Array.getElem?_eq_some_iff.1 c_k).1).trans c_k
  have d_k:=(hw4.block _ (Array.getElem?_eq_some_iff.1 d_k).1).trans d_k
  have x_k:=(hw4.block _ (Array.getElem?_eq_some_iff.1 x_k).1).trans x_k
  have x_D:=x_D.keeps hw4
  have hb4:=bel_trans hb3 hw4
  have a_k:=heap_past (.cells #[.bool want_g,.slice want_o want_n want_c,.int .i64 want_e] 40) a_k
  have b_k:=heap_past (.cells #[.bool want_g,.slice want_o want_n want_c,.int .i64 want_e] 40) b_k
  have c_k:=heap_past (.cells #[.bool want_g,.slice want_o want_n want_c,.int .i64 want_e] 40) c_k
  have d_k:=heap_past (.cells #[.bool want_g,.slice want_o want_n want_c,.int .i64 want_e] 40) d_k
  have x_k:=heap_past (.cells #[.bool want_g,.slice want_o want_n want_c,.int .i64 want_e] 40) x_k
  have want_k:=heap_a1 y4 (.cells #[.bool want_g,.slice want_o want_n want_c,.int .i64 want_e] 40)
  have x_D:=x_D.keeps (bel_alloc y4 (.cells #[.bool want_g,.slice want_o want_n want_c,.int .i64 want_e] 40))
  have want_D:=want_D.keeps (bel_alloc y4 (.cells #[.bool want_g,.slice want_o want_n want_c,.int .i64 want_e] 40))
  have H:=H.keeps (bel_alloc y4 (.cells #[.bool want_g,.slice want_o want_n want_c,.int .i64 want_e] 40))
  have x_A:=x_A.keeps (bel_alloc y4 (.cells #[.bool want_g,.slice want_o want_n want_c,.int .i64 want_e] 40))
  have hb5':=bel_trans hb4 (bel_alloc y4 (.cells #[.bool want_g,.slice want_o want_n want_c,.int .i64 want_e] 40))
  have f_x0:=blkC x_k 0 rfl
  have f_x1:=blkC x_k 1 rfl
  have f_x2:=blkC x_k 2 rfl
  go_wp2_with fail
  clear f_x0 f_x1 f_x2
  generalize y4.alloc (.cells #[.bool want_g,.slice want_o want_n want_c,.int .i64 want_e] 40)=x5 at a_k b_k c_k d_k x_k want_k x_D want_D H x_A hb5' ⊢
  refine (osame_D x_D want_D.num).mono ?_
  rintro _ y5 ⟨rfl,hw5⟩
  have H:=H.keeps hw5
  have x_A:=x_A.keeps hw5
  have a_k:=(hw5.block _ (Array.getElem?_eq_some_iff.1 a_k).1).trans a_k
  have b_k:=(hw5.block _ (Array.getElem?_eq_some_iff.1 b_k).1).trans b_k
  have c_k:=(hw5.block _ (Array.getElem?_eq_some_iff.1 c_k).1).trans c_k
  have d_k:=(hw5.block _ (Array.getElem?_eq_some_iff.1 d_k).1).trans d_k
  have x_k:=(hw5.block _ (Array.getElem?_eq_some_iff.1 x_k).1).trans x_k
  have x_D:=x_D.keeps hw5
  have want_k:=(hw5.block _ (Array.getElem?_eq_some_iff.1 want_k).1).trans want_k
  have want_D:=want_D.keeps hw5
  have hb5:=bel_trans hb5' hw5
  obtain ⟨mx,_,anx⟩:=x_A.parts
  obtain ⟨mx0,_,anx0⟩:=x_A0.parts
  have f_x1:=blkC x_k 1 rfl
  go_wp2_with fail
  obtain ⟨gx,hgx⟩:∃ gx:Nat,(x_n=0∨∃ cu,x_o=some ⟨gx,0,none⟩∧y1.heap.size<=gx∧gx<y2.heap.size∧y5.heap[gx]?=some (.cells cu 3 (0,0))∧x_n<=cu.size):=by
    rcases an_block anx with h | ⟨g,cu,h1,h2,h3,h4⟩
    . exact ⟨0,.inl h⟩
    . refine ⟨g,.inr ⟨cu,h1,h2,?_,h3,h4⟩⟩
      rw [h1] at anx0
      exact (anx0.ge (g:=g) rfl).2
  have hxm:x_n<=9223372036854775807:=by
    obtain ⟨ao,n,cap,d,e,hR,_⟩:=anx.num
    simp only [Value.slice.injEq] at e
    obtain ⟨rfl,rfl,rfl⟩:=e
    exact Nat.le_trans hR.le hR.max
  have hbw:y4.heap.size >= y3.heap.size:=hw4.size
  have HA:=a_k
  have HB:=b_k
  have HC:=c_k
  have HP:=d_k
  have HX:=x_k
  have HW:=want_k
  have HD:=want_D
  have HBL:=hb5
  clear f_x1 anx anx0 x_A x_A0 x_old x_D H
  go_loopw [15] (fun i wr=>∃ k:Nat,k<=x_n∧i=.int .i64 k∧Hid (wr.heap[w.heap.size]?=some (.cells #[.int .i64 ax,.int .i64 ay] 33 (0,0)))∧Hid (wr.heap[w.heap.size+1]?=some (.cells #[.int .i64 bx,.int .i64 by'] 33 (0,0)))∧Hid (wr.heap[w.heap.size+2]?=some (.cells #[.int .i64 cx,.int .i64 cy] 33 (0,0)))∧Hid (wr.heap[w.heap.size+3]?=some (.cells #[.int .i64 dx,.int .i64 dy] 33 (0,0)))∧Hid (wr.heap[y2.heap.size]?=some (.cells #[.bool x_g,.slice x_o x_n x_c,.int .i64 x_e] 40 (0,0)))∧Hid (wr.heap[y4.heap.size]?=some (.cells #[.bool want_g,.slice want_o want_n want_c,.int .i64 want_e] 40 (0,0)))∧Hid (DAn y3.heap.size wr V (.agg #[.bool want_g,.slice want_o want_n want_c,.int .i64 want_e]))∧Hid (x_n=0∨∃ cu,x_o=some ⟨gx,0,none⟩∧y1.heap.size<=gx∧gx<y2.heap.size∧wr.heap[gx]?=some (.cells cu 3 (0,0))∧x_n<=cu.size)∧Below w.heap.size w wr) (fun i _=>x_n-(intOf i).toNat)
  case atStart=>exact ⟨0,Nat.zero_le _,rfl,HA,HB,HC,HP,HX,HW,HD,hgx,HBL⟩
  case round=>
    clear HA HB HC HP HX HW HD HBL hgx
    obtain ⟨k,hk,rfl,HA,HB,HC,HP,HX,HW,HD,hgx,hbr⟩:=hrel
    have fx1:=blkC HX.out 1 rfl
    by_cases hlt:k<x_n
    . obtain ⟨cu,hxo,g1,g2,hg,hsz⟩:∃ cu,x_o=some ⟨gx,0,none⟩∧y1.heap.size<=gx∧gx<y2.heap.size∧wr.heap[gx]?=some (.cells cu 3 (0,0))∧x_n<=cu.size:=by
        rcases hgx.out with h | h
        . omega
        . exact h
      obtain ⟨v0,hv0⟩:∃ v0,cu[k]?=some v0:=⟨cu[k]'(by omega),by simp⟩
      have c0:=blkC hg k hv0
      have z0:=blkF hg k
      have HXO:Hid (x_o=some ⟨gx,0,none⟩):=hxo
      have i0:(0:Int)<=(k:Int):=by omega
      have i1:(k:Int)<(x_n:Int):=by omega
      have HG:Hid (wr.heap[gx]?=some (.cells cu 3 (0,0))):=hg
      clear hg hv0
      subst hxo
      go_wp2
      have hwr:Wr gx wr (wr.setCell ⟨gx,k,none⟩ (.int .i64 (-1))):=(Wr.refl gx wr).setCell k _
      have kp:∀ {g:Nat} {X:Obj},wr.heap[g]?=some X->g≠gx->(wr.setCell ⟨gx,k,none⟩ (.int .i64 (-1))).heap[g]?=some X:=fun h hne=>(hwr.block _ (Array.getElem?_eq_some_iff.1 h).1 hne).trans h
      go_roundw
      case rel=>exact ⟨k+1,by omega,by go_num,kp HA.out (by omega),kp HB.out (by omega),kp HC.out (by omega),kp HP.out (by omega),kp HX.out (by omega),kp HW.out (by omega),HD.out.wr hwr (by omega),.inr ⟨_,(by first | rfl | trivial),g1,g2,heap_set HG.out k (.int .i64 (-1)),by simpa using hsz⟩,hbr.setCell (p:=⟨gx,k,none⟩) (show w.heap.size<=gx by omega) _⟩
      case measure=>simp [intOf]; omega
    . obtain rfl:k=x_n:=by omega
      have fa0:=blkC HA.out 0 rfl
      have fa1:=blkC HA.out 1 rfl
      have fb0:=blkC HB.out 0 rfl
      have fb1:=blkC HB.out 1 rfl
      have fc0:=blkC HC.out 0 rfl
      have fc1:=blkC HC.out 1 rfl
      have fd0:=blkC HP.out 0 rfl
      have fd1:=blkC HP.out 1 rfl
      go_wp2_with fail
      clear fa0 fa1 fb0 fb1 fc0 fc1 fd0 fd1
      refine (CE.out _ (H00.keeps hbr)).mono ?_
      rintro _ yy ⟨v,V2,rfl,hyD,hV2,bV2⟩
      obtain rfl:=c_uniq hV hV2
      obtain ⟨y_g,y_o,y_n,y_c,y_e,rfl⟩:=dans_shape hyD
      have hwy:=hyD.below
      have hW2:=(hwy.block _ (Array.getElem?_eq_some_iff.1 HW.out).1).trans HW.out
      have hD2:=HD.out.keeps hwy
      have hnD:=hyD.num
      have hW3:=heap_past (.cells #[.bool y_g,.slice y_o y_n y_c,.int .i64 y_e] 40) hW2
      have y_k:=heap_a1 yy (.cells #[.bool y_g,.slice y_o y_n y_c,.int .i64 y_e] 40)
      have hD3:=hD2.keeps (bel_alloc yy (.cells #[.bool y_g,.slice y_o y_n y_c,.int .i64 y_e] 40))
      have hnD3:=hnD.keeps (bel_alloc yy (.cells #[.bool y_g,.slice y_o y_n y_c,.int .i64 y_e] 40))
      have hbE:=bel_trans hbr (bel_trans hwy (bel_alloc yy (.cells #[.bool y_g,.slice y_o y_n y_c,.int .i64 y_e] 40)))
      have f0:=blkC hW3 0 rfl
      have f1:=blkC hW3 1 rfl
      have f2:=blkC hW3 2 rfl
      go_wp2_with fail
      clear f0 f1 f2
      generalize yy.alloc (.cells #[.bool y_g,.slice y_o y_n y_c,.int .i64 y_e] 40)=xz at hW3 y_k hD3 hnD3 hbE ⊢
      refine (osame_D hnD3 hD3.num).mono ?_
      rintro _ yz ⟨rfl,hwz⟩
      have hbF:=bel_trans hbE hwz
      go_wp2_with (go_at_call 13; refine (cnum11 _ _).mono ?_; rintro _ _ ⟨rfl,rfl⟩)
      all_goals go_ret
      all_goals exact ⟨ret_bool (by simp),by first | exact hbF | exact hbF.drew⟩
theorem walk (ax ay bx by' cx cy dx dy:Int) (w:World) (rax:rng ax) (ray:rng ay) (rbx:rng bx) (rby:rng by') (rcx:rng cx) (rcy:rng cy) (rdx:rng dx) (rdy:rng dy) (H:Hold4 w) :
    Calls Tryz.prog 4 #[.agg #[.int .i64 ax,.int .i64 ay],.agg #[.int .i64 bx,.int .i64 by'],.agg #[.int .i64 cx,.int .i64 cy],.agg #[.int .i64 dx,.int .i64 dy]] w fun e w'=>e=.returned (.bool true)∧Below w.heap.size w w':=by
  by_cases h:(ptok ax ay && ptok bx by' && ptok cx cy && ptok dx dy)=true
  . obtain ⟨⟨⟨⟨h1,h2⟩,h3,h4⟩,h5,h6⟩,h7,h8⟩:(((pok ax=true∧pok ay=true)∧pok bx=true∧pok by'=true)∧pok cx=true∧pok cy=true)∧pok dx=true∧pok dy=true:=by simpa [ptok] using h
    exact walk_yes ax ay bx by' cx cy dx dy w rax ray rbx rby rcx rcy rdx rdy h1 h2 h3 h4 h5 h6 h7 h8 H
  . exact walk_no ax ay bx by' cx cy dx dy w rax ray rbx rby rcx rcy rdx rdy (by simpa using h) H
theorem own:ownKnob Tryz.prog.godebug=none:=by kernel_rfl
theorem laidOut:laidOutB Tryz.prog=true:=by kernel_rfl
theorem door_met (os:Os) (args:Array Value):laidMetH Tryz.prog Rows.circleExactRow.laid ((World.doorLaid Tryz.prog 400 os).forCall (fun _ _=>0) ⟨#[],args,[]⟩).memory :=
  laidMetH_of_parts3 (fuel:=8) (laidMet_of_run' 8 (by kernel_rfl) (by kernel_rfl)) (by kernel_rfl) (by kernel_rfl)
set_option maxRecDepth 100000 in
theorem lifted (os:Os) (started:os.Started) (H:Type) (enc:TypeId × Value->H) :
    ReturnsInHanded {} Tryz.checked os 4 .any (fun w args=>(Rows.circleExactSpec.pre enc Tryz.prog Tryz.f4 [] false w args∧laidMetH Tryz.prog Rows.circleExactRow.laid w)∧sizedMet enc Tryz.prog Tryz.f4 (OpenSpec.ofChange Rows.circleExactSpec) false w args)
      (Rows.circleExactSpec.post enc Tryz.prog Tryz.f4 false true false false):=by
  refine returnsInHanded_of_change_and (C:=Tryz.checked) (X:=fun w _=>laidMetH Tryz.prog Rows.circleExactRow.laid w) (fun _ _ _ hh h=>h.of_heap hh) own started (by kernel_rfl) Tryz.func4
    (ChangeSpec.witness_shaped (enc:=enc) (C:=Tryz.checked) (os:=os) (X:=fun w _=>laidMetH Tryz.prog Rows.circleExactRow.laid w) false (World.doorLaid Tryz.prog 400 os) #[.agg #[.int .i64 0,.int .i64 0],.agg #[.int .i64 0,.int .i64 0],.agg #[.int .i64 0,.int .i64 0],.agg #[.int .i64 0,.int .i64 0]] 8 rfl (World.shaped_of_RefB (by kernel_rfl) (by kernel_rfl)) (by kernel_rfl) (by kernel_rfl) (by kernel_rfl) (door_met os _)) ?_
  intro W base args ds gs before hval0 hW _ _ hL _
  have hval:∀ (j:Nat) t v,Tryz.f4.params[j]?=some t->args[j]?=some v->Value.okWide Tryz.prog W .any base t v:=hval0
  have hW':=hW
  obtain ⟨p,q,hA0,hV,rfl,hfz,hnd⟩:=hW
  have hA:DataW.TrodAll enc Tryz.prog W 0 (fun _=>true) true Tryz.f4.params.toList args.toList ds p:=hA0
  rw [Tryz.params4] at hA hval
  obtain ⟨v0,vs0,d0,ds0,p0,q0,hargs,rfl,rfl,h0,r0⟩:=trodAll_cons hA
  obtain ⟨v1,vs1,d1,ds1,p1,q1,rfl,rfl,rfl,h1,r1⟩:=trodAll_cons r0
  obtain ⟨v2,vs2,d2,ds2,p2,q2,rfl,rfl,rfl,h2,r2⟩:=trodAll_cons r1
  obtain ⟨v3,vs3,d3,ds3,p3,q3,rfl,rfl,rfl,h3,r3⟩:=trodAll_cons r2
  obtain ⟨rfl,rfl,rfl⟩:=trodAll_nil r3
  obtain rfl:args=#[v0,v1,v2,v3]:=by cases args; simp_all
  obtain ⟨rfl,rfl⟩:=trodVars_none hV
  have k0:=h0
  have lt0:∀ x ∈ p0,x.block<W.heap.size:=by obtain ⟨m,hm⟩:=k0; exact DataW.trod_lt m _ _ _ hm
  obtain ⟨x0,y0,rfl,w0,g0⟩:=point_of (hval 0 33 v0 rfl rfl) h0
  have k1:=h1
  have lt1:∀ x ∈ p1,x.block<W.heap.size:=by obtain ⟨m,hm⟩:=k1; exact DataW.trod_lt m _ _ _ hm
  obtain ⟨x1,y1,rfl,w1,g1⟩:=point_of (hval 1 33 v1 rfl rfl) h1
  have k2:=h2
  have lt2:∀ x ∈ p2,x.block<W.heap.size:=by obtain ⟨m,hm⟩:=k2; exact DataW.trod_lt m _ _ _ hm
  obtain ⟨x2,y2,rfl,w2,g2⟩:=point_of (hval 2 33 v2 rfl rfl) h2
  have k3:=h3
  have lt3:∀ x ∈ p3,x.block<W.heap.size:=by obtain ⟨m,hm⟩:=k3; exact DataW.trod_lt m _ _ _ hm
  obtain ⟨x3,y3,rfl,w3,g3⟩:=point_of (hval 3 33 v3 rfl rfl) h3
  clear hA0 hval0
  refine (walk x0 y0 x1 y1 x2 y2 x3 y3 W w0 g0 w1 g1 w2 g2 w3 g3 (hold6_of hL)).mono fun e W' ⟨he,bel⟩=>?_
  subst he
  exact ⟨_,rfl,_,_,_,[],_,[],hW',trodAll_mk1 (shut_bool Tryz.underlying4 _),(trodAll_cons_mk (Below.trod laidOut (by kernel_rfl) (of_decide_eq_true (by kernel_rfl)) k0 bel lt0) (trodAll_cons_mk (Below.trod laidOut (by kernel_rfl) (of_decide_eq_true (by kernel_rfl)) k1 bel lt1) (trodAll_cons_mk (Below.trod laidOut (by kernel_rfl) (of_decide_eq_true (by kernel_rfl)) k2 bel lt2) (trodAll_cons_mk (Below.trod laidOut (by kernel_rfl) (of_decide_eq_true (by kernel_rfl)) k3 bel lt3) trodAll_mk0)))),rfl,bel.frame _,fun h=>by cases h⟩
theorem said:Rows.CircleExactSaid :=
  OpenClaim.holds_of_wide 4 Tryz.f4 rfl rfl rfl rfl rfl rfl rfl ⟨rfl,rfl,rfl,rfl,rfl⟩ rfl rfl rfl rfl rfl (by kernel_rfl) Tryz.func4 (by kernel_rfl)
    (of_decide_eq_true (by kernel_rfl)) (by unfold Func.isWrapper; first | (rw [if_pos (by decide +kernel)]; kernel_rfl) | (rw [if_neg (by decide +kernel)]; exact ⟨rfl,rfl⟩))
    (fun os started H enc _=>lifted os started H enc)
theorem plain (f:FuncId) (fn:Func) (hf:Tryz.pinned.checked.prog.funcNamed Tryz.f4.name=some f) (hfn:Tryz.pinned.checked.prog.funcs[f]?=some fn) :
    true=Tryz.pinned.checked.prog.looks []∧∀ (j:Nat) t,fn.params[j]?=some t->Tryz.pinned.checked.prog.wantsStandIn t=false:=by
  obtain rfl:f=4:=Option.some.inj ((show Tryz.prog.funcNamed Tryz.f4.name=some 4 by kernel_rfl).symm.trans hf) |>.symm
  obtain rfl:fn=Tryz.f4:=(Option.some.inj (Tryz.func4.symm.trans hfn)).symm
  refine ⟨by kernel_rfl,fun j t ht=>?_⟩
  rw [Tryz.params4] at ht
  obtain rfl:t=33:=by simpa using Array.mem_of_getElem? ht
  exact (show Tryz.prog.wantsStandIn 33=false by kernel_rfl)
theorem card:Rows.CircleExactCardSaid :=
  Claim7.holds_tied_plain_at .later [] _ _ _ _ said (fun _ h=>by cases h) (by kernel_rfl) (fun _ h=>by cases h) circleExact_row_tie rfl ⟨rfl,rfl⟩ (by kernel_rfl) rfl plain (by kernel_rfl)
end Go.Proofs.YtjjihmnbdeeedaaGreatDoor.circleExact
namespace Go.Proofs.YtjjihmnbdeeedaaGreatDoor
theorem circleExact_holds:Rows.CircleExactCardSaid:=circleExact.card
end Go.Proofs.YtjjihmnbdeeedaaGreatDoor
