/- Parts of the proof. -/
import Derived.Test.YtkkpppgfoilgmaaGreatDoorPart4
import Derived.Test.YtkkpppgfoilgmaaGreatDoorPart2
import Derived.Deep.RegionWith
import Derived.WalkLawsBesides
import Derived.Test.YtkkpppgfoilgmaaGreatDoorPart3
import Derived.Deep.RegionHeld3
import Derived.Test.YtkkpppgfoilgmaaGreatDoorPart1
set_option maxRecDepth 100000
set_option maxHeartbeats 8000000
set_option linter.unusedVariables false
set_option linter.unusedSimpArgs false
namespace Go.Proofs.YtkkpppgfoilgmaaGreatDoor
open Go Go.Proofs.Tryz Go.RowKit Go.Proofs.YtkkpppgfoilgmaaGreatDoor.M
theorem mc {V l:Int} (h:jT V l) (h0:0<V):∃ k:Nat,l=k∧cm V k:=by
 rcases h with⟨h1,_⟩|h
 ·omega
 ·exact h
theorem pF {d:Nat->Int} {n k:Nat} (hd:aO d n) (h0:0<val d n) (h:cm (val d n) k):k<30*n:=by
 have h1:=bz hd
 rw[cr] at h1
 obtain⟨a,b,c⟩:=dW h h0
 have h2:(1:Int)*2^k<=val d n/2^k*2^k:=Int.mul_le_mul_of_nonneg_right (by omega) (Int.le_of_lt (aF k))
 exact dt (by omega)
theorem lC {w W w3:World} {V:Int} {v:Value} (hv:bO W w3 V v) (hb:Below w.heap.size w W) {g:Nat} (h0:w.heap.size<=g) (h1:g<W.heap.size) (a b c:Value) :
  bO w (((w3.setCell ⟨g,0,none⟩ a).setCell ⟨g,1,none⟩ b).setCell ⟨g,2,none⟩ c) V v:=by
 obtain⟨t,d,hO,hN,hV,hB⟩:=hv
 refine⟨t,d,?_,hN,hV,?_⟩
 ·exact(((hO.set_below (a:=⟨g,0,none⟩) h1 a).set_below (a:=⟨g,1,none⟩) h1 b).set_below (a:=⟨g,2,none⟩) h1 c).lower hb.size
 ·exact(((hb.trans (hB.mono hb.size)).setCell (p:=⟨g,0,none⟩) h0 a).setCell (p:=⟨g,1,none⟩) h0 b).setCell (p:=⟨g,2,none⟩) h0 c
theorem qS (ng:Bool) (ao:Option Addr) (n cap:Nat) (d:Nat->Int) (e:Int) (w:World) (h:aG w ao n cap d) (hd:aO d n) (h0:val d n=0) :
  Calls prog 152 #[.agg #[.bool ng,.slice ao n cap,.int .i64 e]] w fun r w'=>r=.returned de∧Below w.heap.size w w':=by
 have hR:=h.keeps (ax w (.cells #[.bool ng,.slice ao n cap,.int .i64 e] 26) (.cells #[.bool false,.slice none 0 0,.int .i64 0] 26))
 go_enter func152,ntmps152
 go_wp2_with fail
 refine(gD _ _ _ _ _ hR).mono ?_
 rintro r w1 ⟨t,ht,htop,hz,rfl,rfl⟩
 obtain⟨hN,hv⟩:=ed hd ht htop hz
 have ht0:t=0:=(jI hN).1 (by rw[hv];exact h0)
 subst ht0
 rw[show jh ao 0 cap=.slice none 0 0 from rfl]
 go_wp2
 refine bodyPost_ret (v:=de) (by simp[results,results152,go_sem,de]) rfl ⟨rfl,?_⟩
 exact ax _ _ _
theorem tb (ng:Bool) (ao:Option Addr) (n cap:Nat) (d:Nat->Int) (e:Int) (w:World) (h:aG w ao n cap d) (hd:aO d n) (hn:n<=100000) (hT:eF w) (h0:0<val d n) (l:Nat) (hl:cm (val d n) l)
    (he0:-1048576<=e+l) (he1:e+l<=1048576) (hs:val d n/2^l<P 2000) :
    Calls prog 152 #[.agg #[.bool ng,.slice ao n cap,.int .i64 e]] w fun r w'=>∃ s,r=.returned (.agg #[.bool ng,s,.int .i64 (e+l)])∧bO w w' (val d n/2^l) s:=by
  have hR:=h.keeps (ax w (.cells #[.bool ng,.slice ao n cap,.int .i64 e] 26) (.cells #[.bool false,.slice none 0 0,.int .i64 0] 26))
  have hln:=pF hd h0 hl
  have hb1:=ax w (.cells #[.bool ng,.slice ao n cap,.int .i64 e] 26) (.cells #[.bool false,.slice none 0 0,.int .i64 0] 26)
  go_enter func152,ntmps152
  go_wp2_with fail
  refine(gD _ _ _ _ _ hR).mono ?_
  rintro r w1 ⟨t,ht,htop,hz,rfl,rfl⟩
  obtain⟨hN,hv⟩:=ed hd ht htop hz
  have ht0:t≠0:=by rintro rfl;have:=(jI hN).2 rfl;omega
  rw[show jh ao t cap=.slice ao t cap by unfold jh;rw[if_neg ht0]]
  have hn0:((t:Int) == 0)=false:=by simp;omega
  obtain⟨bb,fb,rfl,hbb,hcb⟩:=h.spot (by omega)
  have hRt:aG ((w.alloc (.cells #[.bool ng,.slice (some ⟨bb,fb,none⟩) n cap,.int .i64 e] 26)).alloc (.cells #[.bool false,.slice none 0 0,.int .i64 0] 26)) (some ⟨bb,fb,none⟩) t cap d:=⟨by have:=h.le; omega,h.max,fun hx=>by simp at hx,fun _=>by
    obtain⟨b',f',e',q1,q2⟩:=hR.spot (by omega)
    exact ⟨b',f',e',q1,fun i hi=>q2 i (by omega)⟩⟩
  have hbl:aC (val d n)<=60000+l:=by
    refine cw ?_
    obtain⟨_,_,c⟩:=dW hl h0
    have:(val d n/2^l)*2^l<P 2000*2^l:=Int.mul_lt_mul_of_pos_right hs (aF l)
    rw[c,cr,<- Int.pow_add] at this
    exact this
  have HS:Hid (val d n/2^l<P 2000):=hs
  clear hs
  go_wp2_with fail
  refine(jU _ _ _ _ _ hRt hN.1 (by omega) (hT.keeps hb1)).mono ?_
  rintro r w1 ⟨lo,rfl,hlo,rfl⟩
  rw[hv] at hlo
  obtain⟨k,rfl,hk⟩:=mc hlo h0
  obtain rfl:=jS hk hl
  have HL:Hid (cm (val d n) k):=hl
  clear hlo hk hl
  have HV:Hid (val d t=val d n):=hv
  go_wp2_with fail
  refine(ik _ _ _ _ _ hRt hN (by omega)).mono ?_
  rw[hv]
  rintro r w1 ⟨rfl,rfl⟩
  go_wp2_with fail
  have hwr:IntKind.i64.wrap (e+(k:Int))=e+k:=by rw[aR];omega
  have hb2:Below w.heap.size w ((w.alloc (.cells #[.bool ng,.slice (some ⟨bb,fb,none⟩) n cap,.int .i64 e] 26)).alloc (.cells #[.bool false,.slice none 0 0,.int .i64 0] 26)).drew:=hb1.drew
  have q0:((w.alloc (.cells #[.bool ng,.slice (some ⟨bb,fb,none⟩) n cap,.int .i64 e] 26)).alloc (.cells #[.bool false,.slice none 0 0,.int .i64 0] 26)).drew.heap[w.heap.size]?=some (.cells #[.bool ng,.slice (some ⟨bb,fb,none⟩) n cap,.int .i64 e] 26):=bv _ _ _
  have q1:((w.alloc (.cells #[.bool ng,.slice (some ⟨bb,fb,none⟩) n cap,.int .i64 e] 26)).alloc (.cells #[.bool false,.slice none 0 0,.int .i64 0] 26)).drew.heap[w.heap.size+1]?=some (.cells #[.bool false,.slice none 0 0,.int .i64 0] 26):=bh _ _ _
  have qs:((w.alloc (.cells #[.bool ng,.slice (some ⟨bb,fb,none⟩) n cap,.int .i64 e] 26)).alloc (.cells #[.bool false,.slice none 0 0,.int .i64 0] 26)).drew.heap.size=w.heap.size+2:=gR _ _ _
  go_region_with (go_at_call 134;refine(nX _ _ _ k d _ hRt.drew hN.1 (by omega) (by omega)).mono ?_;rintro r w3 ⟨v,rfl,hv⟩;obtain⟨vo,vn,vc,rfl⟩:=hv.num.shape;have g0:=(hv.below.block w.heap.size (by omega)).trans q0;have g1:=(hv.below.block (w.heap.size+1) (by omega)).trans q1;have k0:=ab g0 0 rfl;have k2:=ab g0 2 rfl;have k3:=ab g1 0 rfl;have k4:=ab g1 1 rfl;have k5:=ab g1 2 rfl;have f0:=ak g1 0;have f1:=ak g1 1;have f2:=ak g1 2;have hvv:=hv.from hb2)
  all_goals go_wp2
  all_goals refine bodyPost_ret (v:=.agg #[.bool ng,.slice vo vn vc,.int .i64 (e+k)]) (by simp[results,results152,go_sem,k3,k4,k5,hwr]) rfl ⟨_,rfl,?_⟩
  all_goals (rw[<- HV.out];exact lC (g:=w.heap.size+1) hv hb2 (Nat.le_succ _) (by omega) _ _ _)
theorem uh (ng:Bool) (ao:Option Addr) (n cap:Nat) (d:Nat->Int) (e:Int) (w:World) (h:aG w ao n cap d) (hd:aO d n) (hn:n<=100000) (hT:eF w) (h0:0<val d n) (l:Nat) (hl:cm (val d n) l)
    (hbad:e+l < -1048576∨1048576<e+l∨P 2000<=val d n/2^l) :
    Calls prog 152 #[.agg #[.bool ng,.slice ao n cap,.int .i64 e]] w fun r w'=>r=.panicked [{ v:=.iface 34 (.int .i64 2),recovered:=false }]∧Below w.heap.size w w':=by
  have hR:=h.keeps (ax w (.cells #[.bool ng,.slice ao n cap,.int .i64 e] 26) (.cells #[.bool false,.slice none 0 0,.int .i64 0] 26))
  have hln:=pF hd h0 hl
  have hb1:=ax w (.cells #[.bool ng,.slice ao n cap,.int .i64 e] 26) (.cells #[.bool false,.slice none 0 0,.int .i64 0] 26)
  have HB:Hid (e+l < -1048576∨1048576<e+l∨P 2000<=val d n/2^l):=hbad
  clear hbad
  go_enter func152,ntmps152
  go_wp2_with fail
  refine(gD _ _ _ _ _ hR).mono ?_
  rintro r w1 ⟨t,ht,htop,hz,rfl,rfl⟩
  obtain⟨hN,hv⟩:=ed hd ht htop hz
  have ht0:t≠0:=by rintro rfl;have:=(jI hN).2 rfl;omega
  rw[show jh ao t cap=.slice ao t cap by unfold jh;rw[if_neg ht0]]
  have hn0:((t:Int) == 0)=false:=by simp;omega
  obtain⟨bb,fb,rfl,hbb,hcb⟩:=h.spot (by omega)
  have hRt:aG ((w.alloc (.cells #[.bool ng,.slice (some ⟨bb,fb,none⟩) n cap,.int .i64 e] 26)).alloc (.cells #[.bool false,.slice none 0 0,.int .i64 0] 26)) (some ⟨bb,fb,none⟩) t cap d:=⟨by have:=h.le; omega,h.max,fun hx=>by simp at hx,fun _=>by
    obtain⟨b',f',e',q1,q2⟩:=hR.spot (by omega)
    exact ⟨b',f',e',q1,fun i hi=>q2 i (by omega)⟩⟩
  go_wp2_with fail
  refine(jU _ _ _ _ _ hRt hN.1 (by omega) (hT.keeps hb1)).mono ?_
  rintro r w1 ⟨lo,rfl,hlo,rfl⟩
  rw[hv] at hlo
  obtain⟨k,rfl,hk⟩:=mc hlo h0
  obtain rfl:=jS hk hl
  have HL:Hid (cm (val d n) k):=hl
  clear hlo hk hl
  by_cases c0:e < -1048576-k
  · go_wp2
    exact⟨rfl,rfl,hb1⟩
  · by_cases c1:1048576-k<e
    · go_wp2
      exact⟨rfl,rfl,hb1⟩
    · have hbl:60000<(aC (val d n):Int)-k:=by
        obtain⟨_,_,c⟩:=dW HL.out h0
        have h2:P 2000<=val d n/2^k:=by rcases HB.out with x|x|x<;>first|omega|exact x
        have:P 2000*2^k<=(val d n/2^k)*2^k:=Int.mul_le_mul_of_nonneg_right h2 (Int.le_of_lt (aF k))
        rw[c,cr,<- Int.pow_add] at this
        have:=m9 this
        omega
      go_wp2_with fail
      refine(ik _ _ _ _ _ hRt hN (by omega)).mono ?_
      rw[hv]
      rintro r w1 ⟨rfl,rfl⟩
      have hb30:aC (val d n)<=30*n:=cw (by rw[<- cr];exact bz hd)
      go_wp2
      exact⟨rfl,rfl,hb1⟩
theorem Af:∀ (n:Nat) (M:Int),M.natAbs<=n->0<M->∃ l,cm M l:=by
 intro n
 induction n with
 | zero=>intro M h h0;omega
 | succ n ih=>
  intro M h h0
  by_cases hp:M % 2=1
  ·exact⟨0,M/2,by rw[Int.pow_zero];omega⟩
  ·obtain⟨l,m,hm⟩:=ih (M/2) (by omega) (by omega)
   refine⟨l+1,m,?_⟩
   rw[Int.pow_succ,<- Int.mul_assoc,<- hm];omega
theorem gF {M:Int} (h:0<M):∃ l,cm M l:=Af M.natAbs M (Nat.le_refl _) h
def pG:Ending:=.panicked [{ v:=.iface 34 (.int .i64 2),recovered:=false }]
theorem ui {ng:Bool} {ao:Option Addr} {n cap:Nat} {d:Nat->Int} {e:Int} {w:World} (h:aG w ao n cap d) (hd:aO d n) (hn:n<=100000) (hT:eF w) (he:-4194304<=e) {V:Int} (hV:V=sg ng (val d n)*pw e) (hok:b7 V) :
  Calls prog 152 #[.agg #[.bool ng,.slice ao n cap,.int .i64 e]] w fun r w'=>∃ v,r=.returned v∧aZ w w' V v:=by
 by_cases h0:val d n=0
 ·refine(qS ng ao n cap d e w h hd h0).mono ?_
  rintro r w' ⟨rfl,hb⟩
  exact⟨_,rfl,by rw[hV,h0,dN,Int.zero_mul];exact aZ.zero hb⟩
 ·have hp:0<val d n:=by have:=aJ hd;omega
  obtain⟨l,hl⟩:=gF hp
  have hy:=Dy.of ng hl hp he
  rw[<- hV] at hy
  obtain⟨o1,o2,o3⟩:=hy.ok.1 hok
  refine(tb ng ao n cap d e w h hd hn hT hp l hl o2 o3 o1).mono ?_
  rintro r w' ⟨s,rfl,hA⟩
  exact⟨_,rfl,_,_,_,_,rfl,hy,hA⟩
theorem qT {ng:Bool} {ao:Option Addr} {n cap:Nat} {d:Nat->Int} {e:Int} {w:World} (h:aG w ao n cap d) (hd:aO d n) (hn:n<=100000) (hT:eF w) (he:-4194304<=e) {V:Int} (hV:V=sg ng (val d n)*pw e) (hok:¬ b7 V) :
    Calls prog 152 #[.agg #[.bool ng,.slice ao n cap,.int .i64 e]] w fun r w'=>r=pG∧Below w.heap.size w w':=by
  by_cases h0:val d n=0
  · exact absurd (by rw[hV,h0,dN,Int.zero_mul];exact l5) hok
  · have hp:0<val d n:=by have:=aJ hd;omega
    obtain⟨l,hl⟩:=gF hp
    have hy:=Dy.of ng hl hp he
    rw[<- hV] at hy
    have hno:=fun x=>hok (hy.ok.2 x)
    refine uh ng ao n cap d e w h hd hn hT hp l hl ?_
    by_cases c1:e+l < -1048576
    · exact .inl c1
    · by_cases c2:1048576<e+l
      · exact .inr (.inl c2)
      · exact .inr (.inr (by
          by_cases c3:P 2000<=val d n/2^l
          · exact c3
          · exact absurd ⟨by omega,by omega,by omega⟩ hno))
theorem gg.shape {w w':World} {V er:Int} {v:Value} (h:gg w w' V v er):∃ ng so sn sc e,v=.agg #[.bool ng,.slice so sn sc,.int .i64 e]:=by
 rcases h.2 with⟨_,_,ng,s,m,e,h1,_,hA⟩|⟨_,_,h1⟩
 ·obtain⟨so,sn,sc,rfl⟩:=hA.num.shape
  exact⟨_,_,_,_,_,h1⟩
 ·exact⟨_,_,_,_,_,h1⟩
theorem b8 {w W w3:World} {V:Int} {v:Value} (hv:aZ W w3 V v) (hb:Below w.heap.size w W) {g:Nat} (h0:w.heap.size<=g) (h1:g<W.heap.size) (a b c:Value) :
  aZ w (((w3.setCell ⟨g,0,none⟩ a).setCell ⟨g,1,none⟩ b).setCell ⟨g,2,none⟩ c) V v:=by
 obtain⟨ng,s,m,e,h2,h3,hA⟩:=hv
 exact⟨ng,s,m,e,h2,h3,lC hA hb h0 h1 a b c⟩
theorem v7 {w W w3:World} {V er:Int} {v:Value} (hv:gg W w3 V v er) (hb:Below w.heap.size w W) {g:Nat} (h0:w.heap.size<=g) (h1:g<W.heap.size) (a b c:Value) :
  gg w (((w3.setCell ⟨g,0,none⟩ a).setCell ⟨g,1,none⟩ b).setCell ⟨g,2,none⟩ c) V v er:=by
 refine⟨(((hb.trans (hv.1.mono hb.size)).setCell (p:=⟨g,0,none⟩) h0 a).setCell (p:=⟨g,1,none⟩) h0 b).setCell (p:=⟨g,2,none⟩) h0 c,?_⟩
 rcases hv.2 with⟨o1,o2,o3⟩|o
 ·exact .inl ⟨o1,o2,b8 o3 hb h0 h1 a b c⟩
 ·exact .inr o
theorem v8 {F:Nat} {cap:Array Value} {w:World} {V:Int} (hE:∀ w,(callFunc F cap).run prog w=.ok (.enter F cap) w)
  (hy:b7 V->∀ W,Below w.heap.size w W->Calls prog F cap W fun r W'=>∃ v,r=.returned v∧aZ W W' V v)
  (hn:¬ b7 V->∀ W,Below w.heap.size w W->Calls prog F cap W fun r W'=>r=pG∧Below W.heap.size W W') :
  Calls prog 150 #[.func (.func F) #[] cap] w fun r w'=>∃ v er,r=.returned (.tuple #[v,.int .i64 er])∧gg w w' V v er:=by
 by_cases h:b7 V
 ·refine(vT F cap w V hE (hy h)).mono ?_
  rintro r w' ⟨v,rfl,hD⟩
  exact⟨v,0,rfl,hD.below,.inl ⟨h,rfl,hD⟩⟩
 ·refine(yc F cap w hE (hn h)).mono ?_
  rintro r w' ⟨rfl,hb⟩
  exact⟨_,2,rfl,hb,.inr ⟨h,rfl,rfl⟩⟩
theorem a9 (w:World) (a:Obj):(w.alloc a).heap[w.heap.size]?=some a:=by
 show(w.heap.push a)[w.heap.size]?=some a
 simp
theorem fG (w:World) (a:Obj):(w.alloc a).heap.size=w.heap.size+1:=by
 show(w.heap.push a).size=_
 simp
theorem az {w w':World} {p:Addr} {v:Value} (h:w.cell? p=some v) (hb:Below w.heap.size w w'):w'.cell? p=some v :=
 (hb.cell (World.block_lt_of_cell? w _ h)).trans h
theorem ar (w:World) (a:Obj):(w.alloc a).heap.size=w.heap.size+1:=fG w a
theorem am {w:World} {k:Nat} {x:Obj} (o:Obj) (h:w.heap[k]?=some x):(w.alloc o).heap[k]?=some x :=
 (Below.heap_alloc w o k (aGe h).1).trans h
theorem av {w:World} {k:Nat} (o:Obj) (h:k=w.heap.size):(w.alloc o).heap[k]?=some o:=by rw[h];exact a9 w o
theorem Ag (w:World) (a b c d:Obj):((((w.alloc a).alloc b).alloc c).alloc d).heap[w.heap.size]?=some a:=am _ (am _ (am _ (a9 w a)))
theorem Ah (w:World) (a b c d:Obj):((((w.alloc a).alloc b).alloc c).alloc d).heap[w.heap.size+1]?=some b:=am _ (am _ (av _ (by rw[ar])))
theorem Ai (w:World) (a b c d:Obj):((((w.alloc a).alloc b).alloc c).alloc d).heap[w.heap.size+2]?=some c:=am _ (av _ (by rw[ar,ar]))
theorem Aj (w:World) (a b c d:Obj):((((w.alloc a).alloc b).alloc c).alloc d).heap[w.heap.size+3]?=some d:=av _ (by rw[ar,ar,ar])
theorem nj (w:World) (a b c:Obj):(((w.alloc a).alloc b).alloc c).heap[w.heap.size]?=some a:=am _ (am _ (a9 w a))
theorem nk (w:World) (a b c:Obj):(((w.alloc a).alloc b).alloc c).heap[w.heap.size+1]?=some b:=am _ (av _ (by rw[ar]))
theorem ns (w:World) (a b c:Obj):(((w.alloc a).alloc b).alloc c).heap[w.heap.size+2]?=some c:=av _ (by rw[ar,ar])
theorem dP (w:World) (a b c:Obj):Below w.heap.size w (((w.alloc a).alloc b).alloc c):=(ax w a b).alloc (by rw[gR];omega) _
theorem oQ (w:World) (a b c:Obj):(((w.alloc a).alloc b).alloc c).heap.size=w.heap.size+3:=by rw[ar,gR]
theorem pH (w:World) (a b c d:Obj):Below w.heap.size w ((((w.alloc a).alloc b).alloc c).alloc d):=(dP w a b c).alloc (by rw[oQ];omega) _
theorem oR (w:World) (a b c d:Obj):((((w.alloc a).alloc b).alloc c).alloc d).heap.size=w.heap.size+4:=by rw[ar,oQ]
theorem lD {W w':World} {g:Nat} {a b c:Value} (h:W.cell? ⟨g,0,none⟩=some a∧W.cell? ⟨g,1,none⟩=some b∧W.cell? ⟨g,2,none⟩=some c) (hb:Below W.heap.size W w') :
  w'.cell? ⟨g,0,none⟩=some a∧w'.cell? ⟨g,1,none⟩=some b∧w'.cell? ⟨g,2,none⟩=some c:=⟨az h.1 hb,az h.2.1 hb,az h.2.2 hb⟩
theorem BI {W w':World} {g o:Nat} {a b c:Value} (h:W.cell? ⟨g,0,none⟩=some a∧W.cell? ⟨g,1,none⟩=some b∧W.cell? ⟨g,2,none⟩=some c) (hw:Wr o W w') (hg:g≠o) :
  w'.cell? ⟨g,0,none⟩=some a∧w'.cell? ⟨g,1,none⟩=some b∧w'.cell? ⟨g,2,none⟩=some c :=
 ⟨(hw.cell (World.block_lt_of_cell? W _ h.1) hg).trans h.1,(hw.cell (World.block_lt_of_cell? W _ h.2.1) hg).trans h.2.1,(hw.cell (World.block_lt_of_cell? W _ h.2.2) hg).trans h.2.2⟩
theorem cJ {W:World} {g o:Nat} {a b c:Value} (h:W.cell? ⟨g,0,none⟩=some a∧W.cell? ⟨g,1,none⟩=some b∧W.cell? ⟨g,2,none⟩=some c) (hg:g≠o) (x y z:Value) :
  (((W.setCell ⟨o,0,none⟩ x).setCell ⟨o,1,none⟩ y).setCell ⟨o,2,none⟩ z).cell? ⟨g,0,none⟩=some a∧(((W.setCell ⟨o,0,none⟩ x).setCell ⟨o,1,none⟩ y).setCell ⟨o,2,none⟩ z).cell? ⟨g,1,none⟩=some b∧(((W.setCell ⟨o,0,none⟩ x).setCell ⟨o,1,none⟩ y).setCell ⟨o,2,none⟩ z).cell? ⟨g,2,none⟩=some c :=
 BI h (((Wr.refl o W).setCell 0 x |>.setCell 1 y).setCell 2 z) hg
def il (r:aE):Prop:=bt r.d r.n∧r.n<=5000∧-1100000<=r.e∧r.e<=1100000
structure rM (r:Nat->aE) (k:Nat) (low high:Int):Prop where
 none:(∀ i,i<k->(r i).n=0)->low=9223372036854775807∧high=-9223372036854775808
 some:(∃ i,i<k∧0<(r i).n)->-1100000<=low∧low<=1100000∧-1100000<=high∧high<=1250000
 all:∀ i,i<k->0<(r i).n->low<=(r i).e∧(r i).e+aC (val (r i).d (r i).n)<=high
theorem il.len {x:aE} (h:il x):aC (val x.d x.n)<=150000:=by
 have:=cw (V:=val x.d x.n) (k:=30*x.n) (by rw[<- cr];exact bz h.1.1)
 have:=h.2.1
 omega
theorem rM.zero {r:Nat->aE} {k:Nat} {low high:Int} (h:rM r k low high) (h0:(r k).n=0):rM r (k+1) low high :=
  ⟨fun hx=>h.none fun i hi=>hx i (by omega),fun ⟨i,hi,hp⟩=>h.some ⟨i,by
    by_cases e:i=k
    · subst e;omega
    · omega,hp⟩,fun i hi hp=>by
    by_cases e:i=k
    · subst e;omega
    · exact h.all i (by omega) hp⟩
theorem rM.step {r:Nat->aE} {k:Nat} {low high:Int} (h:rM r k low high) (h0:0<(r k).n) (hs:il (r k)):rM r (k+1) (min low (r k).e) (max high ((r k).e+aC (val (r k).d (r k).n))):=by
 obtain⟨s1,s2,s3,s4⟩:=id hs
 have s5:=hs.len
 refine⟨fun hx=>by have:=hx k (by omega);omega,fun _=>?_,fun i hi hp=>?_⟩
 ·by_cases hx:∀ i,i<k->(r i).n=0
  ·obtain⟨a,b⟩:=h.none hx
   subst a b
   omega
  ·have:∃ i,i<k∧0<(r i).n:=by
    simp only[Classical.not_forall] at hx
    obtain⟨i,hi,hp⟩:=hx
    exact⟨i,hi,by omega⟩
   have:=h.some this
   omega
 ·by_cases e:i=k
  ·subst e;omega
  ·have:=h.all i (by omega) hp;omega
def md (r:Nat->aE):Nat->Int|0=>0|k+1=>md r k+sg (r k).ng (val (r k).d (r k).n)*pw (r k).e
def v9 (w:World) (V:Int) (x:Ending) (w':World):Prop:=(b7 V∧∃ v,x=.returned v∧aZ w w' V v)∨(¬ b7 V∧x=pG∧Below w.heap.size w w')
theorem mE {ng:Bool} {ao:Option Addr} {n cap:Nat} {d:Nat->Int} {e:Int} {w:World} (h:aG w ao n cap d) (hd:aO d n) (hn:n<=100000) (hT:eF w) (he:-4194304<=e) {V:Int} (hV:V=sg ng (val d n)*pw e) :
  Calls prog 152 #[.agg #[.bool ng,.slice ao n cap,.int .i64 e]] w (v9 w V):=by
 by_cases hok:b7 V
 ·refine(ui h hd hn hT he hV hok).mono ?_
  rintro x w' ⟨v,rfl,hD⟩
  exact .inl ⟨hok,v,rfl,hD⟩
 ·refine(qT h hd hn hT he hV hok).mono ?_
  rintro x w' ⟨rfl,hb⟩
  exact .inr ⟨hok,rfl,hb⟩
theorem wa {F:Nat} {cap:Array Value} {w:World} {V:Int} (hE:∀ w,(callFunc F cap).run prog w=.ok (.enter F cap) w) (h:∀ W,Below w.heap.size w W->Calls prog F cap W (v9 W V)) :
  Calls prog 150 #[.func (.func F) #[] cap] w fun r w'=>∃ v er,r=.returned (.tuple #[v,.int .i64 er])∧gg w w' V v er:=by
 refine v8 hE (fun hok W hW=>(h W hW).mono ?_) (fun hok W hW=>(h W hW).mono ?_)
 ·rintro x w' (⟨_,v,rfl,hD⟩|⟨hn,_⟩)
  ·exact⟨v,rfl,hD⟩
  ·exact absurd hok hn
 ·rintro x w' (⟨hy,_⟩|⟨_,rfl,hb⟩)
  ·exact absurd hy hok
  ·exact⟨rfl,hb⟩
theorem uj {r:Nat->aE} {k:Nat} {low high:Int} (hs:il (r k)) (ha:low<=(r k).e∧(r k).e+aC (val (r k).d (r k).n)<=high) :
  val (r k).d (r k).n*2^((r k).e-low).toNat<2^(high-low).toNat∧0<=val (r k).d (r k).n*2^((r k).e-low).toNat:=by
 have hv:=aJ hs.1.1
 obtain⟨a,b⟩:=ha
 have h1:=gE (val (r k).d (r k).n)
 have h2:val (r k).d (r k).n*2^((r k).e-low).toNat<2^aC (val (r k).d (r k).n)*2^((r k).e-low).toNat:=Int.mul_lt_mul_of_pos_right h1 (aF _)
 rw[<- Int.pow_add] at h2
 have h3:(2:Int)^(aC (val (r k).d (r k).n)+((r k).e-low).toNat)<=2^(high-low).toNat:=cc (by omega)
 exact⟨by omega,Int.mul_nonneg hv (Int.le_of_lt (aF _))⟩
structure kT (r:Nat->aE) (low high:Int) (N k:Nat) (c:Nat->Int):Prop where
 sum:val c N*pw low=md r k
 bnd:∀ i,i<N->-((k:Int)*1073741823)<=c i∧c i<=k*1073741823
 lo:-((k:Int)*2^(high-low).toNat)<=val c N
 hi:val c N<=k*2^(high-low).toNat
theorem kT.start (r:Nat->aE) (low high:Int) (N:Nat):kT r low high N 0 (fun _=>0):=by
 have e:val (fun _=>0) N=0:=cB (Nat.zero_le _) (fun _ _ _=>rfl)
 exact⟨by rw[e,Int.zero_mul];rfl,fun i _=>⟨by omega,by omega⟩,by rw[e];simp,by rw[e];simp⟩
theorem kT.skip {r:Nat->aE} {low high:Int} {N k:Nat} {c:Nat->Int} (h:kT r low high N k c) (h0:(r k).n=0):kT r low high N (k+1) c:=by
 have e:md r (k+1)=md r k:=by
  show md r k+_=_
  rw[h0]
  show md r k+sg _ 0*_=_
  rw[dN,Int.zero_mul,Int.add_zero]
 have hp:=aF (high-low).toNat
 have e2:((k+1:Nat):Int)*2^(high-low).toNat=k*2^(high-low).toNat+2^(high-low).toNat:=by rw[Int.natCast_add,Int.add_mul];simp
 refine⟨by rw[e];exact h.sum,fun i hi=>?_,?_,?_⟩
 ·have:=h.bnd i hi;omega
 ·have:=h.lo;omega
 ·have:=h.hi;omega
theorem Ak (ng:Bool) {n:Nat} (h:0<n) (x:Int):sgn ng n*x=sg ng x∧(sgn ng n=1∨sgn ng n=-1):=by
 have:n≠0:=by omega
 cases ng<;>simp[sgn,sg,this]
theorem kT.put {r:Nat->aE} {low high:Int} {N k q p:Nat} {c c':Nat->Int} (h:kT r low high N k c) (hs:il (r k)) (h0:0<(r k).n) (ha:low<=(r k).e∧(r k).e+aC (val (r k).d (r k).n)<=high) (hl:-4194304<=low) (hqp:(r k).e-low=30*q+p) (hp:p<30)
  (hP:oP N c (sgn (r k).ng (r k).n) (P q*(2^p*val (r k).d (r k).n)) c'):kT r low high N (k+1) c':=by
 obtain⟨b1,b0⟩:=uj hs ha
 obtain⟨a1,a2⟩:=ha
 have e1:(2:Int)^((r k).e-low).toNat=P q*2^p:=by
  rw[show((r k).e-low).toNat=30*q+p by omega,Int.pow_add,cr]
 have e2:P q*(2^p*val (r k).d (r k).n)=val (r k).d (r k).n*2^((r k).e-low).toNat:=by rw[e1];grind
 rw[e2] at hP
 generalize hX:val (r k).d (r k).n*2^((r k).e-low).toNat=X at *
 obtain⟨s1,s2⟩:=Ak (r k).ng h0 X
 have hsum:=hP.sum
 rw[s1] at hsum
 have hpp:=aF (high-low).toNat
 have e3:((k+1:Nat):Int)*2^(high-low).toNat=k*2^(high-low).toNat+2^(high-low).toNat:=by rw[Int.natCast_add,Int.add_mul];simp
 have hsx:-X<=sg (r k).ng X∧sg (r k).ng X<=X:=by cases (r k).ng<;>simp[sg]<;>omega
 refine⟨?_,fun i hi=>?_,?_,?_⟩
 ·rw[hsum,Int.add_mul,h.sum]
  show _=md r k+sg (r k).ng (val (r k).d (r k).n)*pw (r k).e
  rw[iN hl a1,<- hX,gV,gV];grind
 ·have h1:=h.bnd i hi
  have h2:=uc s2 (hP.near i) (C:=k*1073741823) h1
  omega
 ·have:=h.lo;omega
 ·have:=h.hi;omega
def aE.V (r:aE):Int:=sg r.ng (val r.d r.n)*pw r.e
def tc (x y:aE):Nat->aE:=fun i=>if i=0 then x else y
theorem BJ {w:World} {g:Nat} {x y:aE} {t:TypeId} (h:w.heap[g]?=some (.cells #[.bool x.ng,.slice x.ao x.n x.cap,.int .i64 x.e,.bool y.ng,.slice y.ao y.n y.cap,.int .i64 y.e] t (0,0))) (hx:aG w x.ao x.n x.cap x.d) (hy:aG w y.ao y.n y.cap y.d) :
    eS w (some ⟨g,0,none⟩) 2 2 (tc x y) :=
  ⟨Nat.le_refl _,by decide,fun _=>⟨g,0,rfl,(Array.getElem?_eq_some_iff.1 h).1,fun i hi=>by
    match i,hi with
    | 0,_=>exact⟨ab h 0 rfl,ab h 1 rfl,ab h 2 rfl,hx⟩
    | 1,_=>exact ⟨ab h 3 rfl,ab h 4 rfl,ab h 5 rfl,hy⟩⟩⟩
theorem Al (x y:aE):sZ (tc x y) 2=(bV x&&bV y):=by
 unfold sZ
 by_cases hx:bV x=true
 ·by_cases hy:bV y=true
  ·rw[hx,hy]
   exact decide_eq_true fun i hi=>by
    match i,hi with
    | 0,_=>exact hx
    | 1,_=>exact hy
  ·have:bV y=false:=by simpa using hy
   rw[hx,this]
   exact decide_eq_false fun h=>hy (h 1 (by omega))
 ·have:bV x=false:=by simpa using hx
  rw[this,Bool.false_and]
  exact decide_eq_false fun h=>hx (h 0 (by omega))
theorem a8 {x:aE} (h:bV x=true):il x:=by
 rcases of_decide_eq_true h with⟨h1,h2,h3⟩|⟨h1,⟨h2,h3⟩,h4,h5,h6⟩
 ·exact⟨⟨fun i hi=>by omega,.inl h1⟩,by omega,by omega,by omega⟩
 ·exact⟨h3,by omega,by omega,by omega⟩
theorem fC {x:aE} (h:bV x=true):Dy x.V x.ng (val x.d x.n) x.e∧val x.d x.n<P 2000∧b7 x.V:=by
 have hd:Dy x.V x.ng (val x.d x.n) x.e∧val x.d x.n<P 2000∧-1048576<=x.e∧x.e<=1048576:=by
  rcases of_decide_eq_true h with⟨h1,h2,h3⟩|⟨h1,⟨h2,h3⟩,h4,h5,h6⟩
  ·exact⟨⟨rfl,by omega,.inl ⟨by rw[h1];rfl,h2,h3⟩⟩,by rw[h1];show(0:Int)<P 2000;exact bp 2000,by omega,by omega⟩
  ·refine⟨⟨rfl,by omega,.inr ⟨dK h3 h1,?_⟩⟩,?_,h5,h6⟩
   ·obtain⟨m,hm⟩:∃ m,x.n=m+1:=⟨x.n-1,by omega⟩
    have:=cA x.d 1 m
    rw[show 1+m=x.n by omega] at this
    rw[this]
    rw[show val x.d 1=x.d 0 by show 0+x.d 0*1=_;omega,show P 1=1073741824 from rfl]
    omega
   ·exact Int.lt_of_lt_of_le (bz h3.1) (fJ h2)
 exact⟨hd.1,hd.2.1,hd.1.ok.2 hd.2⟩
theorem me {w w1:World} (h:Below w.heap.size w w1) {g:Nat} (hg:w.heap.size<=g) (a b c:Value):Below w.heap.size w (((w1.setCell ⟨g,0,none⟩ a).setCell ⟨g,1,none⟩ b).setCell ⟨g,2,none⟩ c) :=
 ((h.setCell (p:=⟨g,0,none⟩) hg a).setCell (p:=⟨g,1,none⟩) hg b).setCell (p:=⟨g,2,none⟩) hg c
theorem gG {w:World} {g:Nat} {xs:Array Value} {t:TypeId} (h:w.heap[g]?=some (.cells xs t (0,0))) (i:Nat) (v:Value):(w.setCell ⟨g,i,none⟩ v).heap[g]?=some (.cells (xs.setIfInBounds i v) t (0,0)):=by
 simp[World.setCell,Array.getElem?_modify,h]
theorem uk (b:Int) (w:World) (L:eI w) :
  Calls prog 83 #[.int .i64 b] w fun e w'=>e=.returned (.int .i64 (aD b))∧Gr w w':=by
 obtain⟨a0,a1,a2,b0,b1,b2⟩:=L
 go_enter func83,ntmps83
 go_wp2_with (go_at_call 105;refine(yf _ _).mono ?_;rintro e w1 ⟨rfl,hg⟩)
 go_ret
 exact⟨rfl,hg⟩
theorem nZ (b:Int) (w:World) (L:eI w) :
    Calls prog 64 #[.int .i64 b] w fun e w'=>e=.returned (.int .i64 (aH b))∧Gr w w':=by
  by_cases h:aD b=4<;>by_cases h0:aD b=0
  all_goals first
    | (exfalso;omega)
    | (go_enter func64,ntmps64
       go_wp2_with (go_at_call 83;refine(uk _ _ L).mono ?_;rintro e w1 ⟨rfl,hg⟩)
       go_ret
       exact ⟨bZ (by simp [aH,h,h0]),hg⟩)
theorem td (ao:Option Addr) (n cap:Nat) (d:Nat->Int) (w:World) (h:aG w ao n cap d) :
  Calls prog 50 #[.slice ao n cap] w fun e w'=>e=.returned (.bool (kQ d n))∧w'=w:=by
 have hl:=h.le
 have hm:=h.max
 by_cases h2k:n<=2000
 ·by_cases hz:0<n∧d (n-1)=0
  ·obtain⟨h0,hz⟩:=hz
   obtain⟨b,off,rfl,hb,hc⟩:=h.spot h0
   have c:=hc (n-1) (by omega)
   have hzb:(d (n-1) == 0)=true:=by simp[hz]
   go_enter func50,ntmps50
   go_wp2
   go_ret
   exact⟨a7 (gZ (fun ⟨_,q⟩=>by rcases q.2 with e|e<;>omega)).symm,rfl⟩
  ·have main:∀ (P0:Prop),P0->kF d n:=fun _ _=>by
    by_cases h0:n=0
    ·exact .inl h0
    ·exact .inr (fun e=>hz ⟨by omega,e⟩)
   have htop:=main True trivial
   clear main
   by_cases h0:n=0
   ·subst h0
    go_enter func50,ntmps50
    go_wp2
    go_loop [3] (fun i=>i=.int .i64 0) (fun _=>0)
    case atStart=>rfl
    case round=>
     subst hrel
     go_wp2
     go_ret
     exact⟨a7 (iG (by omega) ⟨fun i hi=>by omega,htop⟩).symm,rfl⟩
   ·obtain⟨b,off,rfl,hb,hc⟩:=h.spot (by omega)
    have ct:=hc (n-1) (by omega)
    have hzb:(d (n-1) == 0)=false:=by simp;intro e;exact hz ⟨by omega,e⟩
    clear hz
    go_enter func50,ntmps50
    go_wp2
    go_loop [3] (fun i=>∃ k:Nat,k<=n∧i=.int .i64 k∧aO d k) (fun i=>n-(intOf i).toNat)
    case atStart=>exact⟨0,Nat.zero_le _,rfl,fun i hi=>absurd hi (by omega)⟩
    case round=>
     obtain⟨k,hk,rfl,hd⟩:=hrel
     by_cases hlt:k<n
     ·have c:=hc k hlt
      by_cases h0:d k<0
      ·go_wp2
       go_ret
       exact⟨a7 (gZ (fun ⟨_,q⟩=>by have:=(q.1 k hlt).1;omega)).symm,rfl⟩
      ·by_cases h1:1073741824<=d k
       ·go_wp2
        go_ret
        exact⟨a7 (gZ (fun ⟨_,q⟩=>by have:=(q.1 k hlt).2;omega)).symm,rfl⟩
       ·go_wp2
        go_round
        case rel=>exact⟨k+1,by omega,by go_num,l8 hd (by omega) (by omega)⟩
        case measure=>simp[intOf];omega
     ·obtain rfl:k=n:=by omega
      go_wp2
      go_ret
      exact⟨a7 (iG h2k ⟨hd,htop⟩).symm,rfl⟩
 ·go_enter func50,ntmps50
  go_wp2
  go_ret
  exact⟨a7 (gZ (fun ⟨q,_⟩=>h2k q)).symm,rfl⟩
theorem um (g n cap:Nat) (d:Nat->Int) (w:World) (h:aG w (some ⟨g,0,none⟩) n cap d) :
  Calls prog 120 #[.slice (some ⟨g,0,none⟩) n cap] w fun e w'=>∃ t:Nat,t<=n∧kF d t∧(∀ i,t<=i->i<n->d i=0)∧e=.returned (.slice (some ⟨g,0,none⟩) t cap)∧w'=w:=by
 have hl:=h.le
 have hm:=h.max
 go_enter func120,ntmps120
 go_wp2
 go_loop [3] (fun i=>∃ k:Nat,k<=n∧i=.int .i64 k∧∀ i,k<=i->i<n->d i=0) (fun i=>(intOf i).toNat)
 case atStart=>exact⟨n,Nat.le_refl _,rfl,fun i a b=>by omega⟩
 case round=>
  obtain⟨k,hk,rfl,hz⟩:=hrel
  have HZ:Hid (∀ i,k<=i->i<n->d i=0):=hz
  clear hz
  by_cases h0:k=0
  ·subst h0
   go_wp2
   go_ret
   exact⟨0,by omega,.inl rfl,HZ.out,by simp,rfl⟩
  ·obtain⟨b,off,eb,hb,hc⟩:=h.spot (by omega)
   simp only[Option.some.injEq,Addr.mk.injEq,and_true] at eb
   obtain⟨rfl,rfl⟩:=eb
   have c:=hc (k-1) (by omega)
   rw[Nat.zero_add] at c
   by_cases h1:d (k-1)=0
   ·go_wp2
    go_round
    case rel=>exact⟨k-1,by omega,by go_num,fun i a b=>by by_cases e:i=k-1;(· rw[e];exact h1);(· exact HZ.out i (by omega) b)⟩
    case measure=>simp[intOf];omega
   ·go_wp2
    go_ret
    exact⟨k,hk,.inr h1,HZ.out,by simp,rfl⟩
theorem Am {d:Nat->Int} {t:Nat} (hd:aO d t) (h:0<t->P (t-1)<=val d t):kF d t:=by
 by_cases h0:t=0
 ·exact .inl h0
 ·refine .inr fun e=>?_
  obtain⟨k,rfl⟩:∃ k,t=k+1:=⟨t-1,by omega⟩
  rw[Nat.add_sub_cancel] at e h
  have h1:=h (by omega)
  rw[aI,e] at h1
  have h2:=bz (hd.le (Nat.le_succ k))
  omega
theorem c6 (r:Nat->Int) (k:Nat) (x:Int):∀ i,i<k+1->kG r k (fun _=>x) i=bK r k x i:=fun i hi=>by
 by_cases e:i<k
 ·simp[kG,e,aP r _ (show i≠k by omega)]
 ·obtain rfl:i=k:=by omega
  simp[kG,a6]
theorem c8 {r:Nat->Int} {k:Nat} {x:Int} (h:aO r k) (hx:0<=x∧x<1073741824):aO (bK r k x) (k+1):=fun i hi=>by
 by_cases e:i=k
 ·rw[e,a6];exact hx
 ·rw[aP r x e];exact h i (by omega)
theorem pI (ao bo:Option Addr) (n m ca cb:Nat) (a b:Nat->Int) (w:World) (ha:aG w ao n ca a) (hb:aG w bo m cb b) (na:bt a n) (nb:bt b m) (hn:n<=100000) (hm:m<=100000) :
  Calls prog 98 #[.slice ao n ca,.slice bo m cb] w fun e w'=>∃ v,e=.returned v∧bO w w' (val a n+val b m) v:=by
 have hla:=ha.le
 have hma:=ha.max
 have hlb:=hb.le
 have hmb:=hb.max
 have da:=na.1
 have db:=nb.1
 obtain⟨M,hM1,hM2,hM3⟩:∃ M,n<=M∧m<=M∧(M<=n∨M<=m):=⟨max n m,by omega,by omega,by omega⟩
 go_enter func98,ntmps98
 go_wp2
 go_loopw [5,6,7] (fun l c i wr=>∃ (k:Nat) (q:Int) (r:Nat->Int),(k<=M∨(k=M+1∧q=0))∧i=.int .i64 k∧c=.int .i64 q∧0<=q∧q<=1∧aV w.heap.size wr l k r∧aO r k∧Hid (val r k+q*P k=val (aY a n) k+val (aY b m) k)∧Hid (k=M+1->P M<=val a n+val b m)∧Below w.heap.size w wr) (fun _ _ i _=>M+1-(intOf i).toNat)
 case atStart=>exact⟨0,0,fun _=>0,.inl (Nat.zero_le _),rfl,rfl,by omega,by omega,aV.nil _ _ _,fun i hi=>by omega,by show _=_;rfl,fun h=>by omega,aq _⟩
 case round=>
  obtain⟨k,q,r,hk,rfl,rfl,hq0,hq1,hO,hD,HV,HT,hbw⟩:=hrel
  have hkM:k<=M+1:=by omega
  by_cases hkn:k<n
  ·by_cases hkm:k<m
   ·obtain⟨ba,fa,rfl,hba,hca⟩:=ha.spot (by omega)
    have c1:=(hbw.cell (p:=⟨ba,fa+k,none⟩) hba).trans (hca k hkn)
    have dk:=da k hkn
    obtain⟨bb,fb,rfl,hbb,hcb⟩:=hb.spot (by omega)
    have c2:=(hbw.cell (p:=⟨bb,fb+k,none⟩) hbb).trans (hcb k hkm)
    have dbk:=db k hkm
    have HX:Hid (q+a k+b k=q+(aY a n k+aY b m k)):=by show _=_;rw[cD a hkn,cD b hkm];omega
    go_wp2_with (at_builtin;refine bU rfl _ _ rfl w.heap.size _ k r rfl (hO.stays (ae _ _)) _ 1 1 (fun _=>(q+a k+b k) % 1073741824) rfl (gf _ _ rfl) (by omega) (by have:=hbw.size;simp;omega) ?_;intro v' w1 hO1 hg1)
    have hb1:Below w.heap.size w w1:=(hbw.alloc hbw.size _).grown hg1 (by have:=hbw.size;simp;omega) (c7 hO)
    have hs:=cM (x:=aY a n k+aY b m k) HV.out
    rw[<- HX.out] at hs
    go_roundw
    case rel=>exact⟨k+1,(q+a k+b k)/1073741824,bK r k ((q+a k+b k) % 1073741824),by omega,by go_num,rfl,by omega,by omega,hO1.congr (c6 r k _),c8 hD (fk _),by show _=_;rw[hs,aI,aI];grind,fun h=>by omega,hb1⟩
    case measure=>simp[intOf];omega
   ·obtain⟨ba,fa,rfl,hba,hca⟩:=ha.spot (by omega)
    have c1:=(hbw.cell (p:=⟨ba,fa+k,none⟩) hba).trans (hca k hkn)
    have dk:=da k hkn
    have HX:Hid (q+a k=q+(aY a n k+aY b m k)):=by show _=_;rw[cD a hkn,eL b (by omega)];omega
    go_wp2_with (at_builtin;refine bU rfl _ _ rfl w.heap.size _ k r rfl (hO.stays (ae _ _)) _ 1 1 (fun _=>(q+a k) % 1073741824) rfl (gf _ _ rfl) (by omega) (by have:=hbw.size;simp;omega) ?_;intro v' w1 hO1 hg1)
    have hb1:Below w.heap.size w w1:=(hbw.alloc hbw.size _).grown hg1 (by have:=hbw.size;simp;omega) (c7 hO)
    have hs:=cM (x:=aY a n k+aY b m k) HV.out
    rw[<- HX.out] at hs
    go_roundw
    case rel=>exact⟨k+1,(q+a k)/1073741824,bK r k ((q+a k) % 1073741824),by omega,by go_num,rfl,by omega,by omega,hO1.congr (c6 r k _),c8 hD (fk _),by show _=_;rw[hs,aI,aI];grind,fun h=>by omega,hb1⟩
    case measure=>simp[intOf];omega
  ·by_cases hkm:k<m
   ·obtain⟨bb,fb,rfl,hbb,hcb⟩:=hb.spot (by omega)
    have c2:=(hbw.cell (p:=⟨bb,fb+k,none⟩) hbb).trans (hcb k hkm)
    have dbk:=db k hkm
    have HX:Hid (q+b k=q+(aY a n k+aY b m k)):=by show _=_;rw[eL a (by omega),cD b hkm];omega
    go_wp2_with (at_builtin;refine bU rfl _ _ rfl w.heap.size _ k r rfl (hO.stays (ae _ _)) _ 1 1 (fun _=>(q+b k) % 1073741824) rfl (gf _ _ rfl) (by omega) (by have:=hbw.size;simp;omega) ?_;intro v' w1 hO1 hg1)
    have hb1:Below w.heap.size w w1:=(hbw.alloc hbw.size _).grown hg1 (by have:=hbw.size;simp;omega) (c7 hO)
    have hs:=cM (x:=aY a n k+aY b m k) HV.out
    rw[<- HX.out] at hs
    go_roundw
    case rel=>exact⟨k+1,(q+b k)/1073741824,bK r k ((q+b k) % 1073741824),by omega,by go_num,rfl,by omega,by omega,hO1.congr (c6 r k _),c8 hD (fk _),by show _=_;rw[hs,aI,aI];grind,fun h=>by omega,hb1⟩
    case measure=>simp[intOf];omega
   ·by_cases hq:0<q
    ·have hkE:k=M:=by omega
     have HTT:Hid (P M<=val a n+val b m):=by
      show _<=_
      have h:=HV.out
      rw[iE a (by omega),iE b (by omega),show q=1 by omega,hkE] at h
      have:=aJ hD
      rw[hkE] at this
      omega
     have HX:Hid (q=q+(aY a n k+aY b m k)):=by show _=_;rw[eL a (by omega),eL b (by omega)];omega
     go_wp2_with (at_builtin;refine bU rfl _ _ rfl w.heap.size _ k r rfl (hO.stays (ae _ _)) _ 1 1 (fun _=>(q) % 1073741824) rfl (gf _ _ rfl) (by omega) (by have:=hbw.size;simp;omega) ?_;intro v' w1 hO1 hg1)
     have hb1:Below w.heap.size w w1:=(hbw.alloc hbw.size _).grown hg1 (by have:=hbw.size;simp;omega) (c7 hO)
     have hs:=cM (x:=aY a n k+aY b m k) HV.out
     rw[<- HX.out] at hs
     go_roundw
     case rel=>exact⟨k+1,(q)/1073741824,bK r k ((q) % 1073741824),by omega,by go_num,rfl,by omega,by omega,hO1.congr (c6 r k _),c8 hD (fk _),by show _=_;rw[hs,aI,aI];grind,fun h=>HTT.out,hb1⟩
     case measure=>simp[intOf];omega
    ·obtain rfl:q=0:=by omega
     have hkMM:M<=k:=by omega
     have hcd:decide ((0:Int)<0)=false:=by decide
     go_wp2
     go_ret
     have hv:val r k=val a n+val b m:=by
      have h:=HV.out
      rw[iE a (by omega),iE b (by omega)] at h
      omega
     refine⟨_,rfl,k,r,hO,⟨hD,Am hD fun hk0=>?_⟩,hv,hbw⟩
     rw[hv]
     have A0:=aJ da
     have B0:=aJ db
     rcases hk with h|⟨h,_⟩
     ·obtain rfl:k=M:=by omega
      rcases hM3 with q|q
      ·obtain rfl:k=n:=by omega
       have:=cI da hk0 na.2
       omega
      ·obtain rfl:k=m:=by omega
       have:=cI db hk0 nb.2
       omega
     ·rw[h,Nat.add_sub_cancel];exact HT.out h
theorem un {B:Nat} {w:World} {v:Value} {n:Nat} {d:Nat->Int} (h:aV B w v n d) :
  Calls prog 120 #[v] w fun e w'=>∃ v',e=.returned v'∧∃ t,t<=n∧kF d t∧(∀ i,t<=i->i<n->d i=0)∧aV B w v' t d∧w'=w:=by
 have h0:=h
 rcases h.2 with⟨rfl,rfl⟩|⟨g,cap,cur,rfl,hb,hg,hn,hm,hs,ht⟩
 ·go_enter func120,ntmps120
  go_wp2
  go_loop [3] (fun i=>i=.int .i64 0) (fun i=>0)
  case atStart=>rfl
  case round=>
   subst hrel
   go_wp2
   go_ret
   exact⟨_,rfl,.inl rfl,aV.nil _ _ _,rfl⟩
 ·obtain⟨ao,c,e,hR⟩:=h0.row
  simp only[Value.slice.injEq] at e
  obtain⟨rfl,_,rfl⟩:=e
  refine(um g n cap d w hR).mono ?_
  rintro e w' ⟨t,h1,h2,h3,rfl,rfl⟩
  exact⟨_,rfl,t,h1,h2,h3,h0.cut h1,rfl⟩
theorem i8 {w0 w:World} {v:Value} {n:Nat} {d:Nat->Int} (h:aV w0.heap.size w v n d) (hd:aO d n) (hb:Below w0.heap.size w0 w) :
  Calls prog 120 #[v] w fun e w'=>∃ v',e=.returned v'∧bO w0 w (val d n) v'∧w'=w:=by
 refine(un h).mono ?_
 rintro e w' ⟨v',rfl,t,ht,htop,hz,hO,rfl⟩
 obtain⟨hN,hv⟩:=ed hd ht htop hz
 exact⟨v',rfl,⟨t,d,hO,hN,hv,hb⟩,rfl⟩
theorem pJ (ao bo:Option Addr) (n m ca cb:Nat) (a b:Nat->Int) (w:World) (ha:aG w ao n ca a) (hb:aG w bo m cb b) (na:bt a n) (nb:bt b m) :
  Calls prog 99 #[.slice ao n ca,.slice bo m cb] w fun e w'=>e=.returned (.int .i64 (bq (val a n) (val b m)))∧Below w.heap.size w w':=by
 have hla:=ha.le
 have hma:=ha.max
 have hlb:=hb.le
 have hmb:=hb.max
 by_cases hnm:n=m
 ·subst hnm
  go_enter func99,ntmps99
  go_wp2
  go_loopw [5] (fun i wr=>∃ k:Nat,k<=n∧i=.int .i64 ((k:Int)-1)∧Hid (∀ i,k<=i->i<n->a i=b i)∧Below w.heap.size w wr) (fun i _=>(intOf i+1).toNat)
  case atStart=>exact⟨n,Nat.le_refl _,rfl,fun i _ _=>by omega,aq _⟩
  case round=>
   obtain⟨k,hk,rfl,HS,hbw⟩:=hrel
   by_cases hlt:0<k
   ·obtain⟨j,rfl⟩:∃ j,k=j+1:=⟨k-1,by omega⟩
    have ej:((j+1:Nat):Int)-1=j:=by omega
    obtain⟨ba,fa,rfl,hba,hca⟩:=ha.spot (by omega)
    obtain⟨bb,fb,rfl,hbb,hcb⟩:=hb.spot (by omega)
    have c1:=(hbw.cell (p:=⟨ba,fa+j,none⟩) hba).trans (hca j (by omega))
    have c2:=(hbw.cell (p:=⟨bb,fb+j,none⟩) hbb).trans (hcb j (by omega))
    rw[ej]
    by_cases h1:a j<b j
    ·go_wp2
     go_quiet (fail)
     go_wp2
     go_ret
     exact⟨bS ((cF h1).symm.trans (rJ na.1 nb.1 (show j<n by omega) (fun i x y=>HS.out i (by omega) y) (by omega))),a5 hbw _⟩
    ·by_cases h2:b j<a j
     ·go_wp2
      go_quiet (fail)
      go_wp2
      go_quiet (fail)
      go_wp2
      go_ret
      exact⟨bS ((cG h2).symm.trans (rJ na.1 nb.1 (show j<n by omega) (fun i x y=>HS.out i (by omega) y) (by omega))),a5 (a5 hbw _) _⟩
     ·go_wp2
      go_quiet (fail)
      go_wp2
      go_quiet (fail)
      go_wp2
      go_roundw
      case rel=>exact⟨j,by omega,by go_num,fun i x y=>by by_cases e:i=j;(· rw[e];omega);(· exact HS.out i (by omega) y),a5 hbw _⟩
      case measure=>simp[intOf];try omega
   ·obtain rfl:k=0:=by omega
    go_wp2
    go_ret
    exact⟨bS (eE (dr fun i hi=>HS.out i (by omega) hi)).symm,hbw⟩
 ·by_cases hlt:n<m
  ·go_enter func99,ntmps99
   go_wp2
   go_ret
   exact⟨bS (cF (o8 na.1 nb hlt)).symm,aq _⟩
  ·go_enter func99,ntmps99
   go_wp2
   go_ret
   exact⟨bS (cG (o8 nb.1 na (by omega))).symm,aq _⟩
theorem jW (ao bo:Option Addr) (n m ca cb:Nat) (a b:Nat->Int) (w:World) (ha:aG w ao n ca a) (hb:aG w bo m cb b) (na:bt a n) (nb:bt b m) (hn:n<=100000) (hle:val b m<=val a n) :
  Calls prog 100 #[.slice ao n ca,.slice bo m cb] w fun e w'=>∃ v,e=.returned v∧bO w w' (val a n-val b m) v:=by
 have hla:=ha.le
 have hma:=ha.max
 have hlb:=hb.le
 have hmb:=hb.max
 have da:=na.1
 have db:=nb.1
 have hmn:m<=n:=sO nb da hle
 have HLE:Hid (val b m<=val a n):=hle
 clear hle
 go_enter func100,ntmps100
 go_wp2
 go_loopw [5,6,7] (fun l c i wr=>∃ (k:Nat) (q:Int) (r:Nat->Int),k<=n∧i=.int .i64 k∧c=.int .i64 q∧0<=q∧q<=1∧aV w.heap.size wr l k r∧aO r k∧Hid (val r k-q*P k=val (aY a n) k-val (aY b m) k)∧Below w.heap.size w wr) (fun _ _ i _=>n-(intOf i).toNat)
 case atStart=>exact⟨0,0,fun _=>0,Nat.zero_le _,rfl,rfl,by omega,by omega,aV.nil _ _ _,fun i hi=>by omega,by show _=_;rfl,aq _⟩
 case round=>
  obtain⟨k,q,r,hk,rfl,rfl,hq0,hq1,hO,hD,HV,hbw⟩:=hrel
  by_cases hkn:k<n
  ·obtain⟨ba,fa,rfl,hba,hca⟩:=ha.spot (by omega)
   have c1:=(hbw.cell (p:=⟨ba,fa+k,none⟩) hba).trans (hca k hkn)
   have dk:=da k hkn
   by_cases hkm:k<m
   ·obtain⟨bb,fb,rfl,hbb,hcb⟩:=hb.spot (by omega)
    have c2:=(hbw.cell (p:=⟨bb,fb+k,none⟩) hbb).trans (hcb k hkm)
    have dbk:=db k hkm
    have HX:Hid (-q+(aY a n k-aY b m k)=a k-q-b k):=by show _=_;rw[cD a hkn,cD b hkm];omega
    by_cases hneg:a k-q-b k<0
    ·go_wp2_with (at_builtin;refine bU rfl _ _ rfl w.heap.size _ k r rfl (hO.stays (ae _ _)) _ 1 1 (fun _=>(a k-q-b k+1073741824)) rfl (gf _ _ rfl) (by omega) (by have:=hbw.size;simp;omega) ?_;intro v' w1 hO1 hg1)
     have hb1:Below w.heap.size w w1:=(hbw.alloc hbw.size _).grown hg1 (by have:=hbw.size;simp;omega) (c7 hO)
     have hs:=cM (c:=-q) (x:=aY a n k-aY b m k) (r:=r) (k:=k) (V:=val (aY a n) k-val (aY b m) k) (by have:=HV.out;rw[Int.neg_mul];omega)
     rw[show -q+(aY a n k-aY b m k)=a k-q-b k from HX.out,show(a k-q-b k) % 1073741824=(a k-q-b k+1073741824) by omega,show(a k-q-b k)/1073741824=-1 by omega] at hs
     go_roundw
     case rel=>exact⟨k+1,1,bK r k (a k-q-b k+1073741824),by omega,by go_num,rfl,by omega,by omega,hO1.congr (c6 r k _),c8 hD (by omega),by show _=_;rw[aI (aY a n),aI (aY b m)];rw[Int.sub_mul] at hs;omega,hb1⟩
     case measure=>simp[intOf];omega
    ·go_wp2_with (at_builtin;refine bU rfl _ _ rfl w.heap.size _ k r rfl (hO.stays (ae _ _)) _ 1 1 (fun _=>(a k-q-b k)) rfl (gf _ _ rfl) (by omega) (by have:=hbw.size;simp;omega) ?_;intro v' w1 hO1 hg1)
     have hb1:Below w.heap.size w w1:=(hbw.alloc hbw.size _).grown hg1 (by have:=hbw.size;simp;omega) (c7 hO)
     have hs:=cM (c:=-q) (x:=aY a n k-aY b m k) (r:=r) (k:=k) (V:=val (aY a n) k-val (aY b m) k) (by have:=HV.out;rw[Int.neg_mul];omega)
     rw[show -q+(aY a n k-aY b m k)=a k-q-b k from HX.out,show(a k-q-b k) % 1073741824=(a k-q-b k) by omega,show(a k-q-b k)/1073741824=-0 by omega] at hs
     go_roundw
     case rel=>exact⟨k+1,0,bK r k (a k-q-b k),by omega,by go_num,rfl,by omega,by omega,hO1.congr (c6 r k _),c8 hD (by omega),by show _=_;rw[aI (aY a n),aI (aY b m)];rw[Int.sub_mul] at hs;omega,hb1⟩
     case measure=>simp[intOf];omega
   ·have HX:Hid (-q+(aY a n k-aY b m k)=a k-q):=by show _=_;rw[cD a hkn,eL b (by omega)];omega
    by_cases hneg:a k-q<0
    ·go_wp2_with (at_builtin;refine bU rfl _ _ rfl w.heap.size _ k r rfl (hO.stays (ae _ _)) _ 1 1 (fun _=>(a k-q+1073741824)) rfl (gf _ _ rfl) (by omega) (by have:=hbw.size;simp;omega) ?_;intro v' w1 hO1 hg1)
     have hb1:Below w.heap.size w w1:=(hbw.alloc hbw.size _).grown hg1 (by have:=hbw.size;simp;omega) (c7 hO)
     have hs:=cM (c:=-q) (x:=aY a n k-aY b m k) (r:=r) (k:=k) (V:=val (aY a n) k-val (aY b m) k) (by have:=HV.out;rw[Int.neg_mul];omega)
     rw[show -q+(aY a n k-aY b m k)=a k-q from HX.out,show(a k-q) % 1073741824=(a k-q+1073741824) by omega,show(a k-q)/1073741824=-1 by omega] at hs
     go_roundw
     case rel=>exact⟨k+1,1,bK r k (a k-q+1073741824),by omega,by go_num,rfl,by omega,by omega,hO1.congr (c6 r k _),c8 hD (by omega),by show _=_;rw[aI (aY a n),aI (aY b m)];rw[Int.sub_mul] at hs;omega,hb1⟩
     case measure=>simp[intOf];omega
    ·go_wp2_with (at_builtin;refine bU rfl _ _ rfl w.heap.size _ k r rfl (hO.stays (ae _ _)) _ 1 1 (fun _=>(a k-q)) rfl (gf _ _ rfl) (by omega) (by have:=hbw.size;simp;omega) ?_;intro v' w1 hO1 hg1)
     have hb1:Below w.heap.size w w1:=(hbw.alloc hbw.size _).grown hg1 (by have:=hbw.size;simp;omega) (c7 hO)
     have hs:=cM (c:=-q) (x:=aY a n k-aY b m k) (r:=r) (k:=k) (V:=val (aY a n) k-val (aY b m) k) (by have:=HV.out;rw[Int.neg_mul];omega)
     rw[show -q+(aY a n k-aY b m k)=a k-q from HX.out,show(a k-q) % 1073741824=(a k-q) by omega,show(a k-q)/1073741824=-0 by omega] at hs
     go_roundw
     case rel=>exact⟨k+1,0,bK r k (a k-q),by omega,by go_num,rfl,by omega,by omega,hO1.congr (c6 r k _),c8 hD (by omega),by show _=_;rw[aI (aY a n),aI (aY b m)];rw[Int.sub_mul] at hs;omega,hb1⟩
     case measure=>simp[intOf];omega
  ·obtain rfl:k=n:=by omega
   have HD:Hid (aO r k∧val r k=val a k-val b m):=by
    refine⟨hD,?_⟩
    have h1:=HV.out
    rw[iE a (Nat.le_refl _),iE b hmn] at h1
    have h2:=bz hD
    have h3:=HLE.out
    have hp:=bp k
    rcases (show q=0∨q=1 by omega) with e|e
    ·subst e;omega
    ·subst e;omega
   go_wp2_with (go_at_call 120;refine(i8 hO hD hbw).mono ?_;rintro e w3 ⟨v',rfl,hA,rfl⟩)
   go_ret
   exact⟨_,rfl,by rw[<- HD.out.2];exact hA⟩
theorem wb (ao bo:Option Addr) (n m ca cb:Nat) (a b:Nat->Int) (w:World) (ha:aG w ao n ca a) (hb:aG w bo m cb b) (na:bt a n) (nb:bt b m) (hn:n<=100000) (hm:m<=100000) :
  Calls prog 96 #[.slice ao n ca,.slice bo m cb] w fun e w'=>∃ v,e=.returned v∧bO w w' (val a n*val b m) v:=by
 have hla:=ha.le
 have hma:=ha.max
 have hlb:=hb.le
 have hmb:=hb.max
 have da:=na.1
 have db:=nb.1
 by_cases hn0:n=0
 ·subst hn0
  go_enter func96,ntmps96
  go_wp2
  go_ret
  exact⟨_,rfl,by rw[show val a 0*val b m=0 from Int.zero_mul _];exact bO.nil (aq _)⟩
 ·by_cases hm0:m=0
  ·subst hm0
   go_enter func96,ntmps96
   go_wp2
   go_ret
   exact⟨_,rfl,by rw[show val a n*val b 0=0 from Int.mul_zero _];exact bO.nil (aq _)⟩
  ·have e1:((n:Int) == 0)=false:=by simp;omega
   have e2:((m:Int) == 0)=false:=by simp;omega
   go_enter func96,ntmps96
   go_wp2_with (at_make;refine gX rfl _ _ rfl _ _ (n+m) rfl rfl (by omega) (by omega) (by omega) ?_;intro w1 hB1 hb1)
   go_loopw [6] (fun i wr=>∃ (k:Nat) (r:Nat->Int),k<=n∧i=.int .i64 k∧bw wr w.heap.size (n+m) r∧aO r (n+m)∧Hid (∀ t,k+m<=t->r t=0)∧Hid (val r (k+m)=val a k*val b m)∧Below w.heap.size w wr) (fun i _=>n-(intOf i).toNat)
   case atStart=>exact⟨0,fun _=>0,Nat.zero_le _,rfl,hB1,jO _,fun _ _=>rfl,by show _=_;rw[cB (Nat.zero_le (0+m)) (fun _ _ _=>rfl)];show 0=0*val b m;omega,hb1⟩
   case round=>
    obtain⟨i,r0,hi,rfl,hB0,hD0,HZ0,HV0,hbw0⟩:=hrel
    by_cases hlt:i<n
    ·obtain⟨ba,fa,rfl,hba,hca⟩:=ha.spot (by omega)
     have dai:=da i hlt
     go_wp2
     go_loopw [7,8] (fun c j wr=>∃ (k:Nat) (q:Int) (r:Nat->Int),k<=m∧j=.int .i64 k∧c=.int .i64 q∧0<=q∧q<1073741824∧bw wr w.heap.size (n+m) r∧aO r (n+m)∧Hid (∀ t,i+k<=t->r t=r0 t)∧Hid (val r (i+k)+q*P (i+k)=val r0 (i+k)+a i*val b k*P i)∧Below w.heap.size w wr) (fun _ j _=>m-(intOf j).toNat)
     case atStart=>exact⟨0,0,r0,Nat.zero_le _,rfl,rfl,by omega,by omega,hB0,hD0,fun _ _=>rfl,by show _=_;show val r0 i+0*P i=val r0 i+a i*0*P i;grind,hbw0⟩
     case round=>
      obtain⟨k,q,r,hk,rfl,rfl,hq0,hq1,hB,hD,HS,HV,hbw⟩:=hrel
      have c1:=(hbw.cell (p:=⟨ba,fa+i,none⟩) hba).trans (hca i hlt)
      by_cases hkm:k<m
      ·obtain⟨bb,fb,rfl,hbb,hcb⟩:=hb.spot (by omega)
       have c2:=(hbw.cell (p:=⟨bb,fb+k,none⟩) hbb).trans (hcb k hkm)
       have c3:=hB.cell (show i+k<n+m by omega)
       have fg:=hB.frozen (i+k)
       have drk:=hD (i+k) (by omega)
       have hmul:=rD dai (db k hkm)
       go_wp2
       go_quiet (fail)
       go_wp2
       have hs:=pD (b:=b) (j:=k) HV.out (HS.out (i+k) (Nat.le_refl _))
       rw[show q+(a i*b k+r (i+k))=r (i+k)+a i*b k+q by omega] at hs
       go_roundw
       case rel=>exact⟨k+1,(r (i+k)+a i*b k+q)/1073741824,bK r (i+k) ((r (i+k)+a i*b k+q) % 1073741824),by omega,by go_num,rfl,by omega,by omega,hB.store (i+k) _,hD.upd _ (fk _),fun t ht=>by rw[aP r _ (by omega)];exact HS.out t (by omega),hs,(a5 hbw _).setCell (Nat.le_refl _) _⟩
       case measure=>simp[intOf];omega
      ·obtain rfl:k=m:=by omega
       have c3:=hB.cell (show i+k<n+k by omega)
       have fg:=hB.frozen (i+k)
       go_wp2
       have hr:=rG HV.out HV0.out
       go_roundw
       case rel=>exact⟨i+1,bK r (i+k) q,by omega,by go_num,hB.store (i+k) _,hD.upd _ ⟨hq0,hq1⟩,fun t ht=>by rw[aP r _ (by omega),HS.out t (by omega)];exact HZ0.out t (by omega),by show _=_;rw[hr,aI],hbw.setCell (Nat.le_refl _) _⟩
       case measure=>simp[intOf];omega
    ·obtain rfl:i=n:=by omega
     go_wp2_with (go_at_call 120;refine(i8 (hB0.out (Nat.le_refl _) (Nat.le_refl _) (by omega)) hD0 hbw0).mono ?_;rintro e w3 ⟨v',rfl,hA,rfl⟩)
     go_ret
     exact⟨_,rfl,by rw[<- HV0.out];exact hA⟩
end Go.Proofs.YtkkpppgfoilgmaaGreatDoor
