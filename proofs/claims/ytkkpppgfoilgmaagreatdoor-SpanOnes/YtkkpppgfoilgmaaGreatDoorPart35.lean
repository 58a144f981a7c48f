/- Parts of the proof. -/
import Derived.Test.YtkkpppgfoilgmaaGreatDoorPart30
import Derived.Test.YtkkpppgfoilgmaaGreatDoorPart31
import Derived.Test.YtkkpppgfoilgmaaGreatDoorPart32
import Derived.Test.YtkkpppgfoilgmaaGreatDoorPart33
import Derived.Test.YtkkpppgfoilgmaaGreatDoorPart16
import Derived.Test.YtkkpppgfoilgmaaGreatDoorPart15
import Derived.Test.YtkkpppgfoilgmaaGreatDoorPart34
import Derived.Test.YtkkpppgfoilgmaaGreatDoorPart7
import Derived.Test.YtkkpppgfoilgmaaGreatDoorPart10
set_option maxRecDepth 100000
set_option maxHeartbeats 8000000
set_option linter.unusedVariables false
set_option linter.unusedSimpArgs false
namespace Go.Proofs.YtkkpppgfoilgmaaGreatDoor
open Go Go.Proofs.Tryz Go.ChangeShapes Go.WideShapes Go.ChangeAt Go.RowKit Go.Proofs.YtkkpppgfoilgmaaGreatDoor.M
theorem DA {a b:Int} (na:nn a) (nb:nn b) (w:World) :
  Calls prog 24 #[.agg #[.int .i64 a,.int .i64 b]] w fun e w'=>e=.returned (.agg #[.int .i64 (bM (di (ah a) (ah b))),.int .i64 (bN (dI (ah a) (ah b)))])∧Below w.heap.size w w':=by
 by_cases h1:aQ (ah a)<=0
 ·by_cases h2:0<=aQ (ah b)
  ·exact CZ na nb h1 h2 w
  ·exact CH na nb h1 h2 w
 ·exact CE na nb h1 w
theorem By {a b:Int} (ra:au a) (rb:au b) (w:World):∃ (n0 n1 en q0 q1 eq sg0 eh:Int) (kn:Bool),(∀ W,Below w.heap.size w W->aA W->Calls prog 11 #[.agg #[.int .i64 a,.int .i64 b]] W fun e w'=>e=.returned (.tuple #[.agg #[.int .i64 n0,.int .i64 n1],.int .i64 en])∧Below W.heap.size W w')∧(∀ W,Below w.heap.size w W->aA W->Calls prog 12 #[.agg #[.int .i64 a,.int .i64 b]] W fun e w'=>e=.returned (.tuple #[.agg #[.int .i64 q0,.int .i64 q1],.int .i64 eq])∧Below W.heap.size W w')∧(∀ W,Below w.heap.size w W->aA W->Calls prog 9 #[.agg #[.int .i64 a,.int .i64 b]] W fun e w'=>e=.returned (.tuple #[.int .i64 sg0,.bool kn,.int .i64 eh])∧Below W.heap.size W w')∧(br a b=true->∀ W,Below w.heap.size w W->aA W->Calls prog 23 #[.agg #[.int .i64 a,.int .i64 b]] W fun e w'=>e=.returned (.agg #[.int .i64 n0,.int .i64 n1])∧Below W.heap.size W w')∧(br a b=true->∀ W,Below w.heap.size w W->aA W->Calls prog 24 #[.agg #[.int .i64 a,.int .i64 b]] W fun e w'=>e=.returned (.agg #[.int .i64 q0,.int .i64 q1])∧Below W.heap.size W w')∧(br a b=true->∀ W,Below w.heap.size w W->aA W->Calls prog 22 #[.agg #[.int .i64 a,.int .i64 b]] W fun e w'=>e=.returned (.tuple #[.int .i64 sg0,.bool kn])∧Below W.heap.size W w')∧(br a b=false->n0=0∧n1=0∧en=1∧q0=0∧q1=0∧eq=1∧eh=1∧sg0=0∧kn=false)∧(br a b=true->en=0∧eq=0∧eh=0):=by
 cases hv:br a b
 ·refine⟨0,0,1,0,0,1,0,1,false,fun W _ HW=>?_,fun W _ HW=>?_,fun W _ HW=>?_,fun h=>Bool.noConfusion h,fun h=>Bool.noConfusion h,fun h=>Bool.noConfusion h,fun _=>⟨rfl,rfl,rfl,rfl,rfl,rfl,rfl,rfl,rfl⟩,fun h=>Bool.noConfusion h⟩
  ·have:=qD ra rb W HW;rw[hv] at this;exact this
  ·have:=lW ra rb W HW;rw[hv] at this;exact this
  ·have:=oF ra rb W
   have h1:mX a b=0:=by unfold mX;rw[hv];rfl
   have h2:ls a b=false:=by unfold ls;rw[hv];rfl
   rw[hv,h1,h2] at this;exact this
 ·obtain⟨na,nb,-,-,-⟩:=mY ra rb hv
  refine⟨_,_,0,_,_,0,_,0,_,fun W _ HW=>?_,fun W _ HW=>?_,fun W _ HW=>?_,fun _ W _ _=>Cx na nb W,fun _ W _ _=>DA na nb W,fun _ W _ _=>Cy na nb hv W,fun h=>Bool.noConfusion h,fun _=>⟨rfl,rfl,rfl⟩⟩
  ·have:=qD ra rb W HW;rw[hv] at this;exact this
  ·have:=lW ra rb W HW;rw[hv] at this;exact this
  ·have:=oF ra rb W;rw[hv] at this;exact this
theorem Bz {bb:Int} (rb:au bb) (w:World):∃ (o0 o1 eo:Int),(∀ W,Below w.heap.size w W->aA W->Calls prog 13 #[.int .i64 bb] W fun e w'=>e=.returned (.tuple #[.agg #[.int .i64 o0,.int .i64 o1],.int .i64 eo])∧Below W.heap.size W w')∧(aB bb=true->∀ W,Below w.heap.size w W->aA W->Calls prog 19 #[.int .i64 bb] W fun e w'=>e=.returned (.agg #[.int .i64 o0,.int .i64 o1])∧Below W.heap.size W w')∧(aB bb=false->eo=10∧o0=0∧o1=0)∧(aB bb=true->eo=0):=by
 cases hv:aB bb
 ·exact⟨0,0,10,fun W _ HW=>zO hv W HW,fun h=>Bool.noConfusion h,fun _=>⟨rfl,rfl,rfl⟩,fun h=>Bool.noConfusion h⟩
 ·exact⟨_,_,0,fun W _ HW=>Bw rb hv W HW,fun _ W _ _=>zH (⟨rb,cx rb hv⟩) W,fun h=>Bool.noConfusion h,fun _=>rfl⟩
theorem BB {a b x_e:Int} (ra:au a) (rb:au b) {x_g:Bool} {x_o:Option Addr} {x_n x_c:Nat} {x_d:Nat->Int} {w:World} (hx:aG w x_o x_n x_c x_d) (H:aA w):∃ (a0 a1 ea ek:Int) (inn:Bool),(∀ W,Below w.heap.size w W->aA W->Calls prog 14 #[.agg #[.bool x_g,.slice x_o x_n x_c,.int .i64 x_e]] W fun e w'=>e=.returned (.tuple #[.agg #[.int .i64 a0,.int .i64 a1],.int .i64 ea])∧Below W.heap.size W w')∧(bV ⟨x_g,x_o,x_n,x_c,x_d,x_e⟩=true->∀ W,Below w.heap.size w W->aA W->Calls prog 21 #[.agg #[.bool x_g,.slice x_o x_n x_c,.int .i64 x_e]] W fun e w'=>e=.returned (.agg #[.int .i64 a0,.int .i64 a1])∧Below W.heap.size W w')∧(∀ W,Below w.heap.size w W->aA W->Calls prog 15 #[.agg #[.int .i64 a,.int .i64 b],.agg #[.bool x_g,.slice x_o x_n x_c,.int .i64 x_e]] W fun e w'=>e=.returned (.tuple #[.bool inn,.int .i64 ek])∧Below W.heap.size W w')∧(br a b=true->bV ⟨x_g,x_o,x_n,x_c,x_d,x_e⟩=true->∀ W,Below w.heap.size w W->aA W->Calls prog 25 #[.agg #[.int .i64 a,.int .i64 b],.agg #[.bool x_g,.slice x_o x_n x_c,.int .i64 x_e]] W fun e w'=>e=.returned (.bool inn)∧Below W.heap.size W w')∧(bV ⟨x_g,x_o,x_n,x_c,x_d,x_e⟩=false->ea=11∧a0=0∧a1=0∧inn=false∧(br a b=true->ek=11))∧(bV ⟨x_g,x_o,x_n,x_c,x_d,x_e⟩=true->ea=0)∧(br a b=false->ek=1∧inn=false)∧(br a b=true->bV ⟨x_g,x_o,x_n,x_c,x_d,x_e⟩=true->ek=0):=by
 cases ho:bV ⟨x_g,x_o,x_n,x_c,x_d,x_e⟩
 ·have CA:=fun W (hW:Below w.heap.size w W)=>tM hx ho W hW
  cases hv:br a b
  ·exact⟨0,0,11,1,false,fun W hW _=>CA W hW,fun h=>Bool.noConfusion h,fun W _ _=>sJ ra rb hv W,fun _ h=>Bool.noConfusion h,fun _=>⟨rfl,rfl,rfl,rfl,fun h=>Bool.noConfusion h⟩,fun h=>Bool.noConfusion h,fun _=>⟨rfl,rfl⟩,fun h=>Bool.noConfusion h⟩
  ·exact⟨0,0,11,11,false,fun W hW _=>CA W hW,fun h=>Bool.noConfusion h,fun W hW _=>zN ra rb hv W (fun W' hW'=>CA W' (aa hW hW')),fun _ h=>Bool.noConfusion h,fun _=>⟨rfl,rfl,rfl,rfl,fun _=>rfl⟩,fun h=>Bool.noConfusion h,fun h=>Bool.noConfusion h,fun _ h=>Bool.noConfusion h⟩
 ·have dn:aX w (.agg #[.bool x_g,.slice x_o x_n x_c,.int .i64 x_e]) (aE.V ⟨x_g,x_o,x_n,x_c,x_d,x_e⟩):=⟨_,_,_,_,rfl,(fC ho).1,_,_,_,_,rfl,hx,(a8 ho).1,rfl⟩
  have ok:=(fC ho).2.2
  generalize aE.V ⟨x_g,x_o,x_n,x_c,x_d,x_e⟩=V at dn ok
  have CA:=fun W (hW:Below w.heap.size w W)=>xp dn ok H W hW
  cases hv:br a b
  ·exact⟨_,_,0,1,false,fun W hW _=>CA W hW,fun _ W hW _=>qG (dn.keeps hW) ok,fun W _ _=>sJ ra rb hv W,fun h=>Bool.noConfusion h,fun h=>Bool.noConfusion h,fun _=>rfl,fun _=>⟨rfl,rfl⟩,fun h=>Bool.noConfusion h⟩
  ·obtain⟨na,nb,-,-,-⟩:=mY ra rb hv
   refine⟨_,_,0,0,qw a b (dZ V) (d6 V),fun W hW _=>CA W hW,fun _ W hW _=>qG (dn.keeps hW) ok,fun W hW _=>zd ra rb (fd V).1 (fd V).2 hv W (fun W' hW'=>CA W' (aa hW hW')),fun _ _ W hW _=>?_,fun h=>Bool.noConfusion h,fun _=>rfl,fun h=>Bool.noConfusion h,fun _ _=>rfl⟩
   rw[Cv na nb]
   exact Cz na nb (dn.keeps hW) ok
theorem zT {a b bb:Int} (ra:au a) (rb:au b) (rbb:au bb) {x:aE} {w:World} (hx:aG w x.ao x.n x.cap x.d) (H:aA w) :
    Calls prog 6 #[.agg #[.int .i64 a,.int .i64 b],.int .i64 bb,x.v] w fun e w'=>e=.returned (.bool true)∧Below w.heap.size w w':=by
  obtain⟨x_g,x_o,x_n,x_c,x_d,x_e⟩:=x
  simp only at hx
  obtain⟨n0,n1,en,q0,q1,eq,sg0,eh,kn,PN,PQ,PS,RN,RQ,RS,v0,v1⟩:=By ra rb w
  obtain⟨o0,o1,eo,PO,RP,f0,f1⟩:=Bz rbb w
  obtain⟨a0,a1,ea,ek,inn,PA,RA,PH,RH,x0,x1,x2,x3⟩:=BB (x_e:=x_e) (x_g:=x_g) ra rb hx H
  have VR:∀ W,Below w.heap.size w W->aA W->Calls prog 10 #[.agg #[.int .i64 a,.int .i64 b]] W fun e w'=>e=.returned (.bool (br a b))∧Below W.heap.size W w':=fun W _ _=>by
    have:=zG ra rb W
    rwa [zl ra rb] at this
  have VC:∀ W,Below w.heap.size w W->aA W->Calls prog 16 #[.agg #[.int .i64 a,.int .i64 b]] W fun e w'=>e=.returned (.bool (br a b))∧Below W.heap.size W w':=fun W _ _=>u9 ra rb W
  have RF:∀ W,Below w.heap.size w W->aA W->Calls prog 17 #[.int .i64 bb] W fun e w'=>e=.returned (.bool (aB bb))∧Below W.heap.size W w':=fun W _ _=>(vJ bb W rbb).mono (fun e w' h=>⟨h.1,h.2 ▸ aq W⟩)
  have RV:∀ W,Below w.heap.size w W->aA W->Calls prog 20 #[.agg #[.bool x_g,.slice x_o x_n x_c,.int .i64 x_e]] W fun e w'=>e=.returned (.bool (bV ⟨x_g,x_o,x_n,x_c,x_d,x_e⟩))∧Below W.heap.size W w':=fun W hW _=>q9 ⟨x_g,x_o,x_n,x_c,x_d,x_e⟩ W (hx.keeps hW)
  exact xB w H VR VC PN PQ PS PO PA PH RF RP RV RA RN RQ RS RH f0 f1 x0 x1 (fun h=>by
    obtain⟨h1,h2,h3,h4,h5,h6,h7,h8,h9⟩:=v0 h
    obtain⟨k1,k2⟩:=x2 h
    exact ⟨h1,h2,h3,h4,h5,h6,h7,h8,h9,k1,k2⟩) v1 x3
theorem rj:prog.cellsOf 23=2:=by kernel_rfl
theorem rl:prog.cellsOf 3=1:=by kernel_rfl
theorem tQ {H:Type} {enc:TypeId × Value->H} {W:World} {n:Nat} {cs:List Value} {x:DataW H × List MemPlace}
  (h:DataW.trod enc prog W 0 (fun _=>true) true n 23 cs=some x) :
  ∃ a b:Int,cs=[.int .i64 a,.int .i64 b]∧au a∧au b:=by
 obtain⟨xs,m,_,rfl,hl,hlen,hf⟩:=DataW.trod_struct underlying23 h
 rw[rj] at hl
 match cs,hl with
 | [v0,v1],_=>
  match xs,hlen with
  | [y0,y1],_=>
   have f0:DataW.trod enc prog W 0 (fun _=>true) true m 3 (([v0,v1].drop 0).take (prog.cellsOf 3))=some y0:=hf 0 _ rfl
   have f1:DataW.trod enc prog W 0 (fun _=>true) true m 3 (([v0,v1].drop 1).take (prog.cellsOf 3))=some y1:=hf 1 _ rfl
   rw[rl] at f0 f1
   simp only[List.drop_zero,List.drop_succ_cons,List.take_succ_cons,List.take_zero] at f0 f1
   obtain⟨k0,e0,_,w0⟩:=DataW.trod_int underlying3 f0
   obtain⟨k1,e1,_,w1⟩:=DataW.trod_int underlying3 f1
   simp at e0 e1
   subst e0 e1
   exact⟨k0,k1,rfl,jA w0,jA w1⟩
theorem zU {H:Type} {enc:TypeId × Value->H} {W:World} {base:Nat} {v:Value} {d:DataW H} {p:List MemPlace} (hv:Value.okWide prog W .any base 23 v)
  (h:DataW.Trod enc prog W 0 (fun _=>true) true 23 v d p):∃ a b:Int,v=.agg #[.int .i64 a,.int .i64 b]∧au a∧au b:=by
 obtain⟨cs,rfl,hc⟩:=okWide_struct underlying23 hv
 obtain⟨fuel,hf⟩:=h
 obtain⟨a,b,hr,h1,h2⟩:=tQ hf
 refine⟨a,b,?_,h1,h2⟩
 congr 1
 have:cs.toList=[.int .i64 a,.int .i64 b]:=by simpa [Value.cells] using hr
 exact Array.toList_inj.1 this
end Go.Proofs.YtkkpppgfoilgmaaGreatDoor
