/-
  plumblaw8.ones is true at any interval, pattern and number.
-/
import Derived.Test.YtkkpppgfoilgmaaGreatDoorPart32
import Derived.Test.YtkkpppgfoilgmaaGreatDoorPart33
import Derived.Test.YtkkpppgfoilgmaaGreatDoorPart34
import Derived.Test.YtkkpppgfoilgmaaGreatDoorPart35
import Derived.Test.YtkkpppgfoilgmaaGreatDoorPart17
import Derived.Test.YtkkpppgfoilgmaaGreatDoorPart16
import Derived.Test.YtkkpppgfoilgmaaGreatDoorPart36
set_option maxRecDepth 100000
set_option maxHeartbeats 8000000
set_option linter.unusedVariables false
set_option linter.unusedSimpArgs false
namespace Go.Proofs.YtkkpppgfoilgmaaGreatDoor
open Go Go.Proofs.Tryz Go.ChangeShapes Go.WideShapes Go.ChangeAt Go.RowKit Go.Proofs.YtkkpppgfoilgmaaGreatDoor.M
theorem Gd {a b:Int} (na:nn a) (nb:nn b) (w:World) :
  Calls prog 24 #[.agg #[.int .i64 a,.int .i64 b]] w fun e w'=>e=.returned (.agg #[.int .i64 (a6 (eH (ag a) (ag b))),.int .i64 (a7 (fe (ag a) (ag b)))])∧Below w.heap.size w w':=by
 by_cases h1:a5 (ag a)<=0
 ·by_cases h2:0<=a5 (ag b)
  ·exact FD na nb h1 h2 w
  ·exact FC na nb h1 h2 w
 ·exact FB na nb h1 w
theorem Ey {a b:Int} (ra:au a) (rb:au b) (w:World):∃ (n0 n1 en q0 q1 eq sg0 eh:Int) (kn:Bool),(∀ W,Below w.heap.size w W->ax W->Calls prog 11 #[.agg #[.int .i64 a,.int .i64 b]] W fun e w'=>e=.returned (.tuple #[.agg #[.int .i64 n0,.int .i64 n1],.int .i64 en])∧Below W.heap.size W w')∧(∀ W,Below w.heap.size w W->ax W->Calls prog 12 #[.agg #[.int .i64 a,.int .i64 b]] W fun e w'=>e=.returned (.tuple #[.agg #[.int .i64 q0,.int .i64 q1],.int .i64 eq])∧Below W.heap.size W w')∧(∀ W,Below w.heap.size w W->ax W->Calls prog 9 #[.agg #[.int .i64 a,.int .i64 b]] W fun e w'=>e=.returned (.tuple #[.int .i64 sg0,.bool kn,.int .i64 eh])∧Below W.heap.size W w')∧(aK a b=true->∀ W,Below w.heap.size w W->ax W->Calls prog 23 #[.agg #[.int .i64 a,.int .i64 b]] W fun e w'=>e=.returned (.agg #[.int .i64 n0,.int .i64 n1])∧Below W.heap.size W w')∧(aK a b=true->∀ W,Below w.heap.size w W->ax W->Calls prog 24 #[.agg #[.int .i64 a,.int .i64 b]] W fun e w'=>e=.returned (.agg #[.int .i64 q0,.int .i64 q1])∧Below W.heap.size W w')∧(aK a b=true->∀ W,Below w.heap.size w W->ax W->Calls prog 22 #[.agg #[.int .i64 a,.int .i64 b]] W fun e w'=>e=.returned (.tuple #[.int .i64 sg0,.bool kn])∧Below W.heap.size W w')∧(aK a b=false->n0=0∧n1=0∧en=1∧q0=0∧q1=0∧eq=1∧eh=1∧sg0=0∧kn=false)∧(aK a b=true->en=0∧eq=0∧eh=0):=by
 cases hv:aK a b
 ·refine⟨0,0,1,0,0,1,0,1,false,fun W _ HW=>?_,fun W _ HW=>?_,fun W _ HW=>?_,fun h=>Bool.noConfusion h,fun h=>Bool.noConfusion h,fun h=>Bool.noConfusion h,fun _=>⟨rfl,rfl,rfl,rfl,rfl,rfl,rfl,rfl,rfl⟩,fun h=>Bool.noConfusion h⟩
  ·have:=tc ra rb W HW;rw[hv] at this;exact this
  ·have:=nD ra rb W HW;rw[hv] at this;exact this
  ·have:=qC ra rb W
   have h1:o6 a b=0:=by unfold o6;rw[hv];rfl
   have h2:mJ a b=false:=by unfold mJ;rw[hv];rfl
   rw[hv,h1,h2] at this;exact this
 ·obtain⟨na,nb,-,-,-⟩:=dT ra rb hv
  refine⟨_,_,0,_,_,0,_,0,_,fun W _ HW=>?_,fun W _ HW=>?_,fun W _ HW=>?_,fun _ W _ _=>AI na nb W,fun _ W _ _=>Gd na nb W,fun _ W _ _=>Fz na nb hv W,fun h=>Bool.noConfusion h,fun _=>⟨rfl,rfl,rfl⟩⟩
  ·have:=tc ra rb W HW;rw[hv] at this;exact this
  ·have:=nD ra rb W HW;rw[hv] at this;exact this
  ·have:=qC ra rb W;rw[hv] at this;exact this
theorem Ez {bb:Int} (rb:au bb) (w:World):∃ (o0 o1 eo:Int),(∀ W,Below w.heap.size w W->ax W->Calls prog 13 #[.int .i64 bb] W fun e w'=>e=.returned (.tuple #[.agg #[.int .i64 o0,.int .i64 o1],.int .i64 eo])∧Below W.heap.size W w')∧(aC bb=true->∀ W,Below w.heap.size w W->ax W->Calls prog 19 #[.int .i64 bb] W fun e w'=>e=.returned (.agg #[.int .i64 o0,.int .i64 o1])∧Below W.heap.size W w')∧(aC bb=false->eo=10∧o0=0∧o1=0)∧(aC bb=true->eo=0):=by
 cases hv:aC bb
 ·exact⟨0,0,10,fun W _ HW=>Cu hv W HW,fun h=>Bool.noConfusion h,fun _=>⟨rfl,rfl,rfl⟩,fun h=>Bool.noConfusion h⟩
 ·exact⟨_,_,0,fun W _ HW=>Ew rb hv W HW,fun _ W _ _=>Cl (⟨rb,cN rb hv⟩) W,fun h=>Bool.noConfusion h,fun _=>rfl⟩
theorem EB {a b x_e:Int} (ra:au a) (rb:au b) {x_g:Bool} {x_o:Option Addr} {x_n x_c:Nat} {x_d:Nat->Int} {w:World} (hx:aL w x_o x_n x_c x_d) (H:ax w):∃ (a0 a1 ea ek:Int) (inn:Bool),(∀ W,Below w.heap.size w W->ax W->Calls prog 14 #[.agg #[.bool x_g,.slice x_o x_n x_c,.int .i64 x_e]] W fun e w'=>e=.returned (.tuple #[.agg #[.int .i64 a0,.int .i64 a1],.int .i64 ea])∧Below W.heap.size W w')∧(cr ⟨x_g,x_o,x_n,x_c,x_d,x_e⟩=true->∀ W,Below w.heap.size w W->ax W->Calls prog 21 #[.agg #[.bool x_g,.slice x_o x_n x_c,.int .i64 x_e]] W fun e w'=>e=.returned (.agg #[.int .i64 a0,.int .i64 a1])∧Below W.heap.size W w')∧(∀ W,Below w.heap.size w W->ax W->Calls prog 15 #[.agg #[.int .i64 a,.int .i64 b],.agg #[.bool x_g,.slice x_o x_n x_c,.int .i64 x_e]] W fun e w'=>e=.returned (.tuple #[.bool inn,.int .i64 ek])∧Below W.heap.size W w')∧(aK a b=true->cr ⟨x_g,x_o,x_n,x_c,x_d,x_e⟩=true->∀ W,Below w.heap.size w W->ax W->Calls prog 25 #[.agg #[.int .i64 a,.int .i64 b],.agg #[.bool x_g,.slice x_o x_n x_c,.int .i64 x_e]] W fun e w'=>e=.returned (.bool inn)∧Below W.heap.size W w')∧(cr ⟨x_g,x_o,x_n,x_c,x_d,x_e⟩=false->ea=11∧a0=0∧a1=0∧inn=false∧(aK a b=true->ek=11))∧(cr ⟨x_g,x_o,x_n,x_c,x_d,x_e⟩=true->ea=0)∧(aK a b=false->ek=1∧inn=false)∧(aK a b=true->cr ⟨x_g,x_o,x_n,x_c,x_d,x_e⟩=true->ek=0):=by
 cases ho:cr ⟨x_g,x_o,x_n,x_c,x_d,x_e⟩
 ·have CA:=fun W (hW:Below w.heap.size w W)=>vV hx ho W hW
  cases hv:aK a b
  ·exact⟨0,0,11,1,false,fun W hW _=>CA W hW,fun h=>Bool.noConfusion h,fun W _ _=>uG ra rb hv W,fun _ h=>Bool.noConfusion h,fun _=>⟨rfl,rfl,rfl,rfl,fun h=>Bool.noConfusion h⟩,fun h=>Bool.noConfusion h,fun _=>⟨rfl,rfl⟩,fun h=>Bool.noConfusion h⟩
  ·exact⟨0,0,11,11,false,fun W hW _=>CA W hW,fun h=>Bool.noConfusion h,fun W hW _=>Ct ra rb hv W (fun W' hW'=>CA W' (ab hW hW')),fun _ h=>Bool.noConfusion h,fun _=>⟨rfl,rfl,rfl,rfl,fun _=>rfl⟩,fun h=>Bool.noConfusion h,fun h=>Bool.noConfusion h,fun _ h=>Bool.noConfusion h⟩
 ·have dn:bk w (.agg #[.bool x_g,.slice x_o x_n x_c,.int .i64 x_e]) (aI.V ⟨x_g,x_o,x_n,x_c,x_d,x_e⟩):=⟨_,_,_,_,rfl,(gQ ho).1,_,_,_,_,rfl,hx,(bG ho).1,rfl⟩
  have ok:=(gQ ho).2.2
  generalize aI.V ⟨x_g,x_o,x_n,x_c,x_d,x_e⟩=V at dn ok
  have CA:=fun W (hW:Below w.heap.size w W)=>zW dn ok H W hW
  cases hv:aK a b
  ·exact⟨_,_,0,1,false,fun W hW _=>CA W hW,fun _ W hW _=>tf (dn.keeps hW) ok,fun W _ _=>uG ra rb hv W,fun h=>Bool.noConfusion h,fun h=>Bool.noConfusion h,fun _=>rfl,fun _=>⟨rfl,rfl⟩,fun h=>Bool.noConfusion h⟩
  ·obtain⟨na,nb,-,-,-⟩:=dT ra rb hv
   refine⟨_,_,0,0,sX a b (eR V) (eS V),fun W hW _=>CA W hW,fun _ W hW _=>tf (dn.keeps hW) ok,fun W hW _=>BQ ra rb (gm V).1 (gm V).2 hv W (fun W' hW'=>CA W' (ab hW hW')),fun _ _ W hW _=>?_,fun h=>Bool.noConfusion h,fun _=>rfl,fun h=>Bool.noConfusion h,fun _ _=>rfl⟩
   rw[Fw na nb]
   exact FA na nb (dn.keeps hW) ok
theorem Cz {a b bb:Int} (ra:au a) (rb:au b) (rbb:au bb) {x:aI} {w:World} (hx:aL w x.ao x.n x.cap x.d) (H:ax w) :
    Calls prog 6 #[.agg #[.int .i64 a,.int .i64 b],.int .i64 bb,x.v] w fun e w'=>e=.returned (.bool true)∧Below w.heap.size w w':=by
  obtain⟨x_g,x_o,x_n,x_c,x_d,x_e⟩:=x
  simp only at hx
  obtain⟨n0,n1,en,q0,q1,eq,sg0,eh,kn,PN,PQ,PS,RN,RQ,RS,v0,v1⟩:=Ey ra rb w
  obtain⟨o0,o1,eo,PO,RP,f0,f1⟩:=Ez rbb w
  obtain⟨a0,a1,ea,ek,inn,PA,RA,PH,RH,x0,x1,x2,x3⟩:=EB (x_e:=x_e) (x_g:=x_g) ra rb hx H
  have VR:∀ W,Below w.heap.size w W->ax W->Calls prog 10 #[.agg #[.int .i64 a,.int .i64 b]] W fun e w'=>e=.returned (.bool (aK a b))∧Below W.heap.size W w':=fun W _ _=>by
    have:=pQ ra rb W
    rwa [pN ra rb] at this
  have VC:∀ W,Below w.heap.size w W->ax W->Calls prog 16 #[.agg #[.int .i64 a,.int .i64 b]] W fun e w'=>e=.returned (.bool (aK a b))∧Below W.heap.size W w':=fun W _ _=>xH ra rb W
  have RF:∀ W,Below w.heap.size w W->ax W->Calls prog 17 #[.int .i64 bb] W fun e w'=>e=.returned (.bool (aC bb))∧Below W.heap.size W w':=fun W _ _=>(yk bb W rbb).mono (fun e w' h=>⟨h.1,h.2 ▸ ap W⟩)
  have RV:∀ W,Below w.heap.size w W->ax W->Calls prog 20 #[.agg #[.bool x_g,.slice x_o x_n x_c,.int .i64 x_e]] W fun e w'=>e=.returned (.bool (cr ⟨x_g,x_o,x_n,x_c,x_d,x_e⟩))∧Below W.heap.size W w':=fun W hW _=>tB ⟨x_g,x_o,x_n,x_c,x_d,x_e⟩ W (hx.keeps hW)
  exact Ad w H VR VC PN PQ PS PO PA PH RF RP RV RA RN RQ RS RH f0 f1 x0 x1 (fun h=>by
    obtain⟨h1,h2,h3,h4,h5,h6,h7,h8,h9⟩:=v0 h
    obtain⟨k1,k2⟩:=x2 h
    exact ⟨h1,h2,h3,h4,h5,h6,h7,h8,h9,k1,k2⟩) v1 x3
end Go.Proofs.YtkkpppgfoilgmaaGreatDoor
