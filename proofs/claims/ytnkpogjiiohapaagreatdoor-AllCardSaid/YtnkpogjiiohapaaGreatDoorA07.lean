/- Our own text. -/
import Derived.Test.YtnkpogjiiohapaaGreatDoorA02
import Derived.Test.YtnkpogjiiohapaaGreatDoorA06
set_option linter.unusedSimpArgs false
set_option linter.unusedVariables false
set_option maxRecDepth 1000000
set_option maxHeartbeats 400000
namespace Go.Proofs.YtnkpogjiiohapaaGreatDoor
open Go.RowKit Tryz
variable {a d e:Nat}{f:World}
theorem is(w:World)(o:Obj){r:Nat}(h:r<w.heap.size):(w.alloc o).heap[r]?=w.heap[r]?:= @heap_alloc_old w o r h
def qY (x:eP):Value:=.agg #[A x.1,A x.2.1,A x.2.2]
def jX (w:World) (v:Option Nat) (a:List (PId×eP)):Prop:=(v=none/\a=[])\/∃b c d,v=some b/\isMap dC qY w b a c d
structure tk where
 v:Option Nat
 aK:List (PId×eP)
def yd (k:tk):Value:=.map k.v
def uj (w:World) (v:Option Nat) (a:List (ByteArray×tk)):Prop:=((v=none/\a=[])\/∃b c d,v=some b/\isMap p7 yd w b a c d)/\∀p∈a,jX w p.2.v p.2.aK
structure fr where
 aS:Bool
 gQ:Option Nat
 ks:List (ByteArray×tk)
 first :PId
variable {c:List (PId×fr)}
structure eG where
 aS:PId
 next :PId
 v:Option Nat
 aK:List (PId×eP)
variable {b:List (PId×eG)}
def rF (o:fr):Value:=.agg #[.bool o.aS,.map o.gQ,A o.first.1,A o.first.2]
def qZ (e:eG):Value:=.agg #[A e.aS.1,A e.aS.2,A e.next.1,A e.next.2,.map e.v]
structure cW (w:World) (d aF be:Nat) (os:List (PId×fr)) (bk:List (PId×eG)):Prop where
 ao:w.heap[d]?=some (.cells #[.map (some aF),.map (some be)] 174)
 al:∃es aX,isMap dC rF w aF os es aX
 he:∃es aX,isMap dC qZ w be bk es aX
 hk:∀p∈os,uj w p.2.gQ p.2.ks
 aO:∀p∈bk,jX w p.2.v p.2.aK
theorem isMap.ak {κ ν:Type} {c:κ->Value} {d:ν->Value} {w w':World} {b:Nat} {m:List (κ×ν)} {e:Array MapEntry} (h:isMap c d w b m e a) (f:J w w'):isMap c d w' b m e a:=
 ⟨by rw[f.block b h.lt];exact h.bb,h.nK,h.nodup,h.old⟩
theorem jX.ak{w v a}{w':World}(h:jX w v a)(c:J w w'):jX w' v a:=
 h.imp id λ⟨b,d,f,e,g⟩=>⟨b,d,f,e,g.ak c⟩
theorem uj.ak{w v ks}{w':World}(h:uj w v ks)(a:J w w'):uj w' v ks:=
 ⟨h.1.imp id λ⟨b,c,d,e,f⟩=>⟨b,c,d,e,f.ak a⟩,λp g=>(h.2 p g).ak a⟩
theorem cW.ak{w d c e f g}{w':World}(h:cW w d c e f g)(a:J w w'):cW w' d c e f g:=by obtain⟨i,j,k⟩:=h.al;obtain⟨l,m,n⟩:=h.he;refine⟨?_,⟨i,j,k.ak a⟩,⟨l,m,n.ak a⟩,λp b=>(h.hk p b).ak a,λp b=>(h.aO p b).ak a⟩;rw[a.block d (e8.1 h.ao).1];exact h.ao
theorem cW.bw{w}(h:cW w a d e c b):w.cell? (H a)=some (.map (some d)):=by simp[World.cell?,h.ao]
theorem cW.bm{w}(h:cW w a e d c b):w.cell? (K a 1)=some (.map (some d)):=by simp[World.cell?,h.ao]
theorem cW.lt{w}(h:cW w a d e c b):a<w.heap.size:=(e8.1 h.ao).1
theorem ajl(W:World):(zeroValue 170).run prog W=.ok (.agg #[.bool false,.map none,A 0,A 0]) W:=by kernel_rfl
theorem ajm(W:World):(zeroValue 176).run prog W=.ok (.agg #[A 0,A 0,A 0,A 0,.map none]) W:=by kernel_rfl
theorem cW.zw(h:cW f d a e c b)(g i:Int)(ok:Bool):(Instr.lookup 171 (.map (some a)) (.agg #[A g,A i]) ok).run prog f=
  .ok (if ok then .tuple #[((bV (g,i) c).map rF).getD (.agg #[.bool false,.map none,A 0,A 0]),.bool (bV (g,i) c).isSome] else((bV (g,i) c).map rF).getD (.agg #[.bool false,.map none,A 0,A 0])) f:=by
 obtain⟨k,l,j⟩:=h.al;exact Cj AE j underlying171 (ajl f) (g,i) ok
theorem cW.vA(h:cW f d e a c b)(g i:Int)(ok:Bool):(Instr.lookup 172 (.map (some a)) (.agg #[A g,A i]) ok).run prog f=
  .ok (if ok then .tuple #[((bV (g,i) b).map qZ).getD (.agg #[A 0,A 0,A 0,A 0,.map none]),.bool (bV (g,i) b).isSome] else((bV (g,i) b).map qZ).getD (.agg #[A 0,A 0,A 0,A 0,.map none])) f:=by
 obtain⟨k,l,j⟩:=h.he;exact Cj AE j underlying172 (ajm f) (g,i) ok
theorem LM (h:cW f a d e c b) (i j:Int):
  O 89 #[Z a,.agg #[A i,A j]] f λg w'=>g=ad (.bool (bV (i,j) c).isSome)/\J f w':=by
 have p:=h.bw;have q:=h.lt;have k:J f (f.alloc (af i j)).drew:=(aV f _).drew;have l:J f ((f.alloc (af i j)).alloc (.cells #[.bool false,.map none,A 0,A 0] 170)).drew:=((aV f _).alloc (by simp) _).drew;have m:=(h.ak k).zw i j true;have n:=(h.ak l).zw i j true;generalize bV (i,j) c=L at *;cases L with
 |none=>
  go_enter func89,ntmps89;go_wp2;go_region
  all_goals go_wp2
  all_goals go_ret
  all_goals exact⟨rfl,by go_grown⟩
 |some o=>
  simp only[qI,nb,K4,hQ,rF]at m n;go_enter func89,ntmps89;go_wp2;go_region
  all_goals go_wp2
  all_goals go_ret
  all_goals exact⟨rfl,by go_grown⟩
def o0 (x:PId) (a:List (PId×fr)):Bool:=match bV x a with |some o=>o.aS|none=>false
theorem CG (h:cW f a d e c b) (i j:Int):
  O 90 #[Z a,.agg #[A i,A j]] f λg w'=>g=ad (.bool (o0 (i,j) c))/\J f w':=by
 have q:=h.bw;have r:=h.lt;have k:J f (f.alloc (af i j)).drew:=(aV f _).drew;have l:J f ((f.alloc (af i j)).alloc (.cells #[.bool false,.map none,A 0,A 0] 170)).drew:=((aV f _).alloc (by simp) _).drew;have m:=(h.ak k).zw i j true;have n:=(h.ak l).zw i j true;unfold o0;generalize bV (i,j) c=L at *;cases L with
 |none=>
  go_enter func90,ntmps90;go_wp2;go_region
  all_goals go_wp2
  all_goals go_ret
  all_goals exact⟨rfl,by go_grown⟩
 |some o=>
  obtain⟨p,ok,s,t⟩:=o;simp only[qI,nb,K4,hQ,rF]at m n;cases p
  all_goals go_enter func90,ntmps90
  all_goals go_wp2
  all_goals go_region
  all_goals go_wp2
  all_goals go_ret
  all_goals exact⟨rfl,by go_grown⟩
