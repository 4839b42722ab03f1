/- Our own text. -/
import Derived.Test.YtnkpogjiiohapaaGreatDoorA02
import Derived.Test.YtnkpogjiiohapaaGreatDoorA06
set_option linter.unusedSimpArgs false
set_option linter.unusedVariables false
set_option maxRecDepth 1000000
set_option maxHeartbeats 400000
namespace Go.Proofs.YtnkpogjiiohapaaGreatDoor
open Go.RowKit Tryz
variable {a d e:Nat}{f:World}
theorem hK(w:World)(o:Obj){r:Nat}(h:r<w.heap.size):(w.alloc o).heap[r]?=w.heap[r]?:= @heap_alloc_old w o r h
def oX (x:dU):Value:=.agg #[A x.1,A x.2.1,A x.2.2]
def iG (w:World) (v:Option Nat) (a:List (PId×dU)):Prop:=(v=none/\a=[])\/∃b c d,v=some b/\isMap c0 oX w b a c d
structure q4 where
 v:Option Nat
 aC:List (PId×dU)
def ve (k:q4):Value:=.map k.v
def rT (w:World) (v:Option Nat) (a:List (ByteArray×q4)):Prop:=((v=none/\a=[])\/∃b c d,v=some b/\isMap nL ve w b a c d)/\∀p∈a,iG w p.2.v p.2.aC
structure eO where
 list:Bool
 fG:Option Nat
 ks:List (ByteArray×q4)
 first :PId
variable {c:List (PId×eO)}
structure dR where
 list:PId
 next :PId
 v:Option Nat
 aC:List (PId×dU)
variable {b:List (PId×dR)}
def pL (o:eO):Value:=.agg #[.bool o.list,.map o.fG,A o.first.1,A o.first.2]
def oY (e:dR):Value:=.agg #[A e.list.1,A e.list.2,A e.next.1,A e.next.2,.map e.v]
structure cz (w:World) (d aB be:Nat) (os:List (PId×eO)) (ba:List (PId×dR)):Prop where
 ai:w.heap[d]?=some (.cells #[.map (some aB),.map (some be)] 174 (0,0))
 af:∃es aT,isMap c0 pL w aB os es aT
 he:∃es aT,isMap c0 oY w be ba es aT
 hk:∀p∈os,rT w p.2.fG p.2.ks
 aF:∀p∈ba,iG w p.2.v p.2.aC
theorem isMap.ae {κ ν:Type} {c:κ->Value} {d:ν->Value} {w w':World} {b:Nat} {m:List (κ×ν)} {e:Array MapEntry} (h:isMap c d w b m e a) (f:J w w'):isMap c d w' b m e a:=
 ⟨by rw[f.block b h.lt];exact h.blk,h.mG,h.nodup,h.old⟩
theorem iG.ae{w v a}{w':World}(h:iG w v a)(c:J w w'):iG w' v a:=
 h.imp id fun⟨b,d,f,e,g⟩=>⟨b,d,f,e,g.ae c⟩
theorem rT.ae{w v ks}{w':World}(h:rT w v ks)(a:J w w'):rT w' v ks:=
 ⟨h.1.imp id fun⟨b,c,d,e,f⟩=>⟨b,c,d,e,f.ae a⟩,fun p g=>(h.2 p g).ae a⟩
theorem cz.ae{w d c e f g}{w':World}(h:cz w d c e f g)(a:J w w'):cz w' d c e f g:=by
 obtain⟨i,j,k⟩:=h.af;obtain⟨l,m,n⟩:=h.he;refine⟨?_,⟨i,j,k.ae a⟩,⟨l,m,n.ae a⟩,fun p b=>(h.hk p b).ae a,fun p b=>(h.aF p b).ae a⟩;rw[a.block d (ap8.1 h.ai).1];exact h.ai
theorem cz.bf{w}(h:cz w a d e c b):w.cell? (H a)=some (.map (some d)):=by simp[World.cell?,h.ai]
theorem cz.a6{w}(h:cz w a e d c b):w.cell? (K a 1)=some (.map (some d)):=by simp[World.cell?,h.ai]
theorem cz.lt{w}(h:cz w a d e c b):a<w.heap.size:=(ap8.1 h.ai).1
theorem adY(W:World):(zeroValue 170).run prog W=.ok (.agg #[.bool false,.map none,A 0,A 0]) W:=by kernel_rfl
theorem adZ(W:World):(zeroValue 176).run prog W=.ok (.agg #[A 0,A 0,A 0,A 0,.map none]) W:=by kernel_rfl
theorem cz.wK(h:cz f d a e c b)(g i:Int)(ok:Bool):(Instr.lookup 171 (.map (some a)) (.agg #[A g,A i]) ok).run prog f=
  .ok (if ok then .tuple #[((bC (g,i) c).map pL).getD (.agg #[.bool false,.map none,A 0,A 0]),.bool (bC (g,i) c).isSome] else((bC (g,i) c).map pL).getD (.agg #[.bool false,.map none,A 0,A 0])) f:=by
 obtain⟨k,l,j⟩:=h.af;exact yZ xK j underlying171 (adY f) (g,i) ok
theorem cz.sQ(h:cz f d e a c b)(g i:Int)(ok:Bool):(Instr.lookup 172 (.map (some a)) (.agg #[A g,A i]) ok).run prog f=
  .ok (if ok then .tuple #[((bC (g,i) b).map oY).getD (.agg #[A 0,A 0,A 0,A 0,.map none]),.bool (bC (g,i) b).isSome] else((bC (g,i) b).map oY).getD (.agg #[A 0,A 0,A 0,A 0,.map none])) f:=by
 obtain⟨k,l,j⟩:=h.he;exact yZ xK j underlying172 (adZ f) (g,i) ok
theorem HF(h:cz f a d e c b)(i j:Int):
  O 89 #[Z a,.agg #[A i,A j]] f fun g w'=>g=.returned (.bool (bC (i,j) c).isSome)/\J f w':=by
 have p:=h.bf;have q:=h.lt;have k:J f (f.alloc (.cells #[A i,A j] 36)).drew:=((apY _ f).alloc (apX _) _).drew;have l:J f ((f.alloc (.cells #[A i,A j] 36)).alloc (.cells #[.bool false,.map none,A 0,A 0] 170)).drew:=(((apY _ f).alloc (apX _) _).alloc (by simp) _).drew;have m:=(h.ae k).wK i j true;have n:=(h.ae l).wK i j true;clear h k l;generalize bC (i,j) c=L at *;cases L with
 |none=>
  simp only[arC,ar6,asz,if_true]at m n;go_enter func89,ntmps89;go_wp2;go_region
  all_goals go_wp2
  all_goals go_ret
  all_goals exact⟨rfl,by go_grown⟩
 |some o=>
  simp only[aqJ,aqu,arV,if_true,pL]at m n;go_enter func89,ntmps89;go_wp2;go_region
  all_goals go_wp2
  all_goals go_ret
  all_goals exact⟨rfl,by go_grown⟩
def nr (x:PId) (a:List (PId×eO)):Bool:=match bC x a with |some o=>o.list|none=>false
theorem zl(h:cz f a d e c b)(i j:Int):
  O 90 #[Z a,.agg #[A i,A j]] f fun g w'=>g=.returned (.bool (nr (i,j) c))/\J f w':=by
 have q:=h.bf;have r:=h.lt;have k:J f (f.alloc (.cells #[A i,A j] 36)).drew:=((apY _ f).alloc (apX _) _).drew;have l:J f ((f.alloc (.cells #[A i,A j] 36)).alloc (.cells #[.bool false,.map none,A 0,A 0] 170)).drew:=(((apY _ f).alloc (apX _) _).alloc (by simp) _).drew;have m:=(h.ae k).wK i j true;have n:=(h.ae l).wK i j true;clear h k l;unfold nr;generalize bC (i,j) c=L at *;cases L with
 |none=>
  simp only[arC,ar6,asz,if_true]at m n;go_enter func90,ntmps90;go_wp2;go_region
  all_goals go_wp2
  all_goals go_ret
  all_goals exact⟨rfl,by go_grown⟩
 |some o=>
  obtain⟨p,ok,s,t⟩:=o;simp only[aqJ,aqu,arV,if_true,pL]at m n;cases p
  all_goals go_enter func90,ntmps90
  all_goals go_wp2
  all_goals go_region
  all_goals go_wp2
  all_goals go_ret
  all_goals exact⟨rfl,by go_grown⟩
end Go.Proofs.YtnkpogjiiohapaaGreatDoor
