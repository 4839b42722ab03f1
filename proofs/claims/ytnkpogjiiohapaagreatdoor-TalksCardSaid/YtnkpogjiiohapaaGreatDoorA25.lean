/- Our own text. -/
import Derived.Test.YtnkpogjiiohapaaGreatDoorA24
import Derived.Test.YtnkpogjiiohapaaGreatDoorA16
set_option linter.unusedSimpArgs false
set_option linter.unusedVariables false
set_option maxRecDepth 1000000
set_option maxHeartbeats 4000000
namespace Go.Proofs.YtnkpogjiiohapaaGreatDoor
section
open Go.RowKit Tryz
attribute [local go_sem ↓] Go.wp_at_zero Go.wp_at_succ
variable {a h k l:Nat}{b:Nat->List av}{d i:Nat->Prop}{e m n:World}{f:dc}{j:bO}
def fg (s:bO) (c:Nat) (chg:kS) (t:TypeId) (v:Value):bO:=l4 s c (s.gt c+1) (upd (s.has c) c (s.has c c+1)) (s.ops c++[ke c (s.gt c) (s.has c) chg t v]) (s.kept c++[ke c (s.gt c) (s.has c) chg t v]) (s.early c)
def qx (r N e:Nat) (F I:Nat->Prop) (w a:World) (f:Nat->Nat) (M:Nat->List av) (s:bO):Prop:=∃b c d,dJ a r b c N e M s d/\d.ei=f/\c0 F b w a/\DL I c w a
def Is (r N b:Nat) (F I:Nat->Prop) (w d:World) (e:Nat->Nat) (M:Nat->List av) (s:bO) (c:Nat) (a:kS):Prop:=s.has c c<60/\∃t v,qx r N b F I w d e (pP M c (ke c (s.gt c) (s.has c) a t v)) (fg s c a t v)
def ahU (r N g:Nat) (F I:Nat->Prop) (M:Nat->List av) (s:bO) (x:dc) (c:Nat) (a b n:Int) (d:ByteArray) (w:World) (e:Ending) (h:World):Prop:=
   (∃m,(lQ (cn (s.ops c)) (a,b) d=.error m\/(m=8/\(∃o,bl (cn (s.ops c)) (a,b)=some o/\o.list=false/\km d=true)/\¬s.has c c<60))/\e=.returned (A m)/\qx r N g F I w h x.ei M s)\/
   (∃o f,bl (cn (s.ops c)) (a,b)=some o/\o.list=false/\km d=true/\f.Perm ((eY (x.q c).D.1 (x.q c).D.2 (a,b) d (0,0)).aB.map (·.1))/\mR f/\e=.returned (A 0)/\Is r N g F I w h x.ei M s c (.inr (.inr (.inl ((a,b),d,(0,0),(n,(0,0)),f)))))
def ahV (r N f:Nat) (F I:Nat->Prop) (M:Nat->List av) (s:bO) (x:dc) (c:Nat) (a b i n:Int) (w:World) (e:Ending) (g:World):Prop:=
   (∃m,(iM (cn (s.ops c)) (a,b)=.error m\/(m=7/\∃o,bl (cn (s.ops c)) (a,b)=some o/\o.list=true/\(i<0\/((dw o).length:Int)<=i))\/((m=8/\¬s.has c c<60)/\∃o,bl (cn (s.ops c)) (a,b)=some o/\o.list=true/\¬(i<0\/((dw o).length:Int)<=i)))/\e=.returned (A m)/\qx r N f F I w g x.ei M s)\/
   (∃o y d,bl (cn (s.ops c)) (a,b)=some o/\o.list=true/\¬(i<0\/((dw o).length:Int)<=i)/\(dw o)[i.toNat]?=some y/\d.Perm ((eY (x.q c).D.1 (x.q c).D.2 (a,b) ⟨#[]⟩ y).aB.map (·.1))/\mR d/\e=.returned (A 0)/\Is r N f F I w g x.ei M s c (.inr (.inr (.inl ((a,b),⟨#[]⟩,y,(n,(0,0)),d)))))
def ahW (r N f:Nat) (F I:Nat->Prop) (M:Nat->List av) (s:bO) (x:dc) (c:Nat) (a b i:Int) (w:World) (e:Ending) (g:World):Prop:=
   (∃m,(iM (cn (s.ops c)) (a,b)=.error m\/(m=7/\∃o,bl (cn (s.ops c)) (a,b)=some o/\o.list=true/\(i<0\/((dw o).length:Int)<=i))\/(m=8/\(∃o,bl (cn (s.ops c)) (a,b)=some o/\o.list=true/\¬(i<0\/((dw o).length:Int)<=i))/\¬s.has c c<60))/\e=.returned (A m)/\qx r N f F I w g x.ei M s)\/
   (∃o y d,bl (cn (s.ops c)) (a,b)=some o/\o.list=true/\¬(i<0\/((dw o).length:Int)<=i)/\(dw o)[i.toNat]?=some y/\d.Perm ((eY (x.q c).D.1 (x.q c).D.2 (a,b) ⟨#[]⟩ y).aB.map (·.1))/\mR d/\e=.returned (A 0)/\Is r N f F I w g x.ei M s c (.inr (.inr (.inr ((a,b),⟨#[]⟩,y,d)))))
theorem dJ.left{w}(c:dJ w a d i h k b j f)(n:J w e):qx a h k d i w e f.ei b j:=⟨d,i,f,c.af n,rfl,c0.cQ n,fun g l=>⟨l,n.block g (c.m.cJ g l)⟩,fun _ l=>.inl l⟩
theorem dJ.L8{u r}(c:dJ e l i d h k b j f)(p:J e n)(s:a<h)(z:j.has a a<60)(B:Ik (b a) r)(C:yh (f.ia a) d h k a (f.ei a) (j.gt a) (j.has a) (j.kept a) (j.early a) (f.q a) n u r):Is l h k i d e u f.ei b j a r:=by
 obtain⟨t,v,Q,D,R,E,F,I,w,x⟩:=C;have L:=c.m.af p;obtain⟨M,N,y,P,_⟩:=L.QL s E I w x F (ops':=j.ops a++[ke a (j.gt a) (j.has a) r t v]) (by rw[c.m.mU a s,apf]);have S:=c.ok.own a s;refine⟨z,t,v,_,D,M,⟨N,c.ok.wrote s (by omega) r t v,c.md.wrote B⟩,P,y.before p,fun g o=>⟨w g o,?_⟩,fun g o=>(x g o).imp id fun c=>aoS p.size c⟩;exact(y.other g (aoV (c.m.cJ g o) p.size) (c.m.eT g o)).trans (p.block g (c.m.cJ g o))
theorem ahX(c:dJ e h d i k l b j f)(u:a<k)(p q n:Int)(t:ByteArray)(P:t.size<=maxLen):
  O 23 #[Z h,A a,.agg #[A p,A q],.string t,A n] e fun g Q=>ahU h k l d i b j f a p q n t e g Q:=by
 have C:=aa ((aoQ e.heap.size e).alloc (aoP _) (.cells #[A p,A q] 36));have R:=aa (L6 (c.af C.o) a u p q t P);have cU:=aa (bL e (.cells #[A p,A q] 36));have S:=aa (fun W (v:J e W)=>Yt ((c.af v).m.eM a u) (c.ui u) (p,q) (0,0) t n);have D:=aa c;clear c;go_enter func23,ntmps23;go_wp2_with fail
 refine R.o.mono ?_;rintro g w1 ⟨F,U⟩;have E:=aa (C.o.trans (F.mono C.o.size));clear F;have I:=E.o.size;rcases U with⟨m,X,r,rfl⟩|⟨o,L,M,N,Y,rfl⟩
 ·have cG:=aa r;clear r
  rcases X with rfl|rfl|rfl
  all_goals go_wp2
  all_goals go_ret
  all_goals exact(show _\/_ from .inl ⟨_,.inl cG.o,rfl,D.o.left (E.o.alloc I _)⟩)
 ·have w:=aa (And.intro L (And.intro M N));clear Y
  have x:=aa (E.o.alloc I (.cells #[A p,A q,.string t,A 0,A 0] 97));have hT:=aa (S.o _ x.o);clear L M N;go_wp2_with fail
  refine hT.o.mono ?_;rintro g w2 (⟨s,rfl,ss,r,y,z⟩|⟨s,rfl,v⟩)
  ·have B:=aa (And.intro s (And.intro r (And.intro y z)));clear z s r y
   go_wp2;go_ret
   obtain⟨s,r,y,z⟩:=B.o;exact(show _\/_ from .inr ⟨o,ss,w.o.1,w.o.2.1,w.o.2.2,r,y,rfl,D.o.L8 x.o u s ⟨fun _=>rfl,.inl rfl⟩ z⟩)
  ·have B:=aa (And.intro s (x.o.trans (v.mono x.o.size)));clear v s
   go_wp2;go_ret
   exact(show _\/_ from .inl ⟨8,.inr ⟨rfl,⟨o,w.o⟩,Int.not_lt.2 B.o.1⟩,rfl,D.o.left B.o.2⟩)
theorem ahY(c:dJ e h d i k l b j f)(w:a<k)(t u g n:Int):
  O 33 #[Z h,A a,.agg #[A t,A u],A g,A n] e fun p U=>ahV h k l d i b j f a t u g n e p U:=by
 have M:=aa ((aoQ e.heap.size e).alloc (aoP _) (.cells #[A t,A u] 36));have X:=aa (YJ (c.af M.o) a w t u g);have Y:=aa (fun W (x:J e W) (y:PId)=>Yt ((c.af x).m.eM a w) (c.ui w) (t,u) y ⟨#[]⟩ n);have z:=aa c;clear c;go_enter func33,ntmps33;go_wp2_with fail
 refine X.o.mono ?_;rintro p w1 ⟨Q,dT⟩;have B:=aa (M.o.trans (Q.mono M.o.size));clear Q;have N:=B.o.size;rcases dT with⟨m,hm,q,rfl⟩|⟨o,C,D,R,⟨v,rfl⟩|⟨v,y,S,rfl⟩⟩
 ·have P:=aa q;clear q
  rcases hm with rfl|rfl
  all_goals go_wp2
  all_goals go_ret
  all_goals exact(show _\/_ from .inl ⟨_,.inl P.o,rfl,z.o.left (B.o.alloc N _)⟩)
 ·have P:=aa (And.intro C (And.intro D v));clear R C D v
  go_wp2;go_ret
  exact(show _\/_ from .inl ⟨_,.inr (.inl ⟨rfl,o,P.o⟩),rfl,z.o.left (B.o.alloc N _)⟩)
 ·have r:=aa (And.intro C (And.intro D (And.intro v S)))
  have E:=aa (B.o.alloc N (.cells #[A t,A u,.string ⟨#[]⟩,A y.1,A y.2] 97));have hT:=aa (Y.o _ E.o y);clear C D R v S;go_wp2_with fail
  refine hT.o.mono ?_;rintro p w2 (⟨s,rfl,ss,q,F,I⟩|⟨s,rfl,x⟩)
  ·have L:=aa (And.intro s (And.intro q (And.intro F I)));clear I s q F
   go_wp2;go_ret
   obtain⟨s,q,F,I⟩:=L.o;exact(show _\/_ from .inr ⟨o,y,ss,r.o.1,r.o.2.1,r.o.2.2.1,r.o.2.2.2,q,F,rfl,z.o.L8 E.o w s ⟨fun br=>absurd rfl br,.inl rfl⟩ I⟩)
  ·have L:=aa (And.intro s (E.o.trans (x.mono E.o.size)));clear x s
   go_wp2;go_ret
   exact(show _\/_ from .inl ⟨8,.inr (.inr ⟨⟨rfl,Int.not_lt.2 L.o.1⟩,o,r.o.1,r.o.2.1,r.o.2.2.1⟩),rfl,z.o.left L.o.2⟩)
theorem ahZ(c:dJ e h d i k l b j f)(v:a<k)(s t g:Int):
  O 34 #[Z h,A a,.agg #[A s,A t],A g] e fun n S=>ahW h k l d i b j f a s t g e n S:=by
 have L:=aa ((aoQ e.heap.size e).alloc (aoP _) (.cells #[A s,A t] 36));have U:=aa (YJ (c.af L.o) a v s t g);have X:=aa (fun W (w:J e W) (y:PId)=>Yu ((c.af w).m.eM a v) (c.ui v) (s,t) y ⟨#[]⟩);have x:=aa c;clear c;go_enter func34,ntmps34;go_wp2_with fail
 refine U.o.mono ?_;rintro n w1 ⟨P,Y⟩;have z:=aa (L.o.trans (P.mono L.o.size));clear P;have M:=z.o.size;rcases Y with⟨m,hm,p,rfl⟩|⟨o,B,C,Q,⟨u,rfl⟩|⟨u,y,R,rfl⟩⟩
 ·have N:=aa p;clear p
  rcases hm with rfl|rfl
  all_goals go_wp2
  all_goals go_ret
  all_goals exact(show _\/_ from .inl ⟨_,.inl N.o,rfl,x.o.left (z.o.alloc M _)⟩)
 ·have N:=aa (And.intro B (And.intro C u));clear Q B C u
  go_wp2;go_ret
  exact(show _\/_ from .inl ⟨_,.inr (.inl ⟨rfl,o,N.o⟩),rfl,x.o.left (z.o.alloc M _)⟩)
 ·have q:=aa (And.intro B (And.intro C (And.intro u R)))
  have D:=aa (z.o.alloc M (.cells #[A s,A t,.string ⟨#[]⟩,A y.1,A y.2] 97));have hT:=aa (X.o _ D.o y);clear B C Q u R;go_wp2_with fail
  refine hT.o.mono ?_;rintro n w2 (⟨r,rfl,ss,p,E,F⟩|⟨r,rfl,w⟩)
  ·have I:=aa (And.intro r (And.intro p (And.intro E F)));clear F r p E
   go_wp2;go_ret
   obtain⟨r,p,E,F⟩:=I.o;exact(show _\/_ from .inr ⟨o,y,ss,q.o.1,q.o.2.1,q.o.2.2.1,q.o.2.2.2,p,E,rfl,x.o.L8 D.o v r (fun br=>absurd rfl br) F⟩)
  ·have I:=aa (And.intro r (D.o.trans (w.mono D.o.size)));clear w r
   go_wp2;go_ret
   exact(show _\/_ from .inl ⟨8,.inr (.inr ⟨rfl,⟨o,q.o.1,q.o.2.1,q.o.2.2.1⟩,Int.not_lt.2 I.o.1⟩),rfl,x.o.left I.o.2⟩)
def ah0 (r N g:Nat) (F I:Nat->Prop) (M:Nat->List av) (s:bO) (x:dc) (c:Nat) (a b:Int) (d:ByteArray) (w:World) (e:Ending) (h:World):Prop:=
 (∃m,(lQ (cn (s.ops c)) (a,b) d=.error m\/(m=6/\(∃o,bl (cn (s.ops c)) (a,b)=some o/\o.list=false/\km d=true)/\(eY (x.q c).D.1 (x.q c).D.2 (a,b) d (0,0)).aB=[])\/(m=8/\((∃o,bl (cn (s.ops c)) (a,b)=some o/\o.list=false/\km d=true)/\(eY (x.q c).D.1 (x.q c).D.2 (a,b) d (0,0)).aB≠[])/\¬s.has c c<60))/\e=.returned (A m)/\qx r N g F I w h x.ei M s)\/
 (∃o f,bl (cn (s.ops c)) (a,b)=some o/\o.list=false/\km d=true/\f.Perm ((eY (x.q c).D.1 (x.q c).D.2 (a,b) d (0,0)).aB.map (·.1))/\mR f/\e=.returned (A 0)/\(eY (x.q c).D.1 (x.q c).D.2 (a,b) d (0,0)).aB≠[]/\Is r N g F I w h x.ei M s c (.inr (.inr (.inr ((a,b),d,(0,0),f)))))
def ah1 (r N f:Nat) (F I:Nat->Prop) (M:Nat->List av) (s:bO) (x:dc) (c:Nat) (a b:Int) (w:World) (e:Ending) (d:World):Prop:=
 J w d/\((∃n,iM (cn (s.ops c)) (a,b)=.error n/\e=.returned (.tuple #[.slice none 0 0,A n]))\/(∃v l,iM (cn (s.ops c)) (a,b)=.ok l/\l.length<=300/\e=.returned (.tuple #[v,A 0])/\gu w.heap.size d v l))
theorem ah2{Y}(h:dJ e k d i l Y b j f)(t:a<l)(g n:Int)(p:ByteArray)(dO:p.size<=maxLen):
  O 78 #[Z k,A a,.agg #[A g,A n],.string p] e fun c w'=>ah0 k l Y d i b j f a g n p e c w':=by
 have L:=aa ((aoQ e.heap.size e).alloc (aoP _) (.cells #[A g,A n] 36));have bR:=aa (L6 (h.af L.o) a t g n p dO);have fO:=aa (fun W (s:J e W)=>x5 ((h.af s).m.eM a t));have B:=(h.ui t).gr (g,n) p (0,0);have dN:=aa (fun W (s:J e W)=>P2 ((h.af s).m.eM a t).jM.q g n 0 0 p B.1 B.2);have hT:=aa (fun W (s:J e W)=>Yu ((h.af s).m.eM a t) (h.ui t) (g,n) (0,0) p);have yk:=aa B.1;have C:=aa h;clear h B;go_enter func78,ntmps78;go_wp2_with fail
 refine bR.o.mono ?_;rintro c w ⟨aq,dT⟩;have M:=aa (L.o.trans (aq.mono L.o.size));clear aq;have hz1:=M.o.size;rcases dT with⟨m,hm,r,rfl⟩|⟨o,ae,bo,lv,eH,rfl⟩
 ·have cG:=aa r;clear r
  rcases hm with rfl|rfl|rfl
  all_goals go_wp2
  all_goals go_ret
  all_goals exact(show _\/_ from .inl ⟨_,.inl cG.o,rfl,C.o.left (M.o.alloc hz1 _)⟩)
 ·have y:=aa (And.intro ae (And.intro bo lv));clear eH ae bo lv
  have N:=aa (M.o.alloc hz1 (.cells #[A g,A n,.string p,A 0,A 0] 97));have bS:=aa (bL w (.cells #[A g,A n,.string p,A 0,A 0] 97));go_wp2_with fail
  go_region_held3 (fun W=>W.cell? (V w 0)=some (A g)/\W.cell? (V w 1)=some (A n)/\W.cell? (V w 2)=some (.string p)/\W.cell? (V w 3)=some (A 0)/\W.cell? (V w 4)=some (A 0)) (first |exact ga bS.o|exact ga ez.o|exact ga cz.o)
   (first
    |(go_at_call 48;refine(fO.o _ N.o.drew).mono ?_;rintro c w2 ⟨rfl,P⟩;have cz:=aa (bj bS.o (Hq.o (mq P)));have Q:=aa (N.o.drew.trans (P.mono N.o.size));clear P)
    |(go_at_call 49;refine(dN.o w2 Q.o).mono ?_;rintro c w3 ⟨u,hs,rfl,r,x,hu,R⟩;obtain⟨kB,kC,rfl,_,_,_⟩:=bp hu;rw[aoU,r.length_eq];have ez:=aa (bj cz.o R);have z:=aa (Q.o.trans (R.mono Q.o.size));clear hu R r x))
  obtain⟨z0,z1,z2,z3,z4⟩:=ga ez.o;obtain⟨eb,S⟩:∃eb,eb=(eY (f.q a).D.1 (f.q a).D.2 (g,n) p (0,0)).aB.length:=⟨_,rfl⟩;rw[<-S];have E:=aa S;clear S;by_cases U:eb=0
  ·subst U
   go_wp2;go_ret
   exact(show _\/_ from .inl ⟨6,.inr (.inl ⟨rfl,⟨o,y.o⟩,aqg E.o.symm⟩),rfl,C.o.left z.o⟩)
  ·have v8:eb<=10000:=by rw[E.o];exact yk.o
   have h0':¬(eb:Int)=0:=by omega
   go_wp2_with fail
   refine(hT.o w3 z.o).mono ?_;rintro c w4 (⟨v,rfl,ss,r,x,F⟩|⟨v,rfl,s⟩)
   ·have I:=aa (And.intro v (And.intro r (And.intro x F)));clear F v r x
    go_wp2;go_ret
    obtain⟨v,r,x,F⟩:=I.o;exact(show _\/_ from .inr ⟨o,ss,y.o.1,y.o.2.1,y.o.2.2,r,x,rfl,fun X=>U (by rw[E.o,X];rfl),C.o.L8 z.o t v (fun _=>rfl) F⟩)
   ·have I:=aa (And.intro v (z.o.trans (s.mono z.o.size)));clear s v
    go_wp2;go_ret
    exact(show _\/_ from .inl ⟨8,.inr (.inr ⟨rfl,⟨⟨o,y.o⟩,fun X=>U (by rw[E.o,X];rfl)⟩,Int.not_lt.2 I.o.1⟩),rfl,C.o.left I.o.2⟩)
theorem ah3{C}(h:dJ e k d i l C b j f)(q:a<l)(n p:Int):
  O 29 #[Z k,A a,.agg #[A n,A p]] e fun c P=>ah1 k l C d i b j f a n p e c P:=by
 have w:=aa ((aoQ e.heap.size e).alloc (aoP _) (.cells #[A n,A p] 36));have Q:=aa (bL e (.cells #[A n,A p] 36));have R:=aa (L4 (h.af w.o) a q n p true);have S:=aa (fun W (U:J e W)=>x5 ((h.af U).m.eM a q));have D:=aa (fun o (g:bl (cn (j.ops a)) (n,p)=some o) (r:o.list=true)=>(h.m.eM a q).elements (h.kH q) g r (aoS (h.gY q g r) (by omega)));have E:=aa (fun o (g:bl (cn (j.ops a)) (n,p)=some o) (r:o.list=true)=>h.gY q g r);have aC:=aa h;clear h;go_enter func29,ntmps29;go_wp2_with fail
 refine R.o.mono ?_;rintro c w1 ⟨x,X⟩;have F:=aa (bj Q.o x);have s:=aa (w.o.trans (x.mono w.o.size));clear x;rcases X with⟨m,Y,I,rfl⟩|⟨o,g,t,rfl⟩
 ·have y:=aa (L5 I);clear I
  rcases Y with rfl|rfl
  all_goals go_wp2
  all_goals go_ret2
  all_goals exact(show _/\_ from⟨s.o,.inl ⟨_,y.o,rfl⟩⟩)
 ·have y:=aa (ri g t)
  have dN:=aa (D.o o g t);have b8:=aa (show(dw o).length<=300 by
   have h1:=E.o o g t;have ak:(dw o).length<=o.ss.length:=by unfold dw;rw[aoU];exact apK _ _
   omega)
  clear g t D E;go_wp2_with fail
  go_region_held3 (fun W=>W.cell? (V e 0)=some (A n)/\W.cell? (V e 1)=some (A p)) (first |exact bh F.o|exact bh ez.o|exact bh L.o)
   (first
    |(go_at_call 48;refine(S.o _ s.o.drew).mono ?_;rintro c w2 ⟨rfl,z⟩;have L:=aa (bj F.o (Hq.o (mq z)));have v:=aa (s.o.drew.trans (z.mono s.o.size));clear z)
    |(go_at_call 57;refine(dN.o w2 v.o).mono ?_;rintro c w3 ⟨u,rfl,M,B⟩;have ez:=aa (bj L.o B);have bK:=aa (v.o.trans (B.mono v.o.size));have N:=aa (show gu e.heap.size w3 u (dw o) from gC M v.o.size);clear M B;obtain⟨kB,kC,rfl,_,_,_⟩:=bp N.o))
  all_goals go_wp2
  all_goals go_ret2
  all_goals exact(show _/\_ from⟨bK.o,.inr ⟨_,_,y.o,b8.o,rfl,N.o⟩⟩)
theorem YK{c b:Value}{t:TypeId}(h:e.heap[a]?=some (.cells #[c,b] t (0,0)))(u v:Value)(o:Obj):(((e.setCell (H a) u).setCell (K a 1) v).alloc o).cell? (H a)=some u/\(((e.setCell (H a) u).setCell (K a 1) v).alloc o).cell? (K a 1)=some v:=
 bh (bj (Ys h) ((aoQ _ _).alloc (aoP _) _))
def nA (M:Nat->List av) (s:bO) (c:Nat) (a:kS) (t:TypeId) (v:Value):Nat->List av:=pP M c (ke c (s.gt c) (s.has c) a t v)
def Stepped (r N d:Nat) (F I:Nat->Prop) (w w':World) (e:Nat->Nat) (M:Nat->List av) (s:bO) (b a:Nat->Prop) (c:dc):Prop:=dJ w' r b a N d M s c/\c.ei=e/\c0 F b w w'/\(∀k,I k->a k)/\∀k,a k->I k\/w.heap.size<=k
def Q1 (r N k:Nat) (F I:Nat->Prop) (w l:World) (m:Nat->Nat) (M:Nat->List av) (s:bO) (c:Nat) (a:kS) (e:PId) (f:ByteArray) (g:PId) (h:dR):Prop:=
 s.has c c+2<=60/\∃t v b d i j,eA (cn ((fg s c a t v).ops c)) b/\fG b/\d.Perm ((eY b.1 b.2 e f g).aB.map (·.1))/\mR d/\
  qx r N k F I w l m (nA (nA M s c a t v) (fg s c a t v) c (.inr (.inr (.inl (e,f,g,h,d)))) i j) (fg (fg s c a t v) c (.inr (.inr (.inl (e,f,g,h,d)))) i j)
def ah4 (r N f:Nat) (F I:Nat->Prop) (M:Nat->List av) (s:bO) (x:dc) (c:Nat) (a b:Int) (d:ByteArray) (g:Bool) (w:World) (e:Ending) (w':World):Prop:=
 (∃m,(lQ (cn (s.ops c)) (a,b) d=.error m\/(m=8/\(∃o,bl (cn (s.ops c)) (a,b)=some o/\o.list=false/\km d=true)/\¬s.has c c+2<=60))/\e=.returned (.tuple #[.agg #[A 0,A 0],A m])/\qx r N f F I w w' x.ei M s)\/
 (∃o,bl (cn (s.ops c)) (a,b)=some o/\o.list=false/\km d=true/\e=.returned (.tuple #[.agg #[A (s.gt c+1),A c],A 0])/\Q1 r N f F I w w' x.ei M s c (.inl g) (a,b) d (0,0) (0,(s.gt c+1,(c:Int))))
theorem dJ.step{w r s w' chg}(e:dJ w r i d a h b s f){c:Nat}(g:c<a)(E:s.has c c<60)(p:Ik (b c) chg)(u:yh (f.ia c) d a h c (f.ei c) (s.gt c) (s.has c) (s.kept c) (s.early c) (f.q c) w w' chg):∃t v l j k,Stepped r a h i d w w' f.ei (nA b s c chg t v) (fg s c chg t v) l j k:=by
 obtain⟨t,v,l,j,F,x,y,z,n,o⟩:=u;obtain⟨k,B,C,D,_⟩:=e.m.QL g x z n o y (ops':=s.ops c++[ke c (s.gt c) (s.has c) chg t v]) (by rw[e.m.mU c g,apf]);have I:=e.ok.own c g;exact⟨t,v,_,j,k,⟨B,e.ok.wrote g (by omega) chg t v,e.md.wrote p⟩,D,C,n,o⟩
theorem dJ.set{sp}(c:dJ e a d i h sp b j f){g:Nat}(u:Value)(p:¬d g)(q:¬i g):dJ (e.setCell (K g l) u) a d i h sp b j f:=
 ⟨c.m.gB (by simp[World.setCell]) (fun k o=>dI (fun n=>p (n▸o))) (fun k o=>dI (fun n=>q (n▸o))),c.ok,c.md⟩
theorem Q2{I M s x C v w Y s1 E F y x1}{D:World}(l:dJ e a d I h k M s x)(z:J e n)(ak:Stepped a h k d I n C w Y s1 E F x1)(L:J C D)(bW:Stepped a h k E F D v w b j i y f){g:Nat}(N:e.heap.size<=g)(NH:g<n.heap.size)(o p:Value):
  qx a h k d I e ((v.setCell (H g) o).setCell (K g 1) p) w b j:=by
 obtain⟨b1,a2,B,a4,P⟩:=ak;obtain⟨bx,bT,Q,Im,R⟩:=bW;have ad:=B.size;have QY:=L.size;have S:¬i g:=fun hF=>by
  rcases Q.sub g hF with r|r
  ·rcases B.sub g r with t|t
   ·have :=l.m.lt g t;omega
   ·omega
  ·omega
 have U:¬y g:=fun hF=>by
  rcases R g hF with r|r
  ·rcases P g r with t|t
   ·have :=l.m.cJ g t;omega
   ·omega
  ·omega
 have W:c0 d i e v:=((B.before z).after L).trans Q;refine⟨i,y,f,(bx.set o S U).set p S U,bT,(W.va N o).va N p,fun c u=>⟨Im c (a4 c u),?_⟩,fun c u=> ?_⟩
 ·have X:c≠g:=fun q=>by have :=l.m.cJ c u;omega
  rw[dI X,dI X];exact W.other c (l.m.cJ c u) (l.m.eT c u)
 ·rcases R c u with r|r
  ·exact(P c r).imp id fun t=>aoS z.size t
  ·exact .inr (by have :=z.size;omega)
theorem ah5(c:dJ e h d i k l b j f)(x:a<k)(u w:Int)(y:ByteArray)(dO:y.size<=maxLen)(C:Bool):
  O 38 #[Z h,A a,.agg #[A u,A w],.string y,.bool C] e fun n w'=>ah4 h k l d i b j f a u w y C e n w':=by
 have aK:=aa (((aoQ e.heap.size e).alloc (aoP _) (.cells #[A u,A w] 36)).alloc (by simp) (.cells #[A 0,A 0] 36));have l5:=aa (show((e.alloc (.cells #[A u,A w] 36)).alloc (.cells #[A 0,A 0] 36)).heap[e.heap.size+1]?=some (.cells #[A 0,A 0] 36 (0,0)) from(by
  have :=bL (e.alloc (.cells #[A u,A w] 36)) (.cells #[A 0,A 0] 36);rw[show(e.alloc (.cells #[A u,A w] 36)).heap.size=e.heap.size+1 by simp]at this;exact this))
 have bR:=aa (L6 (c.af aK.o) a x u w y dO);have fB:=aa (show ∀p,e.heap.size<=p->¬d p from fun p hk hF=>by have :=c.m.lt p hF;omega);have bG:=aa (fun W (F:J e W)=>HN ((c.af F).m.eM a x) 2 (by omega));have ot:=aa (fun W (F:J e W)=>Yq ((c.af F).m.eM a x) (c.ui x) C);have oQ:=aa (fun W (F:J e W) (w':World) (z:j.has a a<60) hw=>(c.af F).step (w':=w') x z (chg:=.inl C) trivial hw);have aC:=aa c;clear c;go_enter func38,ntmps38;go_wp2_with fail
 refine bR.o.mono ?_;rintro n I ⟨B,dT⟩;have L:=aa (bj l5.o B);have ax:=aa (aK.o.trans (B.mono aK.o.size));clear B;have hz1:=ax.o.size;have uL:=aM L.o;rcases dT with⟨m,hm,M,rfl⟩|⟨o,ae,bo,lv,eH,rfl⟩
 ·have cG:=aa M;clear M
  obtain⟨U,y1⟩:=bh L.o;have mI:=cS L.o;have Q3:=World.new_ne I (H (e.heap.size+1)) U;obtain⟨z0,z1⟩:=YK L.o (A 0) (A 0) (.cells #[A 0,A 0,.string ⟨#[]⟩,A 0,A 0] 97);have YL:∀q r,qx h k l d i e (((I.setCell (H (e.heap.size+1)) q).setCell (K (e.heap.size+1) 1) r).alloc (.cells #[A 0,A 0,.string ⟨#[]⟩,A 0,A 0] 97)) f.ei b j:=fun q r=>aC.o.left (((ax.o.setCell (show e.heap.size<=e.heap.size+1 by omega) _).setCell (show e.heap.size<=e.heap.size+1 by omega) _).alloc (by simp[World.setCell];omega) _)
  have qw:=aa YL;clear YL;rcases hm with rfl|rfl|rfl
  ·go_wp2
   refine bodyPost_ret (v:=.tuple #[.agg #[A 0,A 0],A 3]) (by simp[results,results38,go_sem,z0,z1]) rfl ?_;exact(show _\/_ from .inl ⟨3,.inl cG.o,rfl,qw.o _ _⟩)
  ·go_wp2
   refine bodyPost_ret (v:=.tuple #[.agg #[A 0,A 0],A 4]) (by simp[results,results38,go_sem,z0,z1]) rfl ?_;exact(show _\/_ from .inl ⟨4,.inl cG.o,rfl,qw.o _ _⟩)
  ·go_wp2
   refine bodyPost_ret (v:=.tuple #[.agg #[A 0,A 0],A 5]) (by simp[results,results38,go_sem,z0,z1]) rfl ?_;exact(show _\/_ from .inl ⟨5,.inl cG.o,rfl,qw.o _ _⟩)
 ·have X:=aa (And.intro ae (And.intro bo lv));clear eH ae bo lv
  have dr:=aa (ax.o.alloc hz1 (.cells #[A u,A w,.string y,A 0,A 0] 97));have bS:=aa (bL I (.cells #[A u,A w,.string y,A 0,A 0] 97));go_wp2_with fail
  refine(bG.o _ dr.o).mono ?_;rintro n w2 ⟨rfl,D⟩;have cz:=aa (bj bS.o D);have N:=aa (bj (bj L.o ((aoQ _ I).alloc (aoP _) _)) D);have Y:=aa (dr.o.trans (D.mono dr.o.size));clear D;have qa:=aM N.o;obtain⟨U,y1⟩:=bh N.o;have mI:=cS N.o;by_cases z:j.has a a+2<=60
  ·have P:decide (j.has a a+((2:Nat):Int)<=60)=true:=decide_eq_true z
   rw[P];have Q:=aa z;clear U y1 mI z P;go_wp2_with fail
   refine(ot.o w2 Y.o).mono ?_;rintro n E ⟨rfl,fM⟩;obtain⟨t,v,jh,l3,j4,ak⟩:=oQ.o w2 Y.o E (by have :=Q.o;omega) fM;have s:=aa ak;clear fM ak;have ez:=aa ((s.o.2.2.1.other _ (aM cz.o) (fB.o _ hz1)).trans cz.o);have pQ:=aa ((s.o.2.2.1.other _ (aM N.o) (fB.o _ (by omega))).trans N.o);obtain⟨eO,fL,kM,mJ,qM⟩:=ga ez.o;have It:=aM ez.o;have wF:=aM pQ.o;have pq:=World.new_ne E (V I 0) eO;have R:=aa ((aoQ E.heap.size E).alloc (aoP _) (.cells #[A (j.gt a+1),A a] 36));have BD:=aa (L0 ((s.o.1.af R.o).m.eM a x) (s.o.1.ui x) (u,w) (0,0) y (0,(j.gt a+1,(a:Int))));rw[s.o.2.1]at BD;go_wp2_with fail
   refine BD.o.mono ?_;rintro n w4 ⟨⟨iu,rfl⟩,ss,M,au,gA⟩;rw[<-s.o.2.1]at gA;have zs:(fg j a (.inl C) t v).has a a<60:=by
    show upd j.has a (upd (j.has a) a (j.has a a+1)) a a<60;rw[bN,bN];have :=Q.o;omega
   obtain⟨k3,v',iZ,nU,Ma,S⟩:=(s.o.1.af R.o).step x zs (chg:=.inr (.inr (.inl ((u,w),y,(0,0),(0,(j.gt a+1,(a:Int))),ss)))) ⟨fun _=>rfl,.inr ⟨ke a (j.gt a) (j.has a) (.inl C) t v,by rw[nA,nz];exact aqA _ ao6,rfl,C,rfl⟩⟩ gA;have vL:=aa (s.o.1.doc x);have k4:=aa (And.intro M au);rw[s.o.2.1]at S;have fP:=aa (fun q r=>Q2 aC.o Y.o s.o R.o S (g:=e.heap.size+1) (by omega) qa q r);have yl:¬jh (e.heap.size+1):=fun hF=>by
    rcases s.o.2.2.1.sub _ hF with c|c
    ·exact fB.o _ (by omega) c
    ·omega
   have Iu:¬jh E.heap.size:=fun hF=>by have :=s.o.1.m.lt _ hF;omega
   have B:=(S.2.2.1.other _ (aM (bj pQ.o R.o)) yl).trans (bj pQ.o R.o);have D:=(S.2.2.1.other _ (aM (bL E _)) Iu).trans (bL E _);obtain⟨fz,eJ⟩:=bh B;obtain⟨jS,q1⟩:=bh D;have kT:=cS B;have Ft:=aM B;clear B D yl Iu eO fL kM mJ qM pq M au gA zs S;go_wp2;refine bodyPost_ret (v:=.tuple #[.agg #[A (j.gt a+1),A a],A 0]) (by simp[results,results38,go_sem,fz,eJ]) rfl ?_;exact(show _\/_ from .inr ⟨o,X.o.1,X.o.2.1,X.o.2.2,rfl,Q.o,t,v,_,ss,k3,v',vL.o.1,vL.o.2.1,k4.o.1,k4.o.2,fP.o _ _⟩)
  ·have P:decide (j.has a a+((2:Nat):Int)<=60)=false:=decide_eq_false z
   rw[P];have Q:=aa z;clear z P;go_wp2;refine bodyPost_ret (v:=.tuple #[.agg #[A 0,A 0],A 8]) (by simp[results,results38,go_sem,U,y1]) rfl ?_;exact(show _\/_ from .inl ⟨8,.inr ⟨rfl,⟨o,X.o⟩,Int.not_le.2 Q.o⟩,rfl,aC.o.left ((Y.o.setCell (show e.heap.size<=e.heap.size+1 by omega) _).setCell (show e.heap.size<=e.heap.size+1 by omega) _)⟩)
def ah6 (r N f:Nat) (F I:Nat->Prop) (M:Nat->List av) (s:bO) (x:dc) (c:Nat) (a d i n:Int) (w:World) (e:Ending) (g:World):Prop:=
 (∃m,(iM (cn (s.ops c)) (a,d)=.error m\/(m=7/\∃o,bl (cn (s.ops c)) (a,d)=some o/\o.list=true/\jL (dw o) i=none)\/(m=8/\(∃o b,bl (cn (s.ops c)) (a,d)=some o/\o.list=true/\jL (dw o) i=some b)/\¬s.has c c+2<=60))/\e=.returned (.tuple #[.agg #[A 0,A 0],A m])/\qx r N f F I w g x.ei M s)\/
 (∃o b,bl (cn (s.ops c)) (a,d)=some o/\o.list=true/\jL (dw o) i=some b/\e=.returned (.tuple #[.agg #[A (s.gt c+1),A c],A 0])/\Q1 r N f F I w g x.ei M s c (.inr (.inl ((a,d),b))) (a,d) ⟨#[]⟩ (s.gt c+1,(c:Int)) (n,(0,0)))
theorem ah7{M}(l:dJ e a d i h k M j f){c:Nat}(y:c<h)(u w q n:Int):
  O 32 #[Z a,A c,.agg #[A u,A w],A q,A n] e fun p w'=>ah6 a h k d i M j f c u w q n e p w':=by
 have aK:=aa (((aoQ e.heap.size e).alloc (aoP _) (.cells #[A u,A w] 36)).alloc (by simp) (.cells #[A 0,A 0] 36));have cU:=aa (show((e.alloc (.cells #[A u,A w] 36)).alloc (.cells #[A 0,A 0] 36)).heap[e.heap.size]?=some (.cells #[A u,A w] 36 (0,0)) from(hV _ _ (by simp)).trans (bL e _));have l5:=aa (show((e.alloc (.cells #[A u,A w] 36)).alloc (.cells #[A 0,A 0] 36)).heap[e.heap.size+1]?=some (.cells #[A 0,A 0] 36 (0,0)) from(by
  have :=bL (e.alloc (.cells #[A u,A w] 36)) (.cells #[A 0,A 0] 36);rw[show(e.alloc (.cells #[A u,A w] 36)).heap.size=e.heap.size+1 by simp]at this;exact this))
 have bR:=aa (YI (l.af aK.o) c y u w q);have fB:=aa (show ∀r,e.heap.size<=r->¬d r from fun r hk hF=>by have :=l.m.lt r hF;omega);have bG:=aa (fun W (C:J e W)=>HN ((l.af C).m.eM c y) 2 (by omega));have ot:=aa (fun W (C:J e W) o (D:bl (cn (j.ops c)) (u,w)=some o) (E:o.list=true) b (F:jL (dw o) q=some b)=>Yv ((l.af C).m.eM c y) (l.ui y) (l.kH y) D E (l.gY y D E) q F);have oQ:=aa (fun W (C:J e W) (w':World) (B:j.has c c<60) b hw=>(l.af C).step (w':=w') y B (chg:=.inr (.inl ((u,w),b))) trivial hw);have aC:=aa l;clear l;go_enter func32,ntmps32;go_wp2_with fail
 refine bR.o.mono ?_;rintro p w1 ⟨z,dT⟩;have bS:=aa (bj cU.o z);have R:=aa (bj l5.o z);have I:=aa (aK.o.trans (z.mono aK.o.size));clear z;have hz1:=I.o.size;have uL:=aM R.o;have vR:=aa (show ∀W,J e W->∀s b,qx a h k d i e ((W.setCell (H (e.heap.size+1)) s).setCell (K (e.heap.size+1) 1) b) f.ei M j from fun W C s b=>aC.o.left ((C.setCell (show e.heap.size<=e.heap.size+1 by omega) _).setCell (show e.heap.size<=e.heap.size+1 by omega) _));rcases dT with⟨m,hm,U,rfl⟩|⟨o,D,E,dL,⟨F,rfl⟩|⟨b,F,rfl⟩⟩
 ·have cG:=aa U;clear U
  obtain⟨L,N⟩:=bh R.o;have mI:=cS R.o;rcases hm with rfl|rfl
  ·go_wp2
   refine bodyPost_ret (v:=.tuple #[.agg #[A 0,A 0],A 3]) (by simp[results,results32,go_sem,L,N]) rfl ?_;exact(show _\/_ from .inl ⟨3,.inl cG.o,rfl,vR.o _ I.o _ _⟩)
  ·go_wp2
   refine bodyPost_ret (v:=.tuple #[.agg #[A 0,A 0],A 4]) (by simp[results,results32,go_sem,L,N]) rfl ?_;exact(show _\/_ from .inl ⟨4,.inl cG.o,rfl,vR.o _ I.o _ _⟩)
 ·have cG:=aa (And.intro D (And.intro E F));clear D E dL F
  obtain⟨L,N⟩:=bh R.o;have mI:=cS R.o;go_wp2;refine bodyPost_ret (v:=.tuple #[.agg #[A 0,A 0],A 7]) (by simp[results,results32,go_sem,L,N]) rfl ?_;exact(show _\/_ from .inl ⟨7,.inr (.inl ⟨rfl,o,cG.o⟩),rfl,vR.o _ I.o _ _⟩)
 ·have P:=aa (And.intro D (And.intro E F));clear D E F dL
  go_wp2_with fail
  refine(bG.o _ I.o).mono ?_;rintro p w2 ⟨rfl,Q⟩;have cz:=aa (bj bS.o Q);have X:=aa (bj R.o Q);have bf:=aa (I.o.trans (Q.mono I.o.size));clear Q;have qa:=aM X.o;obtain⟨L,N⟩:=bh X.o;have mI:=cS X.o;by_cases B:j.has c c+2<=60
  ·have Y:decide (j.has c c+((2:Nat):Int)<=60)=true:=decide_eq_true B
   rw[Y];have b8:=aa B;clear L N mI B Y;obtain⟨F0,F1⟩:=bh cz.o;go_wp2_with fail
   refine(ot.o w2 bf.o o P.o.1 P.o.2.1 b P.o.2.2).mono ?_;rintro p S ⟨rfl,fM⟩;obtain⟨t,v,jh,l3,j4,ak⟩:=oQ.o w2 bf.o S (by have :=b8.o;omega) b fM;have x:=aa ak;clear fM ak F0 F1;have ez:=aa ((x.o.2.2.1.other _ (aM cz.o) (fB.o _ (aoP _))).trans cz.o);have pQ:=aa ((x.o.2.2.1.other _ (aM X.o) (fB.o _ (by omega))).trans X.o);obtain⟨eO,fL⟩:=bh ez.o;have It:=aM ez.o;have wF:=aM pQ.o;have pq:=World.new_ne S (V e 0) eO;have oP:=aa ((aoQ S.heap.size S).alloc (aoP _) (.cells #[A (j.gt c+1),A c] 36));go_wp2_with fail
   refine(L3 _ _ _ _ _).mono ?_;rintro p w4 ⟨rfl,fC⟩;have uj:=aa (bj (bL S (.cells #[A (j.gt c+1),A c] 36)) fC);have fw:=aa (oP.o.trans (fC.mono oP.o.size));clear fC;have BD:=aa (L0 ((x.o.1.af fw.o).m.eM c y) (x.o.1.ui y) (u,w) (j.gt c+1,(c:Int)) ⟨#[]⟩ (n,(0,0)));rw[x.o.2.1]at BD;have gn:=aa (bj ez.o fw.o);have ns:=aa (bj pQ.o fw.o);obtain⟨ct,aj⟩:=bh uj.o;have he4:=aM uj.o;go_wp2_with fail
   refine BD.o.mono ?_;rintro p w5 ⟨⟨iu,rfl⟩,ss,U,au,rK⟩;rw[<-x.o.2.1]at rK;have zs:(fg j c (.inr (.inl ((u,w),b))) t v).has c c<60:=by
    show upd j.has c (upd (j.has c) c (j.has c c+1)) c c<60;rw[bN,bN];have :=b8.o;omega
   obtain⟨k3,v',iZ,nU,Ma,bW⟩:=(x.o.1.af fw.o).step y zs (chg:=.inr (.inr (.inl ((u,w),⟨#[]⟩,(j.gt c+1,(c:Int)),(n,(0,0)),ss)))) ⟨fun br=>absurd rfl br,.inl rfl⟩ rK;have vL:=aa (x.o.1.doc y);have k4:=aa (And.intro U au);rw[x.o.2.1]at bW;have fP:=aa (fun s b=>Q2 aC.o bf.o x.o fw.o bW (g:=e.heap.size+1) (by omega) qa s b);have yl:¬jh (e.heap.size+1):=fun hF=>by
    rcases x.o.2.2.1.sub _ hF with l|l
    ·exact fB.o _ (by omega) l
    ·omega
   have Iu:¬jh S.heap.size:=fun hF=>by have :=x.o.1.m.lt _ hF;omega
   have z:=(bW.2.2.1.other _ (aM ns.o) yl).trans ns.o;have Q:=(bW.2.2.1.other _ (aM uj.o) Iu).trans uj.o;obtain⟨fz,eJ⟩:=bh z;obtain⟨jS,q1⟩:=bh Q;have kT:=cS z;have Ft:=aM z;have Q4:=aM ns.o;clear z Q yl Iu eO fL pq U au rK zs bW ct aj;go_wp2;refine bodyPost_ret (v:=.tuple #[.agg #[A (j.gt c+1),A c],A 0]) (by simp[results,results32,go_sem,fz,eJ]) rfl ?_;exact(show _\/_ from .inr ⟨o,b,P.o.1,P.o.2.1,P.o.2.2,rfl,b8.o,t,v,_,ss,k3,v',vL.o.1,vL.o.2.1,k4.o.1,k4.o.2,fP.o _ _⟩)
  ·have Y:decide (j.has c c+((2:Nat):Int)<=60)=false:=decide_eq_false B
   rw[Y];have b8:=aa B;clear B Y;go_wp2;refine bodyPost_ret (v:=.tuple #[.agg #[A 0,A 0],A 8]) (by simp[results,results32,go_sem,L,N]) rfl ?_;exact(show _\/_ from .inl ⟨8,.inr (.inr ⟨rfl,⟨o,b,P.o⟩,Int.not_le.2 b8.o⟩),rfl,vR.o _ bf.o _ _⟩)
end
section
open Go.RowKit Tryz
variable {a e f h:Nat}{b:List ba}{d:World}
def ym (a b:cE):Bool:= !eK b.cD a.cD
def uk (l:List cE):List cE:=l.mergeSort ym
theorem ah8(a b c:cE)(d:ym a b=true)(e:ym b c=true):ym a c=true:=by
 unfold ym at *;simp only[Bool.not_eq_true',zp]at *;omega
theorem ah9(a b:cE):(ym a b||ym b a)=true:=by
 unfold ym;cases h:eK b.cD a.cD
 ·simp
 ·have :eK a.cD b.cD=false:=by rw[q3]at h;rw[zp];omega
  simp[this]
theorem Q5(l:List cE):(uk l).Perm l:=aqy _ _
theorem YM(l:List cE):(uk l).length=l.length:=(Q5 l).length_eq
theorem Q6{l:List cE}{x:cE}:x∈uk l↔x∈l:=(Q5 l).mem_iff
theorem aia(l:List cE):((uk l).map mQ).Pairwise fun a b=>eK b.1 a.1=false:=by
 rw[apB];refine(ars ah8 ah9 l).imp fun{a b} h=> ?_
 show eK b.cD a.cD=false;unfold ym at h;cases c:eK b.cD a.cD
 ·rfl
 ·rw[c]at h;cases h
theorem YN:∀{d m:List (PId×dR)},d.Perm m->(d.Pairwise fun a b=>eK a.1 b.1=true)->(m.Pairwise fun a b=>eK b.1 a.1=false)->d=m
 |[],m,c,_,_=>by rw[List.nil_perm.1 c]
 |v::d,[],c,_,_=>by cases List.perm_nil.1 c
 |v::d,y::m,c,g,i=>by
  obtain⟨j,k⟩:=apP.1 g;obtain⟨l,n⟩:=apP.1 i;have o:v=y:=by
   rcases ao3.1 (c.mem_iff.1 (ao6 (a:=v))) with h|h
   ·exact h
   ·have p:=l v h
    rcases ao3.1 (c.mem_iff.2 (ao6 (a:=y))) with e|e
    ·exact e.symm
    ·have f:=j y e
     rw[p]at f;cases f
  subst o;rw[YN (List.perm_cons v|>.1 c) k n]
theorem aib{a:List (PId×dR)}{l:List cE}(b:a.Perm (l.map mQ))(c:mR (a.map (·.1))):a=(uk l).map mQ:=
 YN (b.trans ((Q5 l).symm.map mQ)) (apB.1 c) (aia l)
def qy (a:PId->ByteArray) (l:List cE):ByteArray:=lF bar ((uk l).map (j9 a))
def mX (a:PId->ByteArray) (b:Bool) (s:bU):ByteArray:=if b then qy a s.ad else(s.key++colon)++qy a s.ad
def yn (a:PId->ByteArray) (b:Bool) (M:List bU):ByteArray:=lF comma ((M.filter l1).map (mX a b))
def vs (a:PId->ByteArray) (b:Bool) (M:List bU):ByteArray:=if b then(⟨#[91]⟩++yn a b M)++⟨#[93]⟩ else(⟨#[123]⟩++yn a b M)++⟨#[125]⟩
def eo (R:List ba):Nat->PId->ByteArray
 |0,_=>⟨#[35]⟩
 |r+1,x=>match bl R x with
  |some o=>vs (eo R r) o.list (ie o)
  |none=>⟨#[]⟩
theorem Q7{x:PId}{o:ba}(h:bl b x=some o)(r:Nat):eo b (r+1) x=vs (eo b r) o.list (ie o):=by
 show(match bl b x with |some o=>_|none=>_)=_;rw[h]
structure wG (w:World) (d aA be:Nat) (D:cN) (R:List ba):Prop where
 q:cu w d aA be D.1 D.2
 kH:eA R D
 ji:fG D
 pow:Pow w
 root:∃o,bl R (0,0)=some o
 nums:∀x o,bl R x=some o->∀s∈o.ss,∀h∈s.ad,ka h.num
 sz:∀x o,bl R x=some o->∀s∈o.ss,∀h∈s.ad,∃o',bl R h.obj=some o'
 YO:∀p∈D.1,p.2.ks.length<=10000
 cnt:∀x o,bl R x=some o->o.ss.length<=10000
 cO:∀x o,bl R x=some o->∀s∈o.ss,s.ad.length<=10000/\s.key.size<=4
 qO:∀r,r<=3->∀x o,bl R x=some o->(yn (eo R r) o.list (ie o)).size<=1000000000000/\∀s∈o.ss,(qy (eo R r) s.ad).size<=1000000000000
theorem wG.af{w d a b D R}{w':World}(h:wG w d a b D R)(c:J w w'):wG w' d a b D R:=⟨h.q.af c,h.kH,h.ji,h.pow.af c,h.root,h.nums,h.sz,h.YO,h.cnt,h.cO,h.qO⟩
def BE (w:World) (d:Nat) (R:List ba) (r:Nat):Prop:=∀W,J w W->∀(x:PId) (o:ba),bl R x=some o->
 O 88 #[Z d,.agg #[A x.1,A x.2],A (5-(r:Int))] W fun e a=>e=.returned (.string (eo R r x))/\J W a
theorem BE.af{w R r}{w':World}(h:BE w a R r)(b:J w w'):BE w' a R r:=fun W c x o d=>h W (b.trans (c.mono b.size)) x o d
def Mb (w:World) (v:Value) (l:List dR):Prop:=w.ownsRow 0 57 3 v l.length (l.flatMap nK)
theorem Mb.cells{w l}{g n cap:Nat}(h:Mb w (.slice (some (H g)) n cap) l)(b:n=l.length)(i:Nat)(c:i<l.length):
  w.cell? (K g (i*3))=some (A l[i].1)/\w.cell? (K g (i*3+1))=some (A l[i].2.1)/\w.cell? (K g (i*3+2))=some (A l[i].2.2):=by
 subst b;have a:=fun j (d:j<3)=>iw (f:=nK) (k:=3) (fun _=>rfl) h rfl i c j d
 refine⟨?_,?_,?_⟩
 ·exact a 0 (by omega)
 ·exact a 1 (by omega)
 ·exact a 2 (by omega)
theorem aic{D}(g:wG d e f h D b)(s:a<=3)(ih:BE d e b a)(x:cE)(m:ka x.num)(k:∃o,bl b x.obj=some o):
  O 184 #[Z e,.agg #[A x.num,A x.obj.1,A x.obj.2],A (4-(a:Int))] d fun c n=>c=.returned (.string (j9 (eo b a) x))/\J d n:=by
 obtain⟨o,k⟩:=k;have i:=aa ((aoQ d.heap.size d).alloc (aoP _) (.cells #[A x.num,A x.obj.1,A x.obj.2] 57));have p:=aa (afY x.num m (g.pow.af i.o));have q:=aa (ih _ i.o x.obj o k);clear g ih k;unfold j9;have heq:=uv;cases t:et x.obj.1 x.obj.2 0 0
 ·have u:IntKind.i64.wrap (4-(a:Int)+1)=5-(a:Int):=by rw[apO _ (by omega)];omega
  have v:(4-(a:Int))+1=5-(a:Int):=by omega
  go_enter func184,ntmps184;go_wp2_with fail
  refine q.o.mono ?_;rintro c r ⟨rfl,j⟩;have l:=aa (i.o.trans (j.mono i.o.size));clear j;go_wp2;go_ret
  exact⟨by simp,l.o⟩
 ·go_enter func184,ntmps184
  go_wp2_with fail
  refine p.o.mono ?_;rintro c r ⟨rfl,j⟩;have l:=aa (i.o.trans (j.mono i.o.size));clear j;go_wp2;go_ret
  exact⟨by simp,l.o⟩
theorem Q8{b c:World}{o:Obj}{e:Option Nat}(h:Below a b d)(f:(d.alloc o).grownBy c e)(g:a<=d.heap.size)(i:∀k,e=some k->a<=k):Below a b c:=
 (h.alloc g o).grown f (by simp;omega) i
theorem YP{D}(j:wG d e f h D b)(aI:a<=3)(ih:BE d e b a)(m n p r:Int)(s:ByteArray)(t:List cE)(hN:t.length<=10000)(R:(eY D.1 D.2 (m,n) s (p,r)).aB.Perm (t.map mQ))(cB:((eY D.1 D.2 (m,n) s (p,r)).aB.map (·.1)).Nodup)(F:∀x∈t,ka x.num)(I:∀x∈t,∃o,bl b x.obj=some o)(S:(qy (eo b a) t).size<=1000000000000):
  O 167 #[Z e,.agg #[A m,A n,.string s,A p,A r],A (4-(a:Int))] d fun c z=>c=.returned (.string (qy (eo b a) t))/\J d z:=by
 have U:=aa ((aoQ d.heap.size d).alloc (aoP _) (.cells #[A m,A n,.string s,A p,A r] 97));have dN:=aa (show O 49 #[Z e,.agg #[A m,A n,.string s,A p,A r]] (d.alloc (.cells #[A m,A n,.string s,A p,A r] 97)) fun c z=>∃u,c=.returned u/\nL (d.alloc (.cells #[A m,A n,.string s,A p,A r] 97)).heap.size z u ((uk t).map valOf)/\Below (d.alloc (.cells #[A m,A n,.string s,A p,A r] 97)).heap.size (d.alloc (.cells #[A m,A n,.string s,A p,A r] 97)) z from by
  refine(P2 (j.q.af U.o) m n p r s (by rw[R.length_eq,aoU];exact hN) cB).mono ?_;rintro c z ⟨u,hs,h1,h2,ak,aL,bW⟩;rw[aib (h2.trans R) ak,apI]at aL;exact⟨u,h1,aL,bW⟩)
 rw[<-YM]at hN;replace F:∀x∈uk t,ka x.num:=fun x w=>F x (Q6.1 w)
 replace I:∀x∈uk t,∃o,bl b x.obj=some o:=fun x w=>I x (Q6.1 w)
 unfold qy at S⊢;clear R cB;generalize uk t=l at *;have Iv:=aa (fun W (ab:J d W) x (w:x∈l)=>aic (j.af ab) aI (ih.af ab) x (F x w) (I x w));have Q9:=aa S;clear j ih F I S;go_enter func167,ntmps167;go_wp2_with fail
 refine dN.o.mono ?_;rintro c y ⟨u,rfl,L,aq⟩;have ax:=aa (U.o.trans (aq.mono U.o.size));clear aq;have hz1:=ax.o.size;have gi:=aa (show Mb y u (l.map valOf) from gC L (aoR _));have HUG:=aa (aoT L);obtain⟨kB,kC,rfl,uz,sL,hX⟩:=bp L;clear L;unfold maxLen at sL;rw[aoU]at uz;clear dN HUG;go_wp2_with fail
 go_loopw [7,14] (fun u i wr=>∃k:Nat,k<=l.length/\i=A k/\py y.heap.size wr u ((l.take k).map (j9 (eo b a)))/\J y wr) (fun _ i _=>l.length-(intOf i).toNat)
 case atStart=>exact⟨0,aoR _,rfl,ao9 _ _ _ _,aoQ _ _⟩
 case round=>
  obtain⟨k,hk,rfl,B,v⟩:=hrel;have sj:=v.size;have M:=aa (ax.o.trans (v.mono hz1));by_cases N:k<l.length
  ·obtain⟨g,rfl⟩:=hX k (by simpa using N)
   obtain⟨P,X,Y⟩:=Mb.cells gi.o (by simp) k (by simpa using N);simp only[apy,valOf]at P X Y;replace P:=af v P;replace X:=af v X;replace Y:=af v Y;have cP:=ao4 wr _ P;have c3:(k:Int)<(l.length:Int):=by omega
   have cL:=aa B;clear B;have gD:=aa v;clear v;have bM:=aa (show J wr (wr.alloc (.cells #[A l[k].num,A l[k].obj.1,A l[k].obj.2] 57)) from(aoQ _ wr).alloc (aoP _) _);have Iw:=aa (Iv.o _ (M.o.trans (bM.o.mono M.o.size)) l[k] (aoY N));go_wp2_with fail
   refine Iw.o.mono ?_;rintro c Q ⟨rfl,C⟩;have E:=aa (bM.o.trans (C.mono bM.o.size));clear C;have hz2:=E.o.size;have mb:=aa (show py y.heap.size Q _ ((l.take k).map (j9 (eo b a))) from c5 cL.o E.o);have nE:((l.take k).map (j9 (eo b a))).length=k:=by rw[aoU,ao7];omega
   go_wp2_with (at_builtin;go_must (refine KO rfl (.tmp 18) (.tmp 23) rfl y.heap.size _ ((l.take k).map (j9 (eo b a))) rfl ?h1 Q.heap.size 1 (j9 (eo b a) l[k]) rfl ?h2 ?aL ?bW ?_;(case h1=>exact aqd mb.o _);(case h2=>exact LV (bL Q _));(case aL=>omega);(case bW=>simp;omega);intro v' w3 fW dv;have mm:=aa dv;clear dv;have qb:=aa fW;clear fW))
   go_roundw
   case rel=>
    have a8:J y w3:=Q8 (gD.o.trans (E.o.mono gD.o.size)) (o:=.cells #[.string (j9 (eo b a) l[k])] 9) mm.o (by omega) fun g ah=>(aoT mb.o g ah).1
    exact⟨k+1,by omega,by go_num,by rw[El _ N];exact qb.o,a8⟩
   case measure=>simp[intOf];omega
  ·have hL:k=l.length:=by omega
   subst hL;rw[apc (aoP _)]at B;have vk:=aa (PI B bar (by rw[aoU];omega) (aoS Q9.o (by omega)));clear B;go_wp2_with fail
   refine vk.o.mono ?_;rintro c Q ⟨rfl,C⟩;have E:=aa (M.o.trans (C.mono M.o.size));clear C;go_wp2;go_ret
   exact⟨rfl,E.o⟩
end
end Go.Proofs.YtnkpogjiiohapaaGreatDoor
