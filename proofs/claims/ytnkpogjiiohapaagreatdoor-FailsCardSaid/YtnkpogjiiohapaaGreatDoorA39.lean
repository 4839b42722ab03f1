/- Our own text. -/
import Derived.Deep.DeepCutAuto
import Derived.Deep.RegionHeld3
import Derived.Deep.DrawnRows
import Derived.Deep.CutBlock
import Derived.Lib.AppendZerosOnto
import Derived.Test.YtnkpogjiiohapaaGreatDoorA38
import Derived.Test.YtnkpogjiiohapaaGreatDoorA06
set_option linter.unusedSimpArgs false
set_option linter.unusedVariables false
set_option maxRecDepth 1000000
set_option maxHeartbeats 8000000
namespace Go.Proofs.YtnkpogjiiohapaaGreatDoor
section
open Go.RowKit Tryz
attribute [local go_sem ↓] Go.wp_at_zero Go.wp_at_succ
variable {a l v:World}{b c j k m n:Nat}{d:Nat->Prop}{e q u:Value}{f i r:Int}{h:List PId}{s:Obj}
structure jX where
 kind:Int
 r:Int
 c:Int
 d:Int
 i1:Int
 i2:Int
 made:Int
 key:ByteArray
 a:Int
 b:Int
 yes:Bool
def Kc (o:jX):Array Value:= #[A o.kind,A o.r,A o.c,A o.d,A o.i1,A o.i2,A o.made,.string o.key,A o.a,A o.b,.bool o.yes]
structure p8 (o:jX):Prop where
 r:k7 o.r
 made:k7 o.made
 a:k7 o.a
 b:k7 o.b
 key:o.key.size<=maxLen
theorem ey{m n d o g h:Int}{l:ByteArray}{yes:Bool}(p:a.heap[c]?=some (.cells #[Z j,Z k,e] 135 (0,0)))(q:a.heap[b]?=some (.cells #[A f,A m,A i,A n,A r,A d,A o,.string l,A g,A h,.bool yes] 87 (0,0))):
  a.cell? (H c)=some (Z j)/\a.cell? (K c 1)=some (Z k)/\a.cell? (H b)=some (A f)/\a.cell? (K b 2)=some (A i)/\a.cell? (K b 4)=some (A r)/\a.cell? (K b 5)=some (A d)/\a.cell? (K b 7)=some (.string l)/\a.cell? (K b 8)=some (A g)/\a.cell? (K b 9)=some (A h)/\a.cell? (K b 10)=some (.bool yes):=by
 refine⟨?_,?_,?_,?_,?_,?_,?_,?_,?_,?_⟩<;>simp[World.cell?,p,q]
structure G4 (w:World) (aI:Nat) (F:Nat->Prop) (x r:Nat) (br:Value) (told:List PId) (N sp:Nat) (lq:Nat) (args:Array Value) (box:Obj) (hA:Nat) (i1 i2 m:Int) (wc:World):Prop where
 a:wc.heap[hA]?=some (.cells #[A i1,A i2] 36 (0,0))
 g:wc.heap[aI]?=w.heap[aI]?
 b:wc.heap[w.heap.size]?=some box
 next :∀b4,J wc b4->O lq args b4 fun e w2=>e=.returned (.tuple #[.agg #[A i1,A i2],A m])/\(∃aR e6 gh P',fW w2 aI aR x r br told e6 gh N sp P'/\c6 F aR w w2/\∀k,wc.heap.size<=k->k<b4.heap.size->¬aR k)/\w2.heap[hA]?=some (.cells #[A i1,A i2] 36 (0,0))/\w2.heap[w.heap.size]?=some box/\∀k,wc.heap.size<=k->k<b4.heap.size->w2.heap[k]?=b4.heap[k]?
theorem abh{wc y args}(hF:∀g,d g->g<a.heap.size)(B:d c)(C:Duo a l c d j k e h m n y args (.tuple #[.agg #[A f,A i],A r]) v)(D:a.heap.size<l.heap.size)(t:Loc a l v wc)(u:wc.heap[b]?=some (.cells #[A f,A i] 36 (0,0)))(E:a.heap.size<=b)(F:b<l.heap.size\/v.heap.size<=b)(w:wc.heap[a.heap.size]?=some s):G4 a c d j k e h m n y args s b f i r wc:=by
 obtain⟨I,h2,al,L⟩:=C;have M:=hF c B;refine⟨u,(t.other c (by omega) (.inl M)).trans I,w,fun N q=>(L N (t.grow q)).mono fun p w2 P=> ?_⟩;obtain⟨Q,⟨R,S,U,W,X,Y,ad⟩,x⟩:=P;have hz1:=t.size;have hz2:=q.size;have nC:=aN u;have eX:=aN w;refine⟨Q,⟨R,S,U,W,X,Y,fun g df z QG=> ?_⟩,?_,?_,fun g df z=>x g (by omega) (.inr (by omega)) z⟩
 ·rcases ad g QG with o|o|o
  ·have :=hF g o;omega
  ·omega
  omega
 ·rw[x b E F (by omega),q.block b nC];exact u
 rw[x a.heap.size (apX _) (.inl D) (by omega),q.block _ eX];exact w
theorem Tp{args}(hF:∀o,d o->o<a.heap.size)(v:d b)(p:Duo a ((a.alloc s).alloc (.cells #[q,u] 36)).drew b d c j e h k m n args (.tuple #[.agg #[A f,A i],A r]) l):
  G4 a b d c j e h k m n args s (a.heap.size+1) f i r ((l.setCell (H (a.heap.size+1)) (A f)).setCell (K (a.heap.size+1) 1) (A i)):=by
 have w:=p;obtain⟨C,t,x,D⟩:=p;simp at x;have y:l.heap[a.heap.size+1]?=some (.cells #[q,u] 36 (0,0)):=(t _ (by simp) (fun g=>by have :=hF _ g;omega)).trans (nh (by simp));have z:l.heap[a.heap.size]?=some s:=(t _ (by simp;omega) (fun g=>by have :=hF _ g;omega)).trans ((ed (by simp)).trans (bI a _));refine abh hF v w (by simp;omega) ⟨rfl,rfl,rfl,by simp[World.setCell],fun o E B=> ?_⟩ (aa4 y) (by omega) (.inl (by simp)) ((dy (by omega)).trans ((dy (by omega)).trans z));have :o≠a.heap.size+1:=by
  rcases B with g|g
  ·omega
  simp at g;omega
 exact(dy this).trans (dy this)
theorem Tq{args}(hF:∀g,d g->g<a.heap.size)(q:d b)(p:Duo a (a.alloc s).drew b d c j e h k m n args (.tuple #[.agg #[A f,A i],A r]) l):
  G4 a b d c j e h k m n args s l.heap.size f i r (l.alloc (.cells #[A f,A i] 36)):=by
 have t:=p;obtain⟨x,u,v,y⟩:=p;simp at v;have w:l.heap[a.heap.size]?=some s:=(u _ (by simp) (fun o=>by have :=hF _ o;omega)).trans (bI a _);exact abh hF q t (by simp) (Loc.cJ ((apY _ l).alloc (apX _) _)) (bI l _) (by omega) (.inr (apX _)) ((ed (by omega)).trans w)
structure Kd (w:World) (aI:Nat) (F:Nat->Prop) (x r:Nat) (br:Value) (told:List PId) (N sp:Nat) (hA j7:Nat) (i1 i2:Int) (wc:World):Prop where
 a:wc.heap[hA]?=some (.cells #[A i1,A i2] 36 (0,0))
 b:wc.heap[j7]?=some (.cells #[A i1,A i2] 36 (0,0))
 pair:∃aR e6 gh P',fW wc aI aR x r br told e6 gh N sp P'/\c6 F aR w wc
theorem Tr{wc:World}(w:l.heap.size<=wc.heap.size)(F:b<wc.heap.size)(x:∃p r s t,fW a c p j k u h r s m n t/\c6 d p l a/\∀g,wc.heap.size<=g->g<(wc.alloc (.cells #[e,q] 36)).drew.heap.size->¬p g)(y:a.heap[b]?=some (.cells #[A f,A i] 36 (0,0)))(z:∀g,wc.heap.size<=g->g<(wc.alloc (.cells #[e,q] 36)).drew.heap.size->a.heap[g]?=(wc.alloc (.cells #[e,q] 36)).drew.heap[g]?):
  Kd l c d j k u h m n b wc.heap.size f i ((a.setCell (V wc 0) (A f)).setCell (V wc 1) (A i)):=by
 obtain⟨p,r,s,t,B,v,C⟩:=x;have D:a.heap[wc.heap.size]?=some (.cells #[e,q] 36 (0,0)):=(z _ (apX _) (by simp)).trans (bI wc _);have E:=C wc.heap.size (apX _) (by simp);refine⟨(dy (by omega)).trans ((dy (by omega)).trans y),aa4 D,p,r,s,t,B.gw (by simp[World.setCell]) fun g v=> ?_,(v.vz w _).vz w _⟩;have :g≠wc.heap.size:=fun o=>E (o▸v)
 exact(dy this).trans (dy this)
theorem Ts{wc:World}(t:∃o p q r,fW a b o c j e h p q k m r/\c6 d o l a/\∀g,wc.heap.size<=g->g<v.heap.size->¬o g)(u:a.heap[n]?=some (.cells #[A f,A i] 36 (0,0))):
  Kd l b d c j e h k m n a.heap.size f i (a.alloc (.cells #[A f,A i] 36)):=by
 obtain⟨o,p,q,r,w,x,y⟩:=t;have s:=(apY a.heap.size a).alloc (apX _) (.cells #[A f,A i] 36);exact⟨bj u s,bI a _,o,p,q,r,w.ae s,x.after s⟩
def xC (w:World) (c:Nat) (F:Nat->Prop) (d:Nat) (a:World):Prop:=∃b,kI a c b d/\c6 F b w a
theorem al6{F}(h:kI l j F k)(o:jX)(g:p8 o)(z:o.kind=2):
  O 68 #[Z j,.agg #[A o.kind,A o.r,A o.c,A o.d,A o.i1,A o.i2,A o.made,.string o.key,A o.a,A o.b,.bool o.yes]] l fun e B=>e=.returned (.bool true)/\xC l j F (k+1) B:=by
 obtain⟨x,r,C,told,cu,cw,N,D,P,kz,h⟩:=h;rw[z];have q:=aa ((apY l.heap.size l).alloc (apX _) (.cells #[A 2,A o.r,A o.c,A o.d,A o.i1,A o.i2,A o.made,.string o.key,A o.a,A o.b,.bool o.yes] 87));have n:=aa (bI l (.cells #[A 2,A o.r,A o.c,A o.d,A o.i1,A o.i2,A o.made,.string o.key,A o.a,A o.b,.bool o.yes] 87));have E:=aa (bj h.blk q.o);have I:=aa (fun W (L:J l W)=>alZ h L o.c o.i1 o.i2 o.a g.a o.key g.key);have dn:=aa h.lt;have sy:=aa h.fA;have M:=aa (show ∀f,l.heap.size<=f->¬F f from fun f g hF=>by have :=h.lt f hF;omega);have c9:=h.lt _ h.fA;have Q:=aa h.blk;clear h g;go_enter func68,ntmps68;go_wp2_with fail
 go_region_held3 (fun W=>W.cell? (H j)=some (Z x)/\W.cell? (K j 1)=some (Z r)/\W.cell? (V l 0)=some (A 2)/\W.cell? (V l 2)=some (A o.c)/\W.cell? (V l 4)=some (A o.i1)/\W.cell? (V l 5)=some (A o.i2)/\W.cell? (V l 7)=some (.string o.key)/\W.cell? (V l 8)=some (A o.a)/\W.cell? (V l 9)=some (A o.b)/\W.cell? (V l 10)=some (.bool o.yes)) (first |exact ey E.o n.o|exact ey s.o i.o)
  (first |(go_at_call 23;refine(I.o _ q.o.drew).mono ?_;rintro e R ⟨m,rfl,t,u,hS,v⟩;have s:=aa (t.trans Q.o);have i:=aa ((u l.heap.size (aN n.o) (M.o _ (apX _))).trans n.o);have S:=aa v;clear t u v))
 go_wp2_with fail
 go_region_held3 (fun W=>W.cell? (H j)=some (Z x)/\W.cell? (K j 1)=some (Z r)/\W.cell? (V l 0)=some (A 2)/\W.cell? (V l 2)=some (A o.c)/\W.cell? (V l 4)=some (A o.i1)/\W.cell? (V l 5)=some (A o.i2)/\W.cell? (V l 7)=some (.string o.key)/\W.cell? (V l 8)=some (A o.a)/\W.cell? (V l 9)=some (A o.b)/\W.cell? (V l 10)=some (.bool o.yes)) (first |exact ey s.o i.o|exact ey U.o X.o)
  (first |(go_at_call 94;refine(S.o _ (Loc.cJ ((apY _ R).drew))).mono ?_;rintro e w2 ⟨rfl,⟨Y,e6,gh,P',p,w,eM⟩,y⟩;have U:=aa p.blk;have X:=aa ((y l.heap.size (apX _) (.inl (by simp)) (aN i.o)).trans i.o);have jP:=aa p;have jS:=aa w;clear p w y eM))
 go_wp2;go_ret
 exact⟨rfl,Y,⟨x,r,C,told,e6,gh,N,D,P',by omega,jP.o⟩,jS.o⟩
theorem al7{F}(h:kI l j F k)(o:jX)(i:p8 o)(z:o.kind=4):
  O 68 #[Z j,.agg #[A o.kind,A o.r,A o.c,A o.d,A o.i1,A o.i2,A o.made,.string o.key,A o.a,A o.b,.bool o.yes]] l fun e B=>e=.returned (.bool true)/\xC l j F (k+1) B:=by
 obtain⟨x,r,C,told,cu,cw,N,D,P,kz,h⟩:=h;rw[z];have q:=aa ((apY l.heap.size l).alloc (apX _) (.cells #[A 4,A o.r,A o.c,A o.d,A o.i1,A o.i2,A o.made,.string o.key,A o.a,A o.b,.bool o.yes] 87));have n:=aa (bI l (.cells #[A 4,A o.r,A o.c,A o.d,A o.i1,A o.i2,A o.made,.string o.key,A o.a,A o.b,.bool o.yes] 87));have E:=aa (bj h.blk q.o);have I:=aa (fun W (L:J l W)=>al0 h L o.c o.i1 o.i2 o.key i.key);have dn:=aa h.lt;have sy:=aa h.fA;have M:=aa (show ∀f,l.heap.size<=f->¬F f from fun f i hF=>by have :=h.lt f hF;omega);have c9:=h.lt _ h.fA;have Q:=aa h.blk;clear h i;go_enter func68,ntmps68;go_wp2_with fail
 go_region_held3 (fun W=>W.cell? (H j)=some (Z x)/\W.cell? (K j 1)=some (Z r)/\W.cell? (V l 0)=some (A 4)/\W.cell? (V l 2)=some (A o.c)/\W.cell? (V l 4)=some (A o.i1)/\W.cell? (V l 5)=some (A o.i2)/\W.cell? (V l 7)=some (.string o.key)/\W.cell? (V l 8)=some (A o.a)/\W.cell? (V l 9)=some (A o.b)/\W.cell? (V l 10)=some (.bool o.yes)) (first |exact ey E.o n.o|exact ey s.o g.o)
  (first |(go_at_call 78;refine(I.o _ q.o.drew).mono ?_;rintro e R ⟨m,rfl,t,u,hS,v⟩;have s:=aa (t.trans Q.o);have g:=aa ((u l.heap.size (aN n.o) (M.o _ (apX _))).trans n.o);have S:=aa v;clear t u v))
 go_wp2_with fail
 go_region_held3 (fun W=>W.cell? (H j)=some (Z x)/\W.cell? (K j 1)=some (Z r)/\W.cell? (V l 0)=some (A 4)/\W.cell? (V l 2)=some (A o.c)/\W.cell? (V l 4)=some (A o.i1)/\W.cell? (V l 5)=some (A o.i2)/\W.cell? (V l 7)=some (.string o.key)/\W.cell? (V l 8)=some (A o.a)/\W.cell? (V l 9)=some (A o.b)/\W.cell? (V l 10)=some (.bool o.yes)) (first |exact ey s.o g.o|exact ey U.o X.o)
  (first |(go_at_call 97;refine(S.o _ (Loc.cJ ((apY _ R).drew))).mono ?_;rintro e w2 ⟨rfl,⟨Y,e6,gh,P',p,w,eM⟩,y⟩;have U:=aa p.blk;have X:=aa ((y l.heap.size (apX _) (.inl (by simp)) (aN g.o)).trans g.o);have jP:=aa p;have jS:=aa w;clear p w y eM))
 go_wp2;go_ret
 exact⟨rfl,Y,⟨x,r,C,told,e6,gh,N,D,P',by omega,jP.o⟩,jS.o⟩
theorem al8{F}(h:kI l j F k)(o:jX)(i:p8 o)(z:o.kind=7):
  O 68 #[Z j,.agg #[A o.kind,A o.r,A o.c,A o.d,A o.i1,A o.i2,A o.made,.string o.key,A o.a,A o.b,.bool o.yes]] l fun e B=>e=.returned (.bool true)/\xC l j F (k+1) B:=by
 obtain⟨x,r,C,told,cu,cw,N,D,P,kz,h⟩:=h;rw[z];have q:=aa ((apY l.heap.size l).alloc (apX _) (.cells #[A 7,A o.r,A o.c,A o.d,A o.i1,A o.i2,A o.made,.string o.key,A o.a,A o.b,.bool o.yes] 87));have n:=aa (bI l (.cells #[A 7,A o.r,A o.c,A o.d,A o.i1,A o.i2,A o.made,.string o.key,A o.a,A o.b,.bool o.yes] 87));have E:=aa (bj h.blk q.o);have I:=aa (fun W (L:J l W)=>al1 h L o.c o.i1 o.i2 o.a o.b i.b);have dn:=aa h.lt;have sy:=aa h.fA;have M:=aa (show ∀f,l.heap.size<=f->¬F f from fun f i hF=>by have :=h.lt f hF;omega);have c9:=h.lt _ h.fA;have Q:=aa h.blk;clear h i;go_enter func68,ntmps68;go_wp2_with fail
 go_region_held3 (fun W=>W.cell? (H j)=some (Z x)/\W.cell? (K j 1)=some (Z r)/\W.cell? (V l 0)=some (A 7)/\W.cell? (V l 2)=some (A o.c)/\W.cell? (V l 4)=some (A o.i1)/\W.cell? (V l 5)=some (A o.i2)/\W.cell? (V l 7)=some (.string o.key)/\W.cell? (V l 8)=some (A o.a)/\W.cell? (V l 9)=some (A o.b)/\W.cell? (V l 10)=some (.bool o.yes)) (first |exact ey E.o n.o|exact ey s.o g.o)
  (first |(go_at_call 33;refine(I.o _ q.o.drew).mono ?_;rintro e R ⟨m,rfl,t,u,hS,v⟩;have s:=aa (t.trans Q.o);have g:=aa ((u l.heap.size (aN n.o) (M.o _ (apX _))).trans n.o);have S:=aa v;clear t u v))
 go_wp2_with fail
 go_region_held3 (fun W=>W.cell? (H j)=some (Z x)/\W.cell? (K j 1)=some (Z r)/\W.cell? (V l 0)=some (A 7)/\W.cell? (V l 2)=some (A o.c)/\W.cell? (V l 4)=some (A o.i1)/\W.cell? (V l 5)=some (A o.i2)/\W.cell? (V l 7)=some (.string o.key)/\W.cell? (V l 8)=some (A o.a)/\W.cell? (V l 9)=some (A o.b)/\W.cell? (V l 10)=some (.bool o.yes)) (first |exact ey s.o g.o|exact ey U.o X.o)
  (first |(go_at_call 101;refine(S.o _ (Loc.cJ ((apY _ R).drew))).mono ?_;rintro e w2 ⟨rfl,⟨Y,e6,gh,P',p,w,eM⟩,y⟩;have U:=aa p.blk;have X:=aa ((y l.heap.size (apX _) (.inl (by simp)) (aN g.o)).trans g.o);have jP:=aa p;have jS:=aa w;clear p w y eM))
 go_wp2;go_ret
 exact⟨rfl,Y,⟨x,r,C,told,e6,gh,N,D,P',by omega,jP.o⟩,jS.o⟩
theorem al9{F}(h:kI l j F k)(o:jX)(y:o.kind=8):
  O 68 #[Z j,.agg #[A o.kind,A o.r,A o.c,A o.d,A o.i1,A o.i2,A o.made,.string o.key,A o.a,A o.b,.bool o.yes]] l fun e z=>e=.returned (.bool true)/\xC l j F (k+1) z:=by
 obtain⟨x,r,B,told,cu,cw,N,C,P,kz,h⟩:=h;rw[y];have p:=aa ((apY l.heap.size l).alloc (apX _) (.cells #[A 8,A o.r,A o.c,A o.d,A o.i1,A o.i2,A o.made,.string o.key,A o.a,A o.b,.bool o.yes] 87));have i:=aa (bI l (.cells #[A 8,A o.r,A o.c,A o.d,A o.i1,A o.i2,A o.made,.string o.key,A o.a,A o.b,.bool o.yes] 87));have D:=aa (bj h.blk p.o);have E:=aa (fun W (I:J l W)=>al2 h I o.c o.i1 o.i2 o.a);have dn:=aa h.lt;have sy:=aa h.fA;have L:=aa (show ∀f,l.heap.size<=f->¬F f from fun f hk hF=>by have :=h.lt f hF;omega);have c9:=h.lt _ h.fA;have M:=aa h.blk;clear h;go_enter func68,ntmps68;go_wp2_with fail
 go_region_held3 (fun W=>W.cell? (H j)=some (Z x)/\W.cell? (K j 1)=some (Z r)/\W.cell? (V l 0)=some (A 8)/\W.cell? (V l 2)=some (A o.c)/\W.cell? (V l 4)=some (A o.i1)/\W.cell? (V l 5)=some (A o.i2)/\W.cell? (V l 7)=some (.string o.key)/\W.cell? (V l 8)=some (A o.a)/\W.cell? (V l 9)=some (A o.b)/\W.cell? (V l 10)=some (.bool o.yes)) (first |exact ey D.o i.o|exact ey q.o g.o)
  (first |(go_at_call 34;refine(E.o _ p.o.drew).mono ?_;rintro e Q ⟨m,rfl,s,t,hS,u⟩;have q:=aa (s.trans M.o);have g:=aa ((t l.heap.size (aN i.o) (L.o _ (apX _))).trans i.o);have R:=aa u;clear s t u))
 go_wp2_with fail
 go_region_held3 (fun W=>W.cell? (H j)=some (Z x)/\W.cell? (K j 1)=some (Z r)/\W.cell? (V l 0)=some (A 8)/\W.cell? (V l 2)=some (A o.c)/\W.cell? (V l 4)=some (A o.i1)/\W.cell? (V l 5)=some (A o.i2)/\W.cell? (V l 7)=some (.string o.key)/\W.cell? (V l 8)=some (A o.a)/\W.cell? (V l 9)=some (A o.b)/\W.cell? (V l 10)=some (.bool o.yes)) (first |exact ey q.o g.o|exact ey S.o U.o)
  (first |(go_at_call 102;refine(R.o _ (Loc.cJ ((apY _ Q).drew))).mono ?_;rintro e w2 ⟨rfl,⟨X,Y,gh,P',n,v,eM⟩,w⟩;have S:=aa n.blk;have U:=aa ((w l.heap.size (apX _) (.inl (by simp)) (aN g.o)).trans g.o);have jP:=aa n;have jS:=aa v;clear n v w eM))
 go_wp2;go_ret
 exact⟨rfl,X,⟨x,r,B,told,Y,gh,N,C,P',by omega,jP.o⟩,jS.o⟩
def wj (c:Int) (n:Nat):Nat:=(if c<0 then -(c+1) else c).toNat%n
theorem yV(c:Int)(h:0<b):wj c b<b:=Nat.mod_lt _ h
theorem Tt(c:Int)(n:Nat)(b: -9223372036854775808<=c)(d:c<=9223372036854775807)(f:0<n)(g:n<=9223372036854775807)(w:World):
  O 67 #[A c,A n] w fun e a=>e=.returned (A (wj c n))/\a=w:=by
 unfold wj;by_cases h:c<0
 ·rw[if_pos h];go_enter func67,ntmps67;go_wp2;go_ret
  refine⟨?_,rfl⟩;simp;rw[<-Int.neg_tmod,Int.tmod_eq_emod_of_nonneg (by omega)];have :max (-(c+1)) 0= -(c+1):=by omega
  rw[this]
 rw[if_neg h];go_enter func67,ntmps67;go_wp2;go_ret
 refine⟨?_,rfl⟩;have :max c 0=c:=by omega
 simp[this]
theorem ama{l}(f:eE a e l)(j:eE a q l):
  O 105 #[e,q] a fun b u=>b=.returned (.bool true)/\J a u:=by
 obtain⟨C,ac,rfl,D,v,m⟩:=bm f;obtain⟨E,F,rfl,I,w,n⟩:=bm j;unfold maxLen at v w;have x:=aa f;clear f;have y:=aa j;clear j;have z:=aa m;clear m;have B:=aa n;clear n;go_enter func105,ntmps105;go_wp2;go_loopw [5] (fun i wr=>∃k:Nat,k<=l.length/\i=A k/\J a wr) (fun i _=>l.length-(intOf i).toNat)
 case atStart=>exact⟨0,apZ _,rfl,apY _ _⟩
 case round=>
  obtain⟨k,L,rfl,c⟩:=hrel;by_cases d:k<l.length
  ·obtain⟨g,rfl⟩:=z.o k d;obtain⟨M,rfl⟩:=B.o k d;obtain⟨p,r⟩:=eE.cells x.o (by simp) k d;obtain⟨s,t⟩:=eE.cells y.o (by simp) k d;replace p:=ae c p;replace r:=ae c r;replace s:=ae c s;replace t:=ae c t;have heq:=AO;have N:(!eF l[k].1 l[k].2 l[k].1 l[k].2)=false:=by simp[eF]
   go_wp2;go_region
   all_goals go_wp2
   all_goals go_roundw
   case rel=>exact⟨k+1,by omega,by go_num,c.drew⟩
   case measure=>simp[intOf];omega
  go_wp2;go_ret
  exact⟨rfl,c⟩
def EU (w:World) (v:Value) (l:List dU):Prop:=w.ownsRow 0 57 3 v l.length (l.flatMap nR)
theorem EU.cells{w l}{g n cap:Nat}(h:EU w (.slice (some ⟨g,0,none⟩) n cap) l)(f:n=l.length)(i:Nat)(b:i<l.length):
  w.cell? ⟨g,i*3,none⟩=some (.int .i64 l[i].1)/\w.cell? ⟨g,i*3+1,none⟩=some (.int .i64 l[i].2.1)/\w.cell? ⟨g,i*3+2,none⟩=some (.int .i64 l[i].2.2):=by
 subst f;have c:=fun j (e:j<3)=>arN h (i*3+j) (by omega)
 have d:∀(l:List dU) (k:Nat) (a:k<l.length) (j:Nat),j<3->(l.flatMap nR)[k*3+j]?=(nR l[k])[j]?:=by
  intro l
  induction l with
  |nil=>intro k a;simp at a
  |cons x l ih=>
   intro k a j e;cases k with
   |zero=>rw[aqm,arY (by simp[nR];omega)];simp
   |succ k=>
    rw[aqm,arZ (by simp[nR];omega),show(nR x).length=3 from rfl,show(k+1)*3+j-3=k*3+j by omega];exact ih k (by simpa using a) j e
 refine⟨?_,?_,?_⟩
 ·have :=(c 0 (by omega)).trans (d l i b 0 (by omega));simpa[nR]using this
 ·have :=(c 1 (by omega)).trans (d l i b 1 (by omega));simpa[nR]using this
 have :=(c 2 (by omega)).trans (d l i b 2 (by omega));simpa[nR]using this
def NW (a b c d e f:Int):Bool:=decide (a=d/\b=e/\c=f)
theorem amb(a b c d e f:Int)(W:World):(binOp .neq 57 (.agg #[A a,A b,A c]) (.agg #[A d,A e,A f])).run prog W=.ok (.bool (!NW a b c d e f)) W:=by
 go_simp;unfold NW;by_cases g:a=d<;>by_cases h:b=e<;>by_cases i:c=f<;>simp[g,h,i]
theorem amc{l}(f:EU a e l)(j:EU a q l):
  O 108 #[e,q] a fun b w=>b=.returned (.bool true)/\J a w:=by
 obtain⟨E,ac,rfl,F,x,m⟩:=bm f;obtain⟨I,L,rfl,M,y,n⟩:=bm j;unfold maxLen at x y;have z:=aa f;clear f;have B:=aa j;clear j;have C:=aa m;clear m;have D:=aa n;clear n;go_enter func108,ntmps108;go_wp2;go_loopw [5] (fun i wr=>∃k:Nat,k<=l.length/\i=A k/\J a wr) (fun i _=>l.length-(intOf i).toNat)
 case atStart=>exact⟨0,apZ _,rfl,apY _ _⟩
 case round=>
  obtain⟨k,N,rfl,c⟩:=hrel;by_cases d:k<l.length
  ·obtain⟨g,rfl⟩:=C.o k d;obtain⟨P,rfl⟩:=D.o k d;obtain⟨p,r,s⟩:=EU.cells z.o (by simp) k d;obtain⟨t,u,v⟩:=EU.cells B.o (by simp) k d;replace p:=ae c p;replace r:=ae c r;replace s:=ae c s;replace t:=ae c t;replace u:=ae c u;replace v:=ae c v;have heq:=amb;have Q:(!NW l[k].1 l[k].2.1 l[k].2.2 l[k].1 l[k].2.1 l[k].2.2)=false:=by simp[NW]
   go_wp2;go_region
   all_goals go_wp2
   all_goals go_roundw
   case rel=>exact⟨k+1,by omega,by go_num,c.drew⟩
   case measure=>simp[intOf];omega
  go_wp2;go_ret
  exact⟨rfl,c⟩
end
section
open Go.RowKit Tryz
variable {a c f h n:Nat}{b l:World}{d e m:Nat->Prop}{i:Value}{j:List PId}{k:fV}{q:Nat->List ar}{r:bn}{s:cI}
theorem abj {β:Type}:∀{l m:List (PId×β)},(l.Pairwise fun a b=>e2 a.1 b.1=true)->(m.Pairwise fun a b=>e2 a.1 b.1=true)->l.Perm m->l=m
 |[],m,_,_,c=>c.nil_eq
 |a::l,[],_,_,c=>absurd c.length_eq (by simp)
 |a::l,b::m,e,f,c=>by
  obtain⟨g,i⟩:=aqU.1 e;obtain⟨j,k⟩:=aqU.1 f;have n:a=b:=by
   rcases aqb.1 (c.mem_iff.1 (aqf (a:=a) (l:=l))) with h|h
   ·exact h
   rcases aqb.1 (c.mem_iff.2 (aqf (a:=b) (l:=m))) with d|d
   ·exact d.symm
   have :=BE (g b d) (j a h);rw[uw]at this;cases this
  subst n;rw[abj i k ((List.perm_cons a).1 c)]
theorem amd{D:List bg}{x:PId}{a:ByteArray}{m:Int}(h:lS D x a=.error m):vd D x a=.error m:=by
 unfold vd;rw[h]
theorem ame(b:a<=4):lL (a+1)<=1125899906842620:=by
 have c:lL 0=1:=rfl;have d:lL 1=2+240*(28+lL 0):=rfl;have e:lL 2=2+240*(28+lL 1):=rfl;have f:lL 3=2+240*(28+lL 2):=rfl;have g:lL 4=2+240*(28+lL 3):=rfl;have h:lL 5=2+240*(28+lL 4):=rfl;have :a=0\/a=1\/a=2\/a=3\/a=4:=by omega
 rcases this with rfl|rfl|rfl|rfl|rfl<;>simp only[aqQ,Nat.reduceAdd]<;>omega
theorem amf{f:Nat->Int}{g:Nat->Nat}(h:kH c b i ((List.range a).map g))(m:∀d,d<a->f d=(g d:Int)):qF c b i (km a f):=by
 have e:∀l:List Nat,(∀d∈l,d<a)->(l.map g).flatMap pw=(l.map f).flatMap wZ:=fun l k=>by
  induction l with
  |nil=>rfl
  |cons d l ih=>
   rw[aqj,aqj,aqm,aqm,ih fun j n=>k j (aqh _ n),m d (k d aqf)];rfl
 unfold kH at h;unfold qF km;rw[e _ fun d o=>aqX.1 o,ap2]at h;rw[ap2];exact h
theorem abk{f:bg->bg}(b:∀o,(f o).id=o.id):∀(l:List bg) (k:Nat),(l.modify k f).map bg.id=l.map bg.id
 |[],_=>by simp
 |a::l,0=>by simp[b]
 |a::l,k+1=>by simp[abk b l k]
theorem abl:∀(S:List bH) (R:List bg),(R.map bg.id).Nodup->(∀p∈S,p.id∉R.map bg.id)->(S.map (·.id)).Nodup->((S.foldl cc R).map bg.id).Nodup
 |[],_,h,_,_=>h
 |p::S,R,h,d,k=>by
  obtain⟨l,m⟩:=aqw.1 k;have n:=d p aqf;have f:∀q∈S,q.id≠p.id:=fun q f e=>l (ap5.2 ⟨q,f,e⟩)
  rw[arE];have i:(cc R p).map bg.id=R.map bg.id++[p.id]\/(cc R p).map bg.id=R.map bg.id:=by
   unfold cc;split
   ·exact .inl (by rw[aqi];rfl)
   split
   ·exact .inr rfl
   exact .inr (abk (UU p) _ _)
  refine abl S _ ?_ (fun q g c=> ?_) m
  ·rcases i with e|e
   ·rw[e];exact aqF.2 ⟨h,by simp,fun a o b j r=>by rw[ap9]at j;subst j r;exact n o⟩
   rw[e];exact h
  rcases i with e|e
  ·rw[e]at c;rcases ap7.1 c with c|c
   ·exact d q (aqh _ g) c
   exact f q g (ap9.1 c)
  rw[e]at c;exact d q (aqh _ g) c
theorem dL.ids(j:dL b f d e c h q r s)(n:a<c):((cq (r.ops a)).map bg.id).Nodup:=by
 refine abl _ c4 (by simp[c4]) (fun p v t=> ?_) ?_
 ·obtain⟨o,w,rfl⟩:=ap5.1 v;obtain⟨g,x,y⟩:=(j.ok.copy a n).made w;obtain⟨i,z,B⟩:=List.getElem_of_mem y;have m:=(j.ok.made.id g x i z).2.2;rw[B]at m;simp only[c4,aqj,aqY,ap9,p3]at t;rw[t]at m;exact absurd m (by decide)
 rw[aqO];refine aqN.2 ((j.ok.jB a n).imp fun{k l} u g=> ?_);simp only[Function.comp,p3]at g;rw[g,uw]at u;cases u
theorem dL.amg{M}(i:dL b f d e c h M r s)(t:a<c){k l:Int}{j:ByteArray}{o:bg}{m:List (PId×dU)}(n:bt (cq (r.ops a)) (k,l)=some o)(u:o.list=false)(p:kr j=true)(w:m.Perm (eZ (s.q a).D.1 (s.q a).D.2 (k,l) j (0,0)).aC)(x:mX (m.map (·.1))):vd (cq (r.ops a)) (k,l) j=.ok (m.map (·.2)):=by
 have y:j≠⟨#[]⟩:=fun g=>by rw[g]at p;exact absurd p (by decide)
 have z:=w.trans ((i.ko t).zJ n u y (0,0)).2;have v:=(pt.of (i.ok.jB a t)).Ch n j (0,0);rw[<-ZN]at v;have g:=abj (aqN.1 x) (aqN.1 v) z;unfold vd;rw[Ae n u,p,g,aqO];rfl
theorem dL.amh(g:dL b a d e f h q r s)(k:c<f)(x:Jg f q):OW (cq (r.ops c)):=by
 have l:=g.nice x k;have z:=g.len k;have B:=(g.doc k).1;have m:=fun{o:bg} (j:o∈cq (r.ops c))=>age (g.ids k) j
 refine⟨fun o j u=> ?_,fun o j n p=>ap0 (l.Je _ o (m j) n p) (by omega),fun o j=>l.nums _ o (m j),fun o j n p y C=>.inr ?_,fun a D o j=> ?_⟩
 ·obtain⟨I,_,v⟩:=B.bh _ o (m j);exact⟨aqN.1 (v.FR u),fun n p=>(v.keys u n p).1⟩
 ·obtain⟨E,w⟩:=l.wE _ o (m j) n p y C;exact⟨E,af0 w,Qf w⟩
 have i:=(pt.of (g.ok.jB c k)).text l (a+1) o.id;have F:zf (q2 (cq (r.ops c)) a) o.list (kg o)=q2 (cq (r.ops c)) (a+1) o.id:=by
  show _=(match bt (cq (r.ops c)) o.id with |some o=>zf (q2 (cq (r.ops c)) a) o.list (kg o)|none=>⟨#[]⟩);rw[m j]
 have t:=l.ZA z (a+1) o.id;rw[<-i,<-F]at t;unfold zf at t;have L:lL (a+1)<=1125899906842620:=ame D;split at t<;>simp only[kA]at t<;>omega
def Ke (d w:World) (f:Nat) (F:Nat->Prop) (x r:Nat) (h:Value) (i:List PId) (j l:Nat->Prop) (N m:Nat) (P:fV) (n:Nat) (args:Array Value) (Q:Ending->World->World->Prop) (b:World):Prop:=
 b.heap[f]?=d.heap[f]?/\(∀k,k<w.heap.size->¬F k->b.heap[k]?=w.heap[k]?)/\w.heap.size<=b.heap.size/\
  ∀a,J b a->O n args a fun e c=>Q e a c/\(∃g,fW c f g x r h i j l N m P/\c6 F g d c/\∀k,g k->F k)/\∀k,d.heap.size<=k->k<a.heap.size->c.heap[k]?=a.heap[k]?
theorem AK{B:World}(o:fW b f d h a i j e m c n k)(C:J b l){D:Nat}{args:Array Value}{Q:Ending->World->World->Prop}(u:J l B)(F:∀q d L I v,cL q a d L I c k.S v->O D args q fun p w=>Q p q w/\J q w):Ke b l f d h a i j e m c n k D args Q B:=by
 have E:=(o.ae C).eV;obtain⟨⟨M,N,P⟩,x⟩:=abg o C (E.gw u.size fun g r=>u.block g (E.lt g r)) (c6.cJ u);refine⟨M,N,P,fun q R=> ?_⟩;obtain⟨U,W,y⟩:=x q (Loc.cJ R);obtain⟨z,X,Y,v,hm,_⟩:=id y;refine(F q z X Y v hm).mono fun p w s=>⟨s.1,?_,fun g df c3=>s.2.block g c3⟩
 obtain⟨z,x,b1,e9⟩:=o.both U W (c6.cJ s.2) (y.ae s.2.size fun g r=>s.2.block g (y.lt g r)) o.rel;refine⟨z,x,b1,fun g r=> ?_⟩;rcases e9 g r with t|t|t
 ·exact t
 ·exact o.CE g t
 exact o.b3 g t
theorem ami(g:fW l h d c f i j e m a n k)(v:J l b)(z:Pow b)(C:Int):
  O 28 #[Z c,A C] b fun o w=>∃s q,o=.returned (.tuple #[.string s,A q])/\Ke l b h d c f i j e m a n k 103 #[Z f,A C] (fun o _ _=>o=.returned (.tuple #[.string s,A q])) w:=by
 obtain⟨E,F,I,t,L,_⟩:=(g.ae v).eV;by_cases y:0<=C/\C<a
 ·obtain⟨p,rfl⟩:∃p:Nat,C=p:=⟨C.toNat,by omega⟩;have u:p<a:=by omega
  refine(ai2 t z g.rel.nice u).mono fun o w r=>⟨_,_,r.1,AK g v r.2 fun B _ _ _ _ x=> ?_⟩
  refine(adC (x.ct.yf (g.rel.own t u)).toShown (t.amh u g.rel.nice)).mono fun o M r=>⟨?_,r.2⟩
  rw[r.1];have D:q2 (cq (k.s.ops p)) 4 (0,0)=ew (cq (k.s.ops p)) 4 (0,0):=(pt.of (t.ok.jB p u)).text (t.nice g.rel.nice u) 4 (0,0);rw[<-D];rfl
 exact(ajr t.m.jV C y).mono fun o w r=>⟨_,_,r.1,AK g v r.2 fun B _ _ _ _ x=>adB x.ct.room C y⟩
theorem amj(p:fW l h d f c i j e m a n k)(E:J l b)(C u w:Int):
  O 29 #[Z f,A C,.agg #[A u,A w]] b fun g F=>∃v r,∃q:List PId,g=.returned (.tuple #[v,A r])/\gA b.heap.size F v q/\Ke l b h d f c i j e m a n k 104 #[Z c,A C,.agg #[A u,A w]] (fun g _ M=>∃Q,g=.returned (.tuple #[Q,A r])/\eE M Q q/\q.length<=240) F:=by
 obtain⟨nI,nJ,iP,N,dz,_⟩:=(p.ae E).eV;by_cases R:0<=C/\C<a
 ·obtain⟨o,rfl⟩:∃o:Nat,C=o:=⟨C.toNat,by omega⟩;have U:o<a:=by omega
  refine(aiB N U u w).mono fun g F t=> ?_
  have W:=fun B d L I D (y:cL B c d L I a k.S D)=>adz (y.ct.yf (p.rel.own N U)).toShown u w
  obtain⟨X,⟨r,x,rfl⟩|⟨v,q,x,_,rfl,af⟩⟩:=t
  ·refine⟨_,_,[],rfl,aqe _ _ _ _,AK p E X fun B d L I D y=>(W B d L I D y).mono fun g M t=> ?_⟩;obtain⟨P,⟨m2,_,z,rfl⟩|⟨v2,cA,z,Y,rfl,iv⟩⟩:=t
   ·rw[show iF (cq (k.s.ops o)) (u,w)=_ from z]at x;cases x;exact⟨⟨_,rfl,aqe _ _ _ _,by simp⟩,P⟩
   rw[show iF (cq (k.s.ops o)) (u,w)=_ from z]at x;cases x
  refine⟨_,_,q,rfl,af,AK p E X fun B d L I D y=>(W B d L I D y).mono fun g M t=> ?_⟩;obtain⟨P,⟨m2,_,z,rfl⟩|⟨v2,cA,z,Y,rfl,iv⟩⟩:=t
  ·rw[show iF (cq (k.s.ops o)) (u,w)=_ from z]at x;cases x
  rw[show iF (cq (k.s.ops o)) (u,w)=_ from z]at x;cases x;exact⟨⟨_,rfl,gT iv (apZ _),Y⟩,P⟩
 exact(ajp N.m.jV C R u w).mono fun g F t=>⟨_,_,[],t.1,aqe _ _ _ _,AK p E t.2 fun B _ _ _ _ y=>(adA y.ct.room C u w R).mono fun g M t=>⟨⟨_,t.1,aqe _ _ _ _,by simp⟩,t.2⟩⟩
theorem amk(t:fW l h d f c i j e m a n k)(P:J l b)(C z B:Int)(x:ByteArray)(dW:x.size<=maxLen):
  O 24 #[Z f,A C,.agg #[A z,A B],.string x] b fun q D=>∃v g,∃p:List dU,q=.returned (.tuple #[v,A g])/\oT b.heap.size D v p/\Ke l b h d f c i j e m a n k 107 #[Z c,A C,.agg #[A z,A B],.string x] (fun q _ Q=>∃v',q=.returned (.tuple #[v',A g])/\EU Q v' p/\p.length<=240) D:=by
 obtain⟨nI,nJ,iP,M,dz,_⟩:=(t.ae P).eV;by_cases hc:0<=C/\C<a
 ·obtain⟨r,rfl⟩:∃r:Nat,C=r:=⟨C.toNat,by omega⟩;have R:r<a:=by omega
  refine(aj3 M R z B x dW).mono fun q D y=> ?_
  have aH:=fun N d L I U (E:cL N c d L I a k.S U)=>adE (E.ct.yf (t.rel.own M R)).toShown z B x dW
  obtain⟨ab,y⟩:=y;obtain⟨g,p,W,w⟩:∃g p,(∃v,q=.returned (.tuple #[v,A g])/\oT b.heap.size D v p)/\((vd (cq (k.s.ops r)) (z,B) x=.error g/\p=[])\/(vd (cq (k.s.ops r)) (z,B) x=.ok p/\g=0)):=by
   rcases y with⟨g,X,F⟩|⟨o,u,aC,af,bz,X,F,ah,av,hu⟩
   ·exact⟨g,[],⟨_,F,aqe _ _ _ _⟩,.inl ⟨amd X,rfl⟩⟩
   exact⟨0,_,⟨u,F,hu⟩,.inr ⟨M.amg R af bz X ah av,rfl⟩⟩
  obtain⟨v,F,W⟩:=W;refine⟨v,g,p,F,W,AK t P ab fun N d L I U E=>(aH N d L I U E).mono fun q Q y=> ?_⟩;obtain⟨jj,⟨m2,_,Y,rfl⟩|⟨v2,cA,Y,hle,rfl,iv⟩⟩:=y
  ·rw[show vd (cq (k.s.ops r)) (z,B) x=_ from Y]at w;rcases w with⟨w,rfl⟩|⟨w,_⟩
   ·cases w;exact⟨⟨_,rfl,aqe _ _ _ _,by simp⟩,jj⟩
   cases w
  rw[show vd (cq (k.s.ops r)) (z,B) x=_ from Y]at w;rcases w with⟨w,_⟩|⟨w,rfl⟩
  ·cases w
  cases w;exact⟨⟨_,rfl,gT iv (apZ _),hle⟩,jj⟩
 exact(ajq M.m.jV C hc z B x).mono fun q D y=>⟨_,_,[],y.1,aqe _ _ _ _,AK t P y.2 fun N _ _ _ _ E=>(adF E.ct.room C z B x hc).mono fun q Q y=>⟨⟨_,y.1,aqe _ _ _ _,by simp⟩,y.2⟩⟩
theorem aml(p:fW l h d c f i j e m a n k)(x:J l b)(C:Int):
  O 25 #[Z c,A C] b fun g w=>∃v r,∃q:List Int,g=.returned (.tuple #[v,A r])/\qF b.heap.size w v q/\Ke l b h d c f i j e m a n k 110 #[Z f,A C] (fun g _ y=>∃E,g=.returned (.tuple #[E,A r])/\qF 0 y E q/\q.length<=240) w:=by
 obtain⟨U,W,X,z,Y,_⟩:=(p.ae x).eV;by_cases F:0<=C/\C<a
 ·obtain⟨o,rfl⟩:∃o:Nat,C=o:=⟨C.toNat,by omega⟩;have B:o<a:=by omega
  have hN:=z.m.hN;refine(ahQ z.m o B).mono fun g w t=> ?_
  obtain⟨u,rfl,M,N⟩:=t;refine⟨u,0,_,rfl,M,AK p x N fun P d L I jo D=>(aj9 D.ct.room o B).mono fun g y t=> ?_⟩;obtain⟨u2,rfl,Q,R⟩:=t;refine⟨⟨u2,rfl,?_,by rw[uD];omega⟩,R⟩;exact amf (gT Q (apZ _)) fun s S=>p.rel.rel.has o B s S
 exact(ajs z.m.jV C F).mono fun g w t=>⟨_,_,[],t.1,aqe _ _ _ _,AK p x t.2 fun P _ _ _ _ D=>(aj8 D.ct.room C F).mono fun g y t=>⟨⟨_,t.1,aqe _ _ _ _,by simp⟩,by rw[t.2];exact apY _ _⟩⟩
theorem amm{w:World}{m:Nat}{c1 bV cY bQ:Value}{d:List Nat}{a:Option Addr}{n c:Nat}(aA:w.heap[m]?=some (.cells #[c1,bV,cY,bQ] 84 (0,0)))(nC:d.length<2000000000000)(hn:n<2000000000000)(av:w.ownsRow 0 140 1 cY d.length (d.flatMap kZ))(hl:Shape 57 3 w (.slice a n c) n):
  O 109 #[.pointer (some ⟨m,1,none⟩),.slice a n c] w fun e w'=>e=.returned (.tuple #[])/\AF 57 53 140 3 #[.int .i64 (-7070-(d.length:Int)),.int .i64 0,.int .i64 0] w m (.slice a n c) cY d n (fun x=> #[c1,bV,x,bQ]) w':=by
 obtain⟨D,ac,rfl,nC,xm,rB⟩:=bm av;have y1:w.cell? ⟨m,2,none⟩=some (.slice D d.length ac):=by simp[World.cell?,aA]
 have BZ:IntKind.i64.wrap (-7070-(d.length:Int))= -7070-(d.length:Int):=aqS _ (by omega);have S:=aa hl;have tv:=aa hl;have gI:=aa aA;have bY:=aa av;clear aA av rB;have tI:=aa (show ∀q,w.heap.size<=q->¬((Value.slice a n c).ownBlock=some q) from fun q f C=>by have :=hl.lt q C;omega);have E:=aa (bI w (.cells #[.int .i64 (-7070-(d.length:Int)),.int .i64 0,.int .i64 0] 57));clear hl;go_enter func109,ntmps109;go_wp2_with fail
 go_cut [5] (fun p wc=>∃l,p=.slice (some ⟨l,0,none⟩) 4 4/\∃U,Nm 57 53 3 #[.int .i64 (-7070-(d.length:Int)),.int .i64 0,.int .i64 0] w (.slice a n c) n l U wc)
 case first =>
  go_region_held3 (fun W=>W.cell? ⟨w.heap.size,0,none⟩=some (.int .i64 (-7070-(d.length:Int)))/\W.cell? ⟨w.heap.size,1,none⟩=some (.int .i64 0)/\W.cell? ⟨w.heap.size,2,none⟩=some (.int .i64 0)) (first |exact EM (t:=57) (by(repeat(first |exact F.o|exact P.o|exact Q.o|exact E.o|exact nh (by first |rfl|(simp;done)|(simp;omega))|refine(ed (by first |omega|(simp;done)|(simp;omega))).trans ?_|refine(I.o _ (by first |omega|(simp;done)|(simp;omega)) (by first |omega|(simp;done)|(simp;omega))).trans ?_|refine(L.o _ (by first |omega|(simp;done)|(simp;omega)) (by first |omega|(simp;done)|(simp;omega))).trans ?_|refine(M.o _ (by first |omega|(simp;done)|(simp;omega)) (by first |omega|(simp;done)|(simp;omega))).trans ?_))))
   (first
    |(refine G2 3 24 53 57 (.agg #[.int .i64 0,.int .i64 0,.int .i64 0]) (by kernel_rfl) underlying53 rfl (by omega) (by rfl) (.tmp 16) (.tmp 18) (by rfl) (.slice a n c) n (by rfl) (S.o.same (cb.s (by(repeat(first |exact X.o|exact Y.o|exact cb.refl _ _ _|refine cb.alloc ?_ _|refine cb.drew ?_)):cb 57 (.slice a n c) w _))) _ 1 1 (by omega) (by rfl) (cs:= #[.int .i64 (-7070-(d.length:Int)),.int .i64 0,.int .i64 0]) (by(repeat(first |exact F.o|exact P.o|exact Q.o|exact E.o|exact nh (by first |rfl|(simp;done)|(simp;omega))|refine(ed (by first |omega|(simp;done)|(simp;omega))).trans ?_|refine(I.o _ (by first |omega|(simp;done)|(simp;omega)) (by first |omega|(simp;done)|(simp;omega))).trans ?_|refine(L.o _ (by first |omega|(simp;done)|(simp;omega)) (by first |omega|(simp;done)|(simp;omega))).trans ?_|refine(M.o _ (by first |omega|(simp;done)|(simp;omega)) (by first |omega|(simp;done)|(simp;omega))).trans ?_))) (by rfl) (by simp[Value.oneCell']) (by omega) (by unfold maxLen;omega) ?_;intro b2 a6 w1 hS fD aq;have hz1:=fD.t.size;(try simp at hz1);have iN:=aa hS;have Y:=aa (cb.trans (by(repeat(first |exact X.o|exact Y.o|exact cb.refl _ _ _|refine cb.alloc ?_ _|refine cb.drew ?_)):cb 57 (.slice a n c) w _) fD);have M:=aa (fun q f (gZ:w.heap.size<=q)=>fD.t.other q f (tI.o q gZ));have Q:=aa (show w1.heap[w.heap.size]?=some (.cells #[.int .i64 (-7070-(d.length:Int)),.int .i64 0,.int .i64 0] 57 (0,0)) from(M.o _ (by first |omega|(simp;done)|(simp;omega)) (apX _)).trans (by(repeat(first |exact F.o|exact P.o|exact Q.o|exact E.o|exact nh (by first |rfl|(simp;done)|(simp;omega))|refine(ed (by first |omega|(simp;done)|(simp;omega))).trans ?_|refine(I.o _ (by first |omega|(simp;done)|(simp;omega)) (by first |omega|(simp;done)|(simp;omega))).trans ?_|refine(L.o _ (by first |omega|(simp;done)|(simp;omega)) (by first |omega|(simp;done)|(simp;omega))).trans ?_|refine(M.o _ (by first |omega|(simp;done)|(simp;omega)) (by first |omega|(simp;done)|(simp;omega))).trans ?_))));have e0:(Value.slice a n c).ownBlock=some b2\/w.heap.size<b2:=(aq.imp id (fun C=>by(try simp at C);omega));clear hS fD aq)
    |(refine G2 3 24 53 57 (.agg #[.int .i64 0,.int .i64 0,.int .i64 0]) (by kernel_rfl) underlying53 rfl (by omega) (by rfl) (.tmp 20) (.tmp 23) (by rfl) (.slice a n c) n (by rfl) (S.o.same (cb.s (by(repeat(first |exact X.o|exact Y.o|exact cb.refl _ _ _|refine cb.alloc ?_ _|refine cb.drew ?_)):cb 57 (.slice a n c) w _))) _ 2 2 (by omega) (by rfl) (cs:= #[.int .i64 (-7070-(d.length:Int)),.int .i64 0,.int .i64 0,.int .i64 (-7070-(d.length:Int)),.int .i64 0,.int .i64 0]) (by(repeat(first |exact F.o|exact P.o|exact Q.o|exact E.o|exact nh (by first |rfl|(simp;done)|(simp;omega))|refine(ed (by first |omega|(simp;done)|(simp;omega))).trans ?_|refine(I.o _ (by first |omega|(simp;done)|(simp;omega)) (by first |omega|(simp;done)|(simp;omega))).trans ?_|refine(L.o _ (by first |omega|(simp;done)|(simp;omega)) (by first |omega|(simp;done)|(simp;omega))).trans ?_|refine(M.o _ (by first |omega|(simp;done)|(simp;omega)) (by first |omega|(simp;done)|(simp;omega))).trans ?_))) (by rfl) (by simp[Value.oneCell']) (by omega) (by unfold maxLen;omega) ?_;intro a2 bc w2 eM gU aY;have hz2:=gU.t.size;(try simp at hz2);replace iN:=aa (iN.o.same ((cb.s (by(repeat(first |exact cb.refl _ _ _|refine cb.alloc ?_ _|refine cb.drew ?_)):cb 57 (.slice a n c) w1 _)).trans gU.s));have l4:=aa eM;have X:=aa (cb.trans (by(repeat(first |exact X.o|exact Y.o|exact cb.refl _ _ _|refine cb.alloc ?_ _|refine cb.drew ?_)):cb 57 (.slice a n c) w _) gU);have L:=aa (fun q f (gZ:w.heap.size<=q)=>gU.t.other q f (tI.o q gZ));have P:=aa (show w2.heap[w.heap.size]?=some (.cells #[.int .i64 (-7070-(d.length:Int)),.int .i64 0,.int .i64 0] 57 (0,0)) from(L.o _ (by first |omega|(simp;done)|(simp;omega)) (apX _)).trans (by(repeat(first |exact F.o|exact P.o|exact Q.o|exact E.o|exact nh (by first |rfl|(simp;done)|(simp;omega))|refine(ed (by first |omega|(simp;done)|(simp;omega))).trans ?_|refine(I.o _ (by first |omega|(simp;done)|(simp;omega)) (by first |omega|(simp;done)|(simp;omega))).trans ?_|refine(L.o _ (by first |omega|(simp;done)|(simp;omega)) (by first |omega|(simp;done)|(simp;omega))).trans ?_|refine(M.o _ (by first |omega|(simp;done)|(simp;omega)) (by first |omega|(simp;done)|(simp;omega))).trans ?_))));have jy:(Value.slice a n c).ownBlock=some a2\/w.heap.size<a2:=(aY.imp id (fun C=>by(try simp at C);omega));clear eM gU aY)
    |(refine G2 3 24 53 57 (.agg #[.int .i64 0,.int .i64 0,.int .i64 0]) (by kernel_rfl) underlying53 rfl (by omega) (by rfl) (.tmp 25) (.tmp 29) (by rfl) (.slice a n c) n (by rfl) (S.o.same (cb.s (by(repeat(first |exact X.o|exact Y.o|exact cb.refl _ _ _|refine cb.alloc ?_ _|refine cb.drew ?_)):cb 57 (.slice a n c) w _))) _ 3 3 (by omega) (by rfl) (cs:= #[.int .i64 (-7070-(d.length:Int)),.int .i64 0,.int .i64 0,.int .i64 (-7070-(d.length:Int)),.int .i64 0,.int .i64 0,.int .i64 (-7070-(d.length:Int)),.int .i64 0,.int .i64 0]) (by(repeat(first |exact F.o|exact P.o|exact Q.o|exact E.o|exact nh (by first |rfl|(simp;done)|(simp;omega))|refine(ed (by first |omega|(simp;done)|(simp;omega))).trans ?_|refine(I.o _ (by first |omega|(simp;done)|(simp;omega)) (by first |omega|(simp;done)|(simp;omega))).trans ?_|refine(L.o _ (by first |omega|(simp;done)|(simp;omega)) (by first |omega|(simp;done)|(simp;omega))).trans ?_|refine(M.o _ (by first |omega|(simp;done)|(simp;omega)) (by first |omega|(simp;done)|(simp;omega))).trans ?_))) (by rfl) (by simp[Value.oneCell']) (by omega) (by unfold maxLen;omega) ?_;intro a3 bZ w3 l1 fs bb;have mR:=fs.t.size;(try simp at mR);replace iN:=aa (iN.o.same ((cb.s (by(repeat(first |exact cb.refl _ _ _|refine cb.alloc ?_ _|refine cb.drew ?_)):cb 57 (.slice a n c) w2 _)).trans fs.s));replace l4:=aa (l4.o.same ((cb.s (by(repeat(first |exact cb.refl _ _ _|refine cb.alloc ?_ _|refine cb.drew ?_)):cb 57 (.slice a n c) w2 _)).trans fs.s));have fa:=aa l1;have hy:=aa (cb.trans (by(repeat(first |exact X.o|exact Y.o|exact cb.refl _ _ _|refine cb.alloc ?_ _|refine cb.drew ?_)):cb 57 (.slice a n c) w _) fs);have I:=aa (fun q f (gZ:w.heap.size<=q)=>fs.t.other q f (tI.o q gZ));have F:=aa (show w3.heap[w.heap.size]?=some (.cells #[.int .i64 (-7070-(d.length:Int)),.int .i64 0,.int .i64 0] 57 (0,0)) from(I.o _ (by first |omega|(simp;done)|(simp;omega)) (apX _)).trans (by(repeat(first |exact F.o|exact P.o|exact Q.o|exact E.o|exact nh (by first |rfl|(simp;done)|(simp;omega))|refine(ed (by first |omega|(simp;done)|(simp;omega))).trans ?_|refine(I.o _ (by first |omega|(simp;done)|(simp;omega)) (by first |omega|(simp;done)|(simp;omega))).trans ?_|refine(L.o _ (by first |omega|(simp;done)|(simp;omega)) (by first |omega|(simp;done)|(simp;omega))).trans ?_|refine(M.o _ (by first |omega|(simp;done)|(simp;omega)) (by first |omega|(simp;done)|(simp;omega))).trans ?_))));have hY:(Value.slice a n c).ownBlock=some a3\/w.heap.size<a3:=(bb.imp id (fun C=>by(try simp at C);omega));clear l1 fs bb))
  all_goals(go_wp2_with fail;go_meet)
  all_goals exact⟨_,rfl,Tk (bI w3 _) ((ed (by omega)).trans F.o) (S.o.same (hy.o.alloc _).s) (iN.o.same ((cb.refl 57 (.slice a n c) w3).alloc _).s) (l4.o.same ((cb.refl 57 (.slice a n c) w3).alloc _).s) (fa.o.same ((cb.refl 57 (.slice a n c) w3).alloc _).s) e0 jy hY (hy.o.alloc _).t (by omega)⟩
 case rest=>
  obtain⟨l,rfl,U,vB⟩:=hcut;have CF:=aa S.o.lt;clear E tI S;go_wp2;go_loopw [6] (fun i wr=>∃k:Nat,k<=4/\i=.int .i64 k/\wi 57 53 3 #[.int .i64 (-7070-(d.length:Int)),.int .i64 0,.int .i64 0] w (.slice a n c) n l U k 0 wr) (fun i _=>4-(intOf i).toNat)
  case atStart=>exact⟨0,by omega,rfl,vB,fun lp h=>absurd h (aq7 _),ka.zero _ _ _ _⟩
  case round=>
   obtain⟨k,hk,rfl,na⟩:=hrel;obtain⟨v,uA⟩:∃v,v=wr:=⟨_,rfl⟩;subst uA;by_cases aE:k<4
   ·obtain⟨J7,ER,hu,iw⟩:=na.gg.form aE;have pT:=aa iw;clear iw;have J8:=aa na;clear na vB;have jR:(0:Int)<=(k:Int):=aqc _;have qC:(k:Int)<4:=by omega
    go_wp2;go_loopw [7] (fun i hf=>∃j:Nat,j<=n+k/\i=.int .i64 j/\wi 57 53 3 #[.int .i64 (-7070-(d.length:Int)),.int .i64 0,.int .i64 0] w (.slice a n c) n l U k j hf) (fun i _=>n+k-(intOf i).toNat)
    case atStart=>exact⟨0,apZ _,rfl,J8.o⟩
    case round=>
     obtain⟨j,au,rfl,f⟩:=hrel;have eP:=f.gg.cell aE;rw[hu]at eP;by_cases iu:j<n+k
     ·obtain⟨g,rfl⟩:=pT.o j iu;have R:=f.gg.s k aE;rw[hu]at R;obtain⟨u0,t0⟩:=R.cell (q:=0) iu (by omega);obtain⟨u1,t1⟩:=R.cell (q:=1) iu (by omega);obtain⟨u2,t2⟩:=R.cell (q:=2) iu (by omega);have apb:=R.C0;obtain⟨z0,z1,z2⟩:=EM f.gg.z;have AD:w.heap.size≠g:=fun y=>by
       rcases f.gg.b k aE g (by rw[hu];rfl) with h1|h1
       ·have :=CF.o _ h1;omega
       omega
      have kM:=aa f;clear f;simp only[aqW]at t0;have AW:(0:Int)<=(j:Int):=aqc _;have sl:(j:Int)<((n+k:Nat):Int):=by omega
      have mz:l≠g:=fun y=>by
       subst y;obtain⟨N,r⟩:=R.type rfl;exact absurd (bK kM.o.gg.row r) (by decide)
      clear R;go_wp2_with fail
      go_region_held3 (fun W=>W.cell? ⟨l,k,none⟩=some (.slice (some ⟨g,0,none⟩) (n+k) ER)/\W.cell? ⟨w.heap.size,0,none⟩=some (.int .i64 (-7070-(d.length:Int)))/\W.cell? ⟨w.heap.size,1,none⟩=some (.int .i64 0)/\W.cell? ⟨w.heap.size,2,none⟩=some (.int .i64 0)) (first |exact⟨eP,z0,z1,z2⟩|exact⟨(aq0 (AE [.int .i64 (-7070-(d.length:Int)),.int .i64 0,.int .i64 0] (j*3) wr l mz)).trans eP,(aq0 (AE [.int .i64 (-7070-(d.length:Int)),.int .i64 0,.int .i64 0] (j*3) wr w.heap.size AD)).trans z0,(aq0 (AE [.int .i64 (-7070-(d.length:Int)),.int .i64 0,.int .i64 0] (j*3) wr w.heap.size AD)).trans z1,(aq0 (AE [.int .i64 (-7070-(d.length:Int)),.int .i64 0,.int .i64 0] (j*3) wr w.heap.size AD)).trans z2⟩) (fail)
      all_goals go_wp2
      all_goals go_roundw
      case rel=>exact⟨j+1,by omega,by go_num,(kM.o.next CF.o (by decide) rfl aE hu iu).drew⟩
      case measure=>simp[intOf];omega
     have rj:j=n+k:=by omega
     subst rj;go_wp2;go_roundw
     case rel=>
      refine⟨k+1,by omega,by go_num,f.gg,fun lp eS=> ?_,ka.zero _ _ _ _⟩;by_cases wT:lp=k
      ·subst wT;exact f.part
      exact f.full lp (by omega)
     case measure=>simp[intOf];omega
   have qC:k=4:=by omega
   subst qC;have B:=aa na.gg;have oF:=aa (show ∀i,i<4->ka 3 #[.int .i64 (-7070-(d.length:Int)),.int .i64 0,.int .i64 0].toList v (U i) (n+i) from na.full);clear na;have xM:¬((Value.slice a n c).ownBlock=some m):=fun C=>by
    obtain⟨N,r⟩:=tv.o.type C;exact absurd (bK r gI.o) (by decide)
   have dM:=aa ((B.o.t.other m (aN gI.o) xM).trans gI.o);have EJ:∀q,(Value.slice D d.length ac).ownBlock=some q->¬((Value.slice a n c).ownBlock=some q):=fun q h1 h2=>by
    obtain⟨N,r⟩:=bq bY.o h1;obtain⟨J9,gM⟩:=tv.o.type h2;exact absurd (bK r gM) (by decide)
   have h6:=aa (ca bY.o (w':=v) fun q f=>B.o.t.other q (ap1 bY.o q f).2 (EJ q f));have apc:v.cell? ⟨m,2,none⟩=some (.slice D d.length ac):=by simp[World.cell?,dM.o]
   have c9:=aN dM.o;have js:=aa (show(v.alloc (.cells #[.slice (some ⟨l,0,none⟩) 4 4] 140)).ownsRow 0 140 1 (.slice D d.length ac) d.length (d.flatMap kZ) from c7 h6.o (by go_grown));have oi:=aa (show ∀j u,(kZ l)[j]?=some u->(v.alloc (.cells #[.slice (some ⟨l,0,none⟩) 4 4] 140)).cell? ⟨v.heap.size,j,none⟩=some u from one_cell (by simp[go_sem]));have p5:=aa (show some m≠(Value.slice D d.length ac).ownBlock from fun y=>by
    obtain⟨N,r⟩:=bq h6.o y.symm;exact absurd (bK r dM.o) (by decide))
   go_wp2_with (first
    |(at_builtin;refine zB kZ 1 24 79 140 (.slice none 0 0) (by kernel_rfl) underlying79 rfl (by omega) (fun _=>rfl) rfl (.tmp 58) (.tmp 60) rfl 0 (.slice D d.length ac) d rfl js.o v.heap.size 1 l rfl oi.o (by simp[kZ,Value.oneCell']) (by omega) (by unfold maxLen;omega) (apZ _) ?_;intro v4 w4 ha dw fR;have eA:=aa ha;have j8:=aa dw;have iY:=aa fR;have fO:=aa ((dw.block m (by simp;omega) p5.o).trans ((ed (by omega)).trans dM.o));clear ha dw fR;obtain⟨a4,j9,rfl,uv,vC,wX⟩:=bm eA.o;clear uv vC wX;have bc:w4.cell? ⟨m,2,none⟩=some (.slice D d.length ac):=(by simp[World.cell?,fO.o]);have vb:=cG fO.o 2))
   have tj:(Value.slice a4 (d.length+1) j9).ownBlock≠some m:=fun y=>by
    obtain⟨N,r⟩:=bq eA.o y;exact absurd (bK r fO.o) (by decide)
   have jO:∀(q:Nat) (N:Array Value) (t:TypeId),v.heap[q]?=some (.cells N t (0,0))->t≠140->t≠84->(w4.setCell ⟨m,2,none⟩ (.slice a4 (d.length+1) j9)).heap[q]?=v.heap[q]?:=fun q N t f h1 h2=>by
    have Ka:q≠m:=fun y=>by subst y;exact h2 (bK f dM.o)
    have El:some q≠(Value.slice D d.length ac).ownBlock:=fun y=>by
     obtain⟨J9,r⟩:=bq h6.o y.symm;exact h1 (bK f r)
    have BP:=aN f;exact(dy Ka).trans ((j8.o.block q (by simp;omega) El).trans (ed (by omega)))
   go_end0
   refine⟨rfl,.slice a4 (d.length+1) j9,l,U,Pg fO.o,iV eA.o tj _,?_,?_,?_,B.o.gl,B.o.b⟩
   ·exact(B.o.t.mono fun q f=>.inr (.inl f)).trans ((aO.cJ ((apY _ v).alloc (apX _) _)).trans ((aO.r2 j8.o fun q f=>.inr (.inr f)).trans (aO.kU _ (.inl rfl))))
   ·exact iY.o.mono (ap0 B.o.t.size (by simp))
   refine tH.ae ⟨B.o.row,B.o.s,oF.o⟩ (jO l _ 53 B.o.row (by decide) (by decide)) fun i hi g ag=> ?_
   obtain⟨N,r⟩:=(B.o.s i hi).type ag;exact jO g _ 57 r (by decide) (by decide)
end
section
open Go.RowKit Tryz
attribute [local go_sem ↓] Go.wp_at_zero Go.wp_at_succ
variable {a d e:Nat}{b:Nat->Prop}{c:World}
theorem amn{w F n}(h:kI w e F n){gy:Nat}(o:jX)(E:o.kind=9)(I:Pow w):
  O 69 #[Z gy,Z e,.agg #[A o.kind,A o.r,A o.c,A o.d,A o.i1,A o.i2,A o.made,.string o.key,A o.a,A o.b,.bool o.yes]] w fun f p=>f=.returned (.bool true)/\∃g,kI p e g n/\c6 F g w p/\∀k,g k->F k:=by
 obtain⟨x,r,L,told,M,Q,N,R,P,S,h⟩:=h;rw[E];have q:=aa ((apY w.heap.size w).alloc (apX _) (.cells #[A 9,A o.r,A o.c,A o.d,A o.i1,A o.i2,A o.made,.string o.key,A o.a,A o.b,.bool o.yes] 87));have j:=aa (bI w (.cells #[A 9,A o.r,A o.c,A o.d,A o.i1,A o.i2,A o.made,.string o.key,A o.a,A o.b,.bool o.yes] 87));have U:=aa (bj h.blk q.o);have X:=aa (fun W (t:J w W)=>ami h t (I.ae t) o.c);have Y:=aa (show ∀k,w.heap.size<=k->¬F k from fun k hk hF=>by have :=h.lt k hF;omega);have c9:=h.lt _ h.fA;have kJ:=aa h.blk;clear h;go_enter func69,ntmps69;go_wp2_with fail
 go_region_held3 (fun W=>W.cell? (H e)=some (Z x)/\W.cell? (K e 1)=some (Z r)/\W.cell? (V w 0)=some (A 9)/\W.cell? (V w 2)=some (A o.c)/\W.cell? (V w 4)=some (A o.i1)/\W.cell? (V w 5)=some (A o.i2)/\W.cell? (V w 7)=some (.string o.key)/\W.cell? (V w 8)=some (A o.a)/\W.cell? (V w 9)=some (A o.b)/\W.cell? (V w 10)=some (.bool o.yes)) (first |exact ey U.o j.o|exact ey u.o i.o)
  (first |(go_at_call 28;refine(X.o _ q.o.drew).mono ?_;rintro f w1 ⟨s,m,rfl,v,y,hS,z⟩;have u:=aa (v.trans kJ.o);have i:=aa ((y w.heap.size (aN j.o) (Y.o _ (apX _))).trans j.o);have gK:=aa z;clear v y z))
 go_wp2_with fail
 go_region_held3 (fun W=>W.cell? (H e)=some (Z x)/\W.cell? (K e 1)=some (Z r)/\W.cell? (V w 0)=some (A 9)/\W.cell? (V w 2)=some (A o.c)/\W.cell? (V w 4)=some (A o.i1)/\W.cell? (V w 5)=some (A o.i2)/\W.cell? (V w 7)=some (.string o.key)/\W.cell? (V w 8)=some (A o.a)/\W.cell? (V w 9)=some (A o.b)/\W.cell? (V w 10)=some (.bool o.yes)) (first |exact ey u.o i.o|exact ey dN.o cB.o)
  (first |(go_at_call 103;refine(gK.o _ ((apY _ w1).drew)).mono ?_;rintro f w2 ⟨rfl,⟨g,l,B,C⟩,D⟩;have dN:=aa l.blk;have cB:=aa ((D w.heap.size (apX _) (aN i.o)).trans i.o);have jP:=aa l;have jS:=aa B;have l4:=aa C;clear l B D C))
 go_wp2;go_ret
 exact⟨rfl,g,⟨x,r,L,told,M,Q,N,R,P,S,jP.o⟩,jS.o,l4.o⟩
theorem amo{w g F Q}(h:kI w g F Q)(o:jX)(fr:o.kind=10){R t S U:Value}{j:List Nat}(B:w.heap[e]?=some (.cells #[R,t,S,U] 84 (0,0)))(X:¬F e)(nC:j.length<2000000000000)(Y:w.ownsRow 0 138 1 t j.length (j.flatMap kZ))(CH:∀k,(t).ownBlock=some k->¬F k):
  O 69 #[Z e,Z g,.agg #[A o.kind,A o.r,A o.c,A o.d,A o.i1,A o.i2,A o.made,.string o.key,A o.a,A o.b,.bool o.yes]] w fun f w'=>f=.returned (.bool true)/\∃wm v n p,kI wm g p Q/\c6 F p w wm/\(∀k,p k->F k)/\(∀k,v.ownBlock=some k->w.heap.size<=k)/\wm.heap[e]?=w.heap[e]?/\AF 36 65 138 2 #[A (-7070),A j.length] wm e v t j n (fun x=> #[R,x,S,U]) w':=by
 obtain⟨x,r,br,told,cu,cw,N,sp,P,kz,h⟩:=h;rw[fr];have aK:=aa ((apY w.heap.size w).alloc (apX _) (.cells #[A 10,A o.r,A o.c,A o.d,A o.i1,A o.i2,A o.made,.string o.key,A o.a,A o.b,.bool o.yes] 87));have C:=aa (bI w (.cells #[A 10,A o.r,A o.c,A o.d,A o.i1,A o.i2,A o.made,.string o.key,A o.a,A o.b,.bool o.yes] 87));have ix:=aa (bj h.blk aK.o);have dd:=aa (fun W (ab:J w W)=>amj h ab o.c o.i1 o.i2);have gx:=aa (show ∀k,w.heap.size<=k->¬F k from fun k hk hF=>by have :=h.lt k hF;omega);have c9:=h.lt _ h.fA;have kJ:=aa h.blk;have gI:=aa B;have Kf:=aa X;have bY:=aa Y;have rQ:=aa CH;have xl:=aN B;clear h B X Y CH;go_enter func69,ntmps69;go_wp2_with fail
 go_region_held3 (fun W=>W.cell? (H g)=some (Z x)/\W.cell? (K g 1)=some (Z r)/\W.cell? (V w 0)=some (A 10)/\W.cell? (V w 2)=some (A o.c)/\W.cell? (V w 4)=some (A o.i1)/\W.cell? (V w 5)=some (A o.i2)/\W.cell? (V w 7)=some (.string o.key)/\W.cell? (V w 8)=some (A o.a)/\W.cell? (V w 9)=some (A o.b)/\W.cell? (V w 10)=some (.bool o.yes)) (first |exact ey ix.o C.o|exact ey dO.o u.o)
  (first |(go_at_call 29;refine(dd.o _ aK.o.drew).mono ?_;rintro f w1 ⟨v,m,l,rfl,j4,dj,df,hS,fD⟩;have dO:=aa (dj.trans kJ.o);have u:=aa ((df w.heap.size (aN C.o) (gx.o _ (apX _))).trans C.o);have gK:=aa fD;have y:=aa (gT j4 (show w.heap.size<=_ by first |omega|(simp;done)|(simp;omega)));clear dj df fD j4;obtain⟨dr,dh,rfl,wH,rE,sJ⟩:=bm y.o;clear wH rE sJ))
 go_wp2_with fail
 go_region_held3 (fun W=>W.cell? (H g)=some (Z x)/\W.cell? (K g 1)=some (Z r)/\W.cell? (V w 0)=some (A 10)/\W.cell? (V w 2)=some (A o.c)/\W.cell? (V w 4)=some (A o.i1)/\W.cell? (V w 5)=some (A o.i2)/\W.cell? (V w 7)=some (.string o.key)/\W.cell? (V w 8)=some (A o.a)/\W.cell? (V w 9)=some (A o.b)/\W.cell? (V w 10)=some (.bool o.yes)) (first |exact ey dO.o u.o|exact ey dN.o cB.o)
  (first |(go_at_call 104;refine(gK.o _ ((apY _ w1).drew)).mono ?_;rintro f w2 ⟨⟨v2,rfl,iS,hle⟩,⟨p,D,c3,eM⟩,E⟩;have dN:=aa D.blk;have cB:=aa ((E w.heap.size (apX _) (aN u.o)).trans u.o);have jP:=aa D;have I:=aa c3;have l4:=aa eM;have rr:=aa iS;have L:=aa (ca y.o (fun q s=>E q (ap1 y.o q s).1 (ap1 y.o q s).2));clear D c3 E eM iS;obtain⟨a2,bc,rfl,Kg,Kh,Ki⟩:=bm rr.o;clear Kg Kh Ki))
 have Kj:=aa (ama (gT L.o (apZ _)) rr.o);have M:=aa ((I.o.other e xl Kf.o).trans gI.o);have Aw:=aa (ca bY.o fun q s=>I.o.other q (ap1 bY.o q s).2 (rQ.o q s));have tS:=aa (fun jh (i:J w2 jh)=>alQ (bj M.o i) nC (show l.length<2000000000000 by omega) (c7 Aw.o i) ⟨_,c7 (gT L.o (apZ _)) i⟩);go_wp2_with (first
  |(go_at_call 105;refine Kj.o.mono ?_;rintro f w3 ⟨rfl,i⟩;have z:=aa i;clear i)
  |(go_at_call 106;refine(tS.o w3 z.o).mono ?_;rintro f w4 ⟨rfl,fR⟩;have iY:=aa fR;clear fR))
 go_ret
 exact⟨rfl,w3,_,_,p,⟨x,r,br,told,cu,cw,N,sp,P,kz,jP.o.ae z.o⟩,I.o.after z.o,l4.o,fun k hk=>(ap1 L.o k hk).1,(z.o.block e (aN M.o)).trans (M.o.trans gI.o.symm),iY.o⟩
theorem amp{w g F Q}(h:kI w g F Q)(o:jX)(fr:o.kind=11){R S t U:Value}{j:List Nat}(B:w.heap[e]?=some (.cells #[R,S,t,U] 84 (0,0)))(X:¬F e)(nC:j.length<2000000000000)(Y:w.ownsRow 0 140 1 t j.length (j.flatMap kZ))(CH:∀k,(t).ownBlock=some k->¬F k)(dW:o.key.size<=maxLen):
  O 69 #[Z e,Z g,.agg #[A o.kind,A o.r,A o.c,A o.d,A o.i1,A o.i2,A o.made,.string o.key,A o.a,A o.b,.bool o.yes]] w fun f w'=>f=.returned (.bool true)/\∃wm v n p,kI wm g p Q/\c6 F p w wm/\(∀k,p k->F k)/\(∀k,v.ownBlock=some k->w.heap.size<=k)/\wm.heap[e]?=w.heap[e]?/\AF 57 53 140 3 #[A (-7070-(j.length:Int)),A 0,A 0] wm e v t j n (fun x=> #[R,S,x,U]) w':=by
 obtain⟨x,r,br,told,cu,cw,N,sp,P,kz,h⟩:=h;rw[fr];have aK:=aa ((apY w.heap.size w).alloc (apX _) (.cells #[A 11,A o.r,A o.c,A o.d,A o.i1,A o.i2,A o.made,.string o.key,A o.a,A o.b,.bool o.yes] 87));have C:=aa (bI w (.cells #[A 11,A o.r,A o.c,A o.d,A o.i1,A o.i2,A o.made,.string o.key,A o.a,A o.b,.bool o.yes] 87));have ix:=aa (bj h.blk aK.o);have dd:=aa (fun W (ab:J w W)=>amk h ab o.c o.i1 o.i2 o.key dW);have gx:=aa (show ∀k,w.heap.size<=k->¬F k from fun k hk hF=>by have :=h.lt k hF;omega);have c9:=h.lt _ h.fA;have kJ:=aa h.blk;have gI:=aa B;have Kf:=aa X;have bY:=aa Y;have rQ:=aa CH;have xl:=aN B;clear h B X Y CH;go_enter func69,ntmps69;go_wp2_with fail
 go_region_held3 (fun W=>W.cell? (H g)=some (Z x)/\W.cell? (K g 1)=some (Z r)/\W.cell? (V w 0)=some (A 11)/\W.cell? (V w 2)=some (A o.c)/\W.cell? (V w 4)=some (A o.i1)/\W.cell? (V w 5)=some (A o.i2)/\W.cell? (V w 7)=some (.string o.key)/\W.cell? (V w 8)=some (A o.a)/\W.cell? (V w 9)=some (A o.b)/\W.cell? (V w 10)=some (.bool o.yes)) (first |exact ey ix.o C.o|exact ey dO.o u.o)
  (first |(go_at_call 24;refine(dd.o _ aK.o.drew).mono ?_;rintro f w1 ⟨v,m,l,rfl,j4,dj,df,hS,fD⟩;have dO:=aa (dj.trans kJ.o);have u:=aa ((df w.heap.size (aN C.o) (gx.o _ (apX _))).trans C.o);have gK:=aa fD;have y:=aa (gT j4 (show w.heap.size<=_ by first |omega|(simp;done)|(simp;omega)));clear dj df fD j4;obtain⟨dr,dh,rfl,wH,rE,sJ⟩:=bm y.o;clear wH rE sJ))
 go_wp2_with fail
 go_region_held3 (fun W=>W.cell? (H g)=some (Z x)/\W.cell? (K g 1)=some (Z r)/\W.cell? (V w 0)=some (A 11)/\W.cell? (V w 2)=some (A o.c)/\W.cell? (V w 4)=some (A o.i1)/\W.cell? (V w 5)=some (A o.i2)/\W.cell? (V w 7)=some (.string o.key)/\W.cell? (V w 8)=some (A o.a)/\W.cell? (V w 9)=some (A o.b)/\W.cell? (V w 10)=some (.bool o.yes)) (first |exact ey dO.o u.o|exact ey dN.o cB.o)
  (first |(go_at_call 107;refine(gK.o _ ((apY _ w1).drew)).mono ?_;rintro f w2 ⟨⟨v2,rfl,iS,hle⟩,⟨p,D,c3,eM⟩,E⟩;have dN:=aa D.blk;have cB:=aa ((E w.heap.size (apX _) (aN u.o)).trans u.o);have jP:=aa D;have I:=aa c3;have l4:=aa eM;have rr:=aa iS;have L:=aa (ca y.o (fun q s=>E q (ap1 y.o q s).1 (ap1 y.o q s).2));clear D c3 E eM iS;obtain⟨a2,bc,rfl,Kg,Kh,Ki⟩:=bm rr.o;clear Kg Kh Ki))
 have Kj:=aa (amc (gT L.o (apZ _)) rr.o);have M:=aa ((I.o.other e xl Kf.o).trans gI.o);have Aw:=aa (ca bY.o fun q s=>I.o.other q (ap1 bY.o q s).2 (rQ.o q s));have tS:=aa (fun jh (i:J w2 jh)=>amm (bj M.o i) nC (show l.length<2000000000000 by omega) (c7 Aw.o i) ⟨_,c7 (gT L.o (apZ _)) i⟩);go_wp2_with (first
  |(go_at_call 108;refine Kj.o.mono ?_;rintro f w3 ⟨rfl,i⟩;have z:=aa i;clear i)
  |(go_at_call 109;refine(tS.o w3 z.o).mono ?_;rintro f w4 ⟨rfl,fR⟩;have iY:=aa fR;clear fR))
 go_ret
 exact⟨rfl,w3,_,_,p,⟨x,r,br,told,cu,cw,N,sp,P,kz,jP.o.ae z.o⟩,I.o.after z.o,l4.o,fun k hk=>(ap1 L.o k hk).1,(z.o.block e (aN M.o)).trans (M.o.trans gI.o.symm),iY.o⟩
end
section
open Go.RowKit Tryz
theorem Tu{w}(size bytes:Nat)(t e:TypeId)(z:Value)(p:(prog.info? e).map (fun i=>(i.zero,i.size,i.bytes))=some (some z,size,bytes))(q:prog.underlying t=some (.slice e))(r:z.cells.size=size)(y:0<size){l:Array Oper}{rest:List Oper}{o:Oper}{a:Act}{Q:Exit->Act->World->Prop}(B:o.guard=none)(s x:Operand)(C:o.op=.call {callee:=.builtin .append,args:= #[s,x],argTypes:= #[t,t]})(v:Value)(n:Nat)(D:a.eval s=v)(E:Shape e size w v n)(g m c:Nat)(F:0<m)(I:a.eval x=.slice (some (H g)) m c)(f:Array Value)(L:w.heap[g]?=some (.cells f e (0,0)))(hl:f.size=m*size)(M:∀u∈f.toList,u.oneCell'=true)(N:(n+m)*bytes<=140737488355328)(R:n+m<=maxLen)(h:∀b k d,Shape e size d (.slice (some (H b)) (n+m) k) (n+m)->cb e v w d->(v.ownBlock=some b\/w.heap.size<=b)->wpList prog l Q rest (a.put o.dst (.slice (some (H b)) (n+m) k)) d):wpList prog l Q (o::rest) a w:=by
 obtain⟨i,S,U,W,X⟩:=info_parts p;obtain⟨b,k,d,Y,h2,al,aL⟩:=aa6 (P:=prog) w t o.type e i z size bytes q S U W X r y v n E (H g) m c F f.toList (by omega)
  (fun j u hu=>by
   have :((H g):Addr).add j=(K g j):=by unfold Addr.add;split <;>simp_all
   rw[this,cell_of_row w g j f e (0,0) L];simpa using hu) M R N
 exact Lib.wpList_append_run w B s x t t C v _ D I _ d Y (h b k d h2 al aL)
theorem amq{w:World}{l:Nat}{c1 bV cY bQ:Value}{d:List Nat}{a:Option Addr}{n c:Nat}(aA:w.heap[l]?=some (.cells #[c1,bV,cY,bQ] 84 (0,0)))(nC:d.length<2000000000000)(hn:n<2000000000000)(av:w.ownsRow 0 141 1 bQ d.length (d.flatMap kZ))(W:Shape 3 1 w (.slice a n c) n):
  O 112 #[.pointer (some (K l 1)),.slice a n c] w fun e w'=>e=.returned (.tuple #[])/\AF 3 24 141 1 #[A (-7070-(d.length:Int))] w l (.slice a n c) bQ d n (fun x=> #[c1,bV,cY,x]) w':=by
 obtain⟨C,ac,rfl,nC,xm,rB⟩:=bm av;have y1:w.cell? (K l 3)=some (.slice C d.length ac):=by simp[World.cell?,aA]
 have BZ:IntKind.i64.wrap (-7070-(d.length:Int))= -7070-(d.length:Int):=aqS _ (by omega);have E:=aa W;have tv:=aa W;have gI:=aa aA;have bY:=aa av;clear aA av rB;have X:=aa (show ∀q,w.heap.size<=q->¬((Value.slice a n c).ownBlock=some q) from fun q f B=>by have :=W.lt q B;omega);clear W;go_enter func112,ntmps112;go_upto_region 1 with fail
 go_cut [5] (fun p wc=>∃r,p=.slice (some (H r)) 4 4/\∃U,Nm 3 24 1 #[A (-7070-(d.length:Int))] w (.slice a n c) n r U wc)
 case first =>
  go_wp2_with (first
   |(at_builtin;refine Tu 1 8 24 3 (A 0) (by rfl) underlying24 rfl (by omega) rfl (.tmp 15) (.tmp 17) rfl (.slice a n c) n rfl (E.o.same ((cb.refl 3 (.slice a n c) w).alloc _).s) _ 1 1 (by omega) rfl #[A (-7070-(d.length:Int))] (bI w _) rfl (by simp[Value.oneCell']) (by omega) (by unfold maxLen;omega) ?_;intro b2 a6 w1 hS Y aq;have hz1:=Y.t.size;(try simp at hz1);have M:=aa hS;have gK:=aa (((cb.refl 3 (.slice a n c) w).alloc _).trans Y);have pq:=aa (show w1.heap[w.heap.size]?=some (.cells #[A (-7070-(d.length:Int))] 3 (0,0)) from(Y.t.other _ (by simp) (X.o _ (apX _))).trans (bI w _));have e0:(Value.slice a n c).ownBlock=some b2\/w.heap.size<b2:=(aq.imp id (fun B=>by(try simp at B);omega));clear hS Y aq)
   |(at_builtin;refine Tu 1 8 24 3 (A 0) (by rfl) underlying24 rfl (by omega) rfl (.tmp 19) (.tmp 22) rfl (.slice a n c) n rfl (E.o.same (gK.o.alloc _).s) _ 2 2 (by omega) rfl #[A (-7070-(d.length:Int)),A (-7070-(d.length:Int))] (bI w1 _) rfl (by simp[Value.oneCell']) (by omega) (by unfold maxLen;omega) ?_;intro a2 bc w2 eM N aY;have hz2:=N.t.size;(try simp at hz2);have l4:=aa eM;have ff:=aa ((gK.o.alloc _).trans N);have nE:=aa (show w2.heap[w.heap.size]?=some (.cells #[A (-7070-(d.length:Int))] 3 (0,0)) from(N.t.other _ (by first |omega|(simp;done)|(simp;omega)) (X.o _ (apX _))).trans ((ed (by omega)).trans pq.o));have jy:(Value.slice a n c).ownBlock=some a2\/w.heap.size<a2:=(aY.imp id (fun B=>by(try simp at B);omega));replace M:=aa (M.o.same (((cb.refl 3 (.slice a n c) w1).alloc _).s.trans N.s));clear eM N aY)
   |(at_builtin;refine Tu 1 8 24 3 (A 0) (by rfl) underlying24 rfl (by omega) rfl (.tmp 24) (.tmp 28) rfl (.slice a n c) n rfl (E.o.same (ff.o.alloc _).s) _ 3 3 (by omega) rfl #[A (-7070-(d.length:Int)),A (-7070-(d.length:Int)),A (-7070-(d.length:Int))] (bI w2 _) rfl (by simp[Value.oneCell']) (by omega) (by unfold maxLen;omega) ?_;intro a3 bZ P l1 F bb;have mR:=F.t.size;(try simp at mR);have fa:=aa l1;have hy:=aa ((ff.o.alloc _).trans F);have pC:=aa (show P.heap[w.heap.size]?=some (.cells #[A (-7070-(d.length:Int))] 3 (0,0)) from(F.t.other _ (by first |omega|(simp;done)|(simp;omega)) (X.o _ (apX _))).trans ((ed (by omega)).trans nE.o));have hY:(Value.slice a n c).ownBlock=some a3\/w.heap.size<a3:=(bb.imp id (fun B=>by(try simp at B);omega));replace M:=aa (M.o.same (((cb.refl 3 (.slice a n c) w2).alloc _).s.trans F.s));replace l4:=aa (l4.o.same (((cb.refl 3 (.slice a n c) w2).alloc _).s.trans F.s));clear l1 F bb))
  all_goals go_meet
  all_goals exact⟨_,rfl,Tk (bI P _) ((ed (by omega)).trans pC.o) (E.o.same (hy.o.alloc _).s) (M.o.same ((cb.refl 3 (.slice a n c) P).alloc _).s) (l4.o.same ((cb.refl 3 (.slice a n c) P).alloc _).s) (fa.o.same ((cb.refl 3 (.slice a n c) P).alloc _).s) e0 jy hY (hy.o.alloc _).t (by omega)⟩
 case rest=>
  obtain⟨r,rfl,U,vB⟩:=hcut;have CF:=aa E.o.lt;clear X E;go_wp2;go_loopw [6] (fun i wr=>∃k:Nat,k<=4/\i=A k/\wi 3 24 1 #[A (-7070-(d.length:Int))] w (.slice a n c) n r U k 0 wr) (fun i _=>4-(intOf i).toNat)
  case atStart=>exact⟨0,by omega,rfl,vB,fun lp h=>absurd h (aq7 _),ka.zero _ _ _ _⟩
  case round=>
   obtain⟨k,hk,rfl,I⟩:=hrel;obtain⟨v,uA⟩:∃v,v=wr:=⟨_,rfl⟩;subst uA;by_cases Q:k<4
   ·obtain⟨J7,ER,hu,iw⟩:=I.gg.form Q;have pT:=aa iw;clear iw;have J8:=aa I;clear I vB;have jR:(0:Int)<=(k:Int):=aqc _;have qC:(k:Int)<4:=by omega
    go_wp2;go_loopw [7] (fun i hf=>∃j:Nat,j<=n+k/\i=A j/\wi 3 24 1 #[A (-7070-(d.length:Int))] w (.slice a n c) n r U k j hf) (fun i _=>n+k-(intOf i).toNat)
    case atStart=>exact⟨0,apZ _,rfl,J8.o⟩
    case round=>
     obtain⟨j,au,rfl,f⟩:=hrel;have eP:=f.gg.cell Q;rw[hu]at eP;by_cases iu:j<n+k
     ·obtain⟨g,rfl⟩:=pT.o j iu;have R:=f.gg.s k Q;rw[hu]at R;obtain⟨u0,t0⟩:=R.cell (q:=0) iu (by omega);have apb:=R.C0;have AD:w.heap.size≠g:=fun y=>by
       rcases f.gg.b k Q g (by rw[hu];rfl) with L|L
       ·have :=CF.o _ L;omega
       omega
      have kM:=aa f;clear f;simp only[aqW,arn]at t0;have AW:(0:Int)<=(j:Int):=aqc _;have sl:(j:Int)<((n+k:Nat):Int):=by omega
      have mz:r≠g:=fun y=>by
       subst y;obtain⟨D,m⟩:=R.type rfl;exact absurd (bK kM.o.gg.row m) (by decide)
      clear R;go_wp2;go_roundw
      case rel=>exact⟨j+1,by omega,by go_num,by have ao:=kM.o.next CF.o (by decide) rfl Q hu iu;rw[arn]at ao;exact ao⟩
      case measure=>simp[intOf];omega
     have rj:j=n+k:=by omega
     subst rj;go_wp2;go_roundw
     case rel=>
      refine⟨k+1,by omega,by go_num,f.gg,fun lp eS=> ?_,ka.zero _ _ _ _⟩;by_cases wT:lp=k
      ·subst wT;exact f.part
      exact f.full lp (by omega)
     case measure=>simp[intOf];omega
   have qC:k=4:=by omega
   subst qC;have z:=aa I.gg;have oF:=aa (show ∀i,i<4->ka 1 #[A (-7070-(d.length:Int))].toList v (U i) (n+i) from I.full);clear I;have xM:¬((Value.slice a n c).ownBlock=some l):=fun B=>by
    obtain⟨D,m⟩:=tv.o.type B;exact absurd (bK m gI.o) (by decide)
   have S:=aa ((z.o.t.other l (aN gI.o) xM).trans gI.o);have EJ:∀q,(Value.slice C d.length ac).ownBlock=some q->¬((Value.slice a n c).ownBlock=some q):=fun q L h2=>by
    obtain⟨D,m⟩:=bq bY.o L;obtain⟨J9,gM⟩:=tv.o.type h2;exact absurd (bK m gM) (by decide)
   have h6:=aa (ca bY.o (w':=v) fun q f=>z.o.t.other q (ap1 bY.o q f).2 (EJ q f));have apc:v.cell? (K l 3)=some (.slice C d.length ac):=by simp[World.cell?,S.o]
   have c9:=aN S.o;have js:=aa (show(v.alloc (.cells #[.slice (some (H r)) 4 4] 141)).ownsRow 0 141 1 (.slice C d.length ac) d.length (d.flatMap kZ) from c7 h6.o (by go_grown));have oi:=aa (show ∀j u,(kZ r)[j]?=some u->(v.alloc (.cells #[.slice (some (H r)) 4 4] 141)).cell? (V v j)=some u from one_cell (by simp[go_sem]));have p5:=aa (show some l≠(Value.slice C d.length ac).ownBlock from fun y=>by
    obtain⟨D,m⟩:=bq h6.o y.symm;exact absurd (bK m S.o) (by decide))
   go_wp2_with (first
    |(at_builtin;refine zB kZ 1 24 80 141 (.slice none 0 0) (by kernel_rfl) underlying80 rfl (by omega) (fun _=>rfl) rfl (.tmp 57) (.tmp 59) rfl 0 (.slice C d.length ac) d rfl js.o v.heap.size 1 r rfl oi.o (by simp[kZ,Value.oneCell']) (by omega) (by unfold maxLen;omega) (apZ _) ?_;intro v4 w4 ha dw fR;have eA:=aa ha;have j8:=aa dw;have iY:=aa fR;have fO:=aa ((dw.block l (by simp;omega) p5.o).trans ((ed (by omega)).trans S.o));clear ha dw fR;obtain⟨a4,j9,rfl,uv,vC,wX⟩:=bm eA.o;clear uv vC wX;have bc:w4.cell? (K l 3)=some (.slice C d.length ac):=(by simp[World.cell?,fO.o]);have vb:=cG fO.o 3))
   have tj:(Value.slice a4 (d.length+1) j9).ownBlock≠some l:=fun y=>by
    obtain⟨D,m⟩:=bq eA.o y;exact absurd (bK m fO.o) (by decide)
   have jO:∀(q:Nat) (D:Array Value) (t:TypeId),v.heap[q]?=some (.cells D t (0,0))->t≠141->t≠84->(w4.setCell (K l 3) (.slice a4 (d.length+1) j9)).heap[q]?=v.heap[q]?:=fun q D t f L h2=>by
    have Ka:q≠l:=fun y=>by subst y;exact h2 (bK f S.o)
    have El:some q≠(Value.slice C d.length ac).ownBlock:=fun y=>by
     obtain⟨J9,m⟩:=bq h6.o y.symm;exact L (bK f m)
    have BP:=aN f;exact(dy Ka).trans ((j8.o.block q (by simp;omega) El).trans (ed (by omega)))
   go_end0
   refine⟨rfl,.slice a4 (d.length+1) j9,r,U,Ls fO.o,iV eA.o tj _,?_,?_,?_,z.o.gl,z.o.b⟩
   ·exact(z.o.t.mono fun q f=>.inr (.inl f)).trans ((aO.cJ ((apY _ v).alloc (apX _) _)).trans ((aO.r2 j8.o fun q f=>.inr (.inr f)).trans (aO.kU _ (.inl rfl))))
   ·exact iY.o.mono (ap0 z.o.t.size (by simp))
   refine tH.ae ⟨z.o.row,z.o.s,oF.o⟩ (jO r _ 24 z.o.row (by decide) (by decide)) fun i hi g ag=> ?_
   obtain⟨D,m⟩:=(z.o.s i hi).type ag;exact jO g _ 3 m (by decide) (by decide)
end
section
open Go.RowKit Tryz
attribute [local go_sem ↓] Go.wp_at_zero Go.wp_at_succ
variable {a:World}
theorem abm{l}{g n b:Nat}(h:qF 0 a (.slice (some (H g)) n b) l)(c:n=l.length)(i:Nat)(d:i<l.length):a.cell? (K g i)=some (A l[i]):=by
 subst c;have :=ir (f:=wZ) (k:=1) (fun _=>rfl) h rfl i d 0 (by omega);simpa[wZ]using this
theorem amr{c b l}(j:qF 0 a c l)(m:qF 0 a b l):
  O 111 #[c,b] a fun e n=>e=.returned (.bool true)/\J a n:=by
 obtain⟨w,ac,rfl,x,o,p⟩:=bm j;obtain⟨y,z,rfl,B,q,r⟩:=bm m;unfold maxLen at o q;have s:=j;have t:=m;have u:=p;have v:=r;go_enter func111,ntmps111;go_wp2;go_loopw [5] (fun i wr=>∃k:Nat,k<=l.length/\i=A k/\J a wr) (fun i _=>l.length-(intOf i).toNat)
 case atStart=>exact⟨0,apZ _,rfl,apY _ _⟩
 case round=>
  obtain⟨k,C,rfl,d⟩:=hrel;by_cases f:k<l.length
  ·obtain⟨g,rfl⟩:=u k f;obtain⟨D,rfl⟩:=v k f;have E:=ae d (abm s (by simp) k f);have F:=ae d (abm t (by simp) k f);go_wp2;go_region
   all_goals go_wp2
   all_goals go_roundw
   case rel=>exact⟨k+1,by omega,by go_num,d.drew⟩
   case measure=>simp[intOf];omega
  go_wp2;go_ret
  exact⟨rfl,d⟩
theorem ams{w g F Q}(h:kI w g F Q){f:Nat}(o:jX)(fr:o.kind=12){R S U t:Value}{j:List Nat}(B:w.heap[f]?=some (.cells #[R,S,U,t] 84 (0,0)))(X:¬F f)(nC:j.length<2000000000000)(Y:w.ownsRow 0 141 1 t j.length (j.flatMap kZ))(CH:∀k,(t).ownBlock=some k->¬F k):
  O 69 #[Z f,Z g,.agg #[A o.kind,A o.r,A o.c,A o.d,A o.i1,A o.i2,A o.made,.string o.key,A o.a,A o.b,.bool o.yes]] w fun e w'=>e=.returned (.bool true)/\∃wm v n p,kI wm g p Q/\c6 F p w wm/\(∀k,p k->F k)/\(∀k,v.ownBlock=some k->w.heap.size<=k)/\wm.heap[f]?=w.heap[f]?/\AF 3 24 141 1 #[A (-7070-(j.length:Int))] wm f v t j n (fun x=> #[R,S,U,x]) w':=by
 obtain⟨x,r,br,told,cu,cw,N,sp,P,kz,h⟩:=h;rw[fr];have aK:=aa ((apY w.heap.size w).alloc (apX _) (.cells #[A 12,A o.r,A o.c,A o.d,A o.i1,A o.i2,A o.made,.string o.key,A o.a,A o.b,.bool o.yes] 87));have C:=aa (bI w (.cells #[A 12,A o.r,A o.c,A o.d,A o.i1,A o.i2,A o.made,.string o.key,A o.a,A o.b,.bool o.yes] 87));have ix:=aa (bj h.blk aK.o);have dd:=aa (fun W (ab:J w W)=>aml h ab o.c);have gx:=aa (show ∀k,w.heap.size<=k->¬F k from fun k hk hF=>by have :=h.lt k hF;omega);have c9:=h.lt _ h.fA;have kJ:=aa h.blk;have gI:=aa B;have Kf:=aa X;have bY:=aa Y;have rQ:=aa CH;have xl:=aN B;clear h B X Y CH;go_enter func69,ntmps69;go_wp2_with fail
 go_region_held3 (fun W=>W.cell? (H g)=some (Z x)/\W.cell? (K g 1)=some (Z r)/\W.cell? (V w 0)=some (A 12)/\W.cell? (V w 2)=some (A o.c)/\W.cell? (V w 4)=some (A o.i1)/\W.cell? (V w 5)=some (A o.i2)/\W.cell? (V w 7)=some (.string o.key)/\W.cell? (V w 8)=some (A o.a)/\W.cell? (V w 9)=some (A o.b)/\W.cell? (V w 10)=some (.bool o.yes)) (first |exact ey ix.o C.o|exact ey dO.o u.o)
  (first |(go_at_call 25;refine(dd.o _ aK.o.drew).mono ?_;rintro e w1 ⟨v,m,l,rfl,j4,dj,df,hS,fD⟩;have dO:=aa (dj.trans kJ.o);have u:=aa ((df w.heap.size (aN C.o) (gx.o _ (apX _))).trans C.o);have gK:=aa fD;have y:=aa (gT j4 (show w.heap.size<=_ by first |omega|(simp;done)|(simp;omega)));clear dj df fD j4;obtain⟨dr,dh,rfl,wH,rE,sJ⟩:=bm y.o;clear wH rE sJ))
 go_wp2_with fail
 go_region_held3 (fun W=>W.cell? (H g)=some (Z x)/\W.cell? (K g 1)=some (Z r)/\W.cell? (V w 0)=some (A 12)/\W.cell? (V w 2)=some (A o.c)/\W.cell? (V w 4)=some (A o.i1)/\W.cell? (V w 5)=some (A o.i2)/\W.cell? (V w 7)=some (.string o.key)/\W.cell? (V w 8)=some (A o.a)/\W.cell? (V w 9)=some (A o.b)/\W.cell? (V w 10)=some (.bool o.yes)) (first |exact ey dO.o u.o|exact ey dN.o cB.o)
  (first |(go_at_call 110;refine(gK.o _ ((apY _ w1).drew)).mono ?_;rintro e w2 ⟨⟨v2,rfl,iS,hle⟩,⟨p,D,c3,eM⟩,E⟩;have dN:=aa D.blk;have cB:=aa ((E w.heap.size (apX _) (aN u.o)).trans u.o);have jP:=aa D;have I:=aa c3;have l4:=aa eM;have rr:=aa iS;have L:=aa (ca y.o (fun q s=>E q (ap1 y.o q s).1 (ap1 y.o q s).2));clear D c3 E eM iS;obtain⟨a2,bc,rfl,Kg,Kh,Ki⟩:=bm rr.o;clear Kg Kh Ki))
 have Kj:=aa (amr (gT L.o (apZ _)) rr.o);have M:=aa ((I.o.other f xl Kf.o).trans gI.o);have Aw:=aa (ca bY.o fun q s=>I.o.other q (ap1 bY.o q s).2 (rQ.o q s));have tS:=aa (fun jh (i:J w2 jh)=>amq (bj M.o i) nC (show l.length<2000000000000 by omega) (c7 Aw.o i) ⟨_,c7 (gT L.o (apZ _)) i⟩);go_wp2_with (first
  |(go_at_call 111;refine Kj.o.mono ?_;rintro e w3 ⟨rfl,i⟩;have z:=aa i;clear i)
  |(go_at_call 112;refine(tS.o w3 z.o).mono ?_;rintro e w4 ⟨rfl,fR⟩;have iY:=aa fR;clear fR))
 go_ret
 exact⟨rfl,w3,_,_,p,⟨x,r,br,told,cu,cw,N,sp,P,kz,jP.o.ae z.o⟩,I.o.after z.o,l4.o,fun k hk=>(ap1 L.o k hk).1,(z.o.block f (aN M.o)).trans (M.o.trans gI.o.symm),iY.o⟩
end
end Go.Proofs.YtnkpogjiiohapaaGreatDoor
