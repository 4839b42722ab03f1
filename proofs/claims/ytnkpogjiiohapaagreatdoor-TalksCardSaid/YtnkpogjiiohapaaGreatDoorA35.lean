/- Our own text. -/
import Derived.Conc.EventLaws
import Derived.Deep.RegionLaw
import Derived.Test.YtnkpogjiiohapaaGreatDoorA34
import Derived.Test.YtnkpogjiiohapaaGreatDoorA28
import Derived.Test.YtnkpogjiiohapaaGreatDoorA33
set_option linter.unusedSimpArgs false
set_option linter.unusedVariables false
set_option maxRecDepth 1000000
set_option maxHeartbeats 4000000
namespace Go.Proofs.YtnkpogjiiohapaaGreatDoor
section
open Go.RowKit Tryz
variable {a d i:Nat}{b j:World}{e f k:Nat->Prop}{h m n:Value}{l:List PId}
theorem Eb{w:World}{g:Nat}{t:TypeId}{f:Nat×Nat}(a:w.heap[g]?=some (.cells #[h,m,n] t f)):w.cell? (H g)=some h/\w.cell? (K g 1)=some m/\w.cell? (K g 2)=some n:=by simp[World.cell?,a]
theorem mY{o:Obj}(h:a=b.heap.size):(b.alloc o).heap[a]?=some o:=by rw[h];exact bL b o
theorem ec{o:Obj}(h:a≠b.heap.size):(b.alloc o).heap[a]?=b.heap[a]?:=by
 by_cases c:a<b.heap.size
 ·exact hV _ _ c
 ·have d:b.heap[a]?=none:=by simp;omega
  have e:(b.alloc o).heap[a]?=none:=by simp;omega
  rw[d,e]
theorem aaw{u:Value}{t:TypeId}(c:b.heap[a]?=some (.cells #[m,n] t (0,0))):((b.setCell (H a) u).setCell (K a 1) h).heap[a]?=some (.cells #[u,h] t (0,0)):=by
 have d:=setRow (i:=1) (u:=h) (setRow (i:=0) (u:=u) c);simpa using d
structure gW where
 M:Nat->List av
 s:bO
 S:cq
structure Gj (N:Nat) (P:gW):Prop where
 rel:Rel N P.M P.s P.S
 BX:kh N P.S
 nice:BF N P.M
def uu (w:World) (x:Nat) (G:Nat->Prop) (N a:Nat) (P:gW):Prop:=∃F I b,dJ w x F I N a P.M P.s b/\(∀k,F k\/I k->G k)/\∀k,G k->k<w.heap.size
def tv (w:World) (r:Nat) (G:Nat->Prop) (N:Nat) (P:gW):Prop:=∃F L I a,da w r F L I N P.S a/\(∀k,sa F L I k->G k)/\∀k,G k->k<w.heap.size
theorem uu.gB{w x G N sp P}{a:World}(h:uu w x G N sp P)(c:w.heap.size<=a.heap.size)(d:∀k,G k->a.heap[k]?=w.heap[k]?):uu a x G N sp P:=by
 obtain⟨F,I,e,h,b,f⟩:=h;exact⟨F,I,e,⟨h.m.gB c (fun k hF=>d k (b k (.inl hF))) fun k hF=>d k (b k (.inr hF)),h.ok,h.md⟩,b,fun k hF=>aoV (f k hF) c⟩
theorem uu.lt{w x G sp P}(h:uu w x G a sp P):∀k,G k->k<w.heap.size:=by
 obtain⟨F,I,c,h,d,b⟩:=h;exact b
theorem tv.af{w r G P}{w':World}(h:tv w r G a P)(d:w.heap.size<=w'.heap.size)(c:∀k,G k->w'.heap[k]?=w.heap[k]?):tv w' r G a P:=by
 obtain⟨F,L,I,e,h,b,f⟩:=h;exact⟨F,L,I,e,h.gB d (fun k hF=>c k (b k (.inl hF))) (fun k hF=>c k (b k (.inr (.inl hF)))) fun k hF=>c k (b k (.inr (.inr hF))),b,fun k hF=>aoV (f k hF) d⟩
theorem tv.lt{w r G P}(h:tv w r G a P):∀k,G k->k<w.heap.size:=by
 obtain⟨F,L,I,c,h,d,b⟩:=h;exact b
def BZ (G:Nat->Prop) (N c:Nat) (P:gW) (x:Nat) (w a:World):Prop:=∃b,uu a x b N c P/\c0 G b w a
def Jg (G:Nat->Prop) (N:Nat) (P:gW) (r:Nat) (w a:World):Prop:=∃b,tv a r b N P/\c0 G b w a
theorem BZ.ofM{M s}{G:Nat->Prop}(S:cq)(l:∀k,e k\/f k->G k)(ok:hP a M s)(p:Bz a M)(h:zH d a i e f b j s):BZ G a i ⟨M,s,S⟩ d b j:=by
 obtain⟨n,o,q,m,g,r⟩:=h;exact⟨fun k=>n k\/o k,⟨n,o,q,⟨m,ok,p⟩,fun _ c=>c,fun k c=>c.elim (m.lt k) (m.cJ k)⟩,g.os,g.tape,g.output,g.size,fun k c t=>g.other k c fun hF=>t (l k (.inl hF)),fun k c=>c.elim (fun hF=>(g.sub k hF).imp (fun h=>l k (.inl h)) id) fun u=>(r.2 k u).imp (fun h=>l k (.inr h)) id⟩
theorem BZ.of{g M s}{G:Nat->Prop}(S:cq)(l:∀k,e k\/f k->G k)(h:qx a d i e f b j g M s):BZ G d i ⟨M,s,S⟩ a b j:=by
 obtain⟨n,o,p,c,_,q,r⟩:=h;exact BZ.ofM S l c.ok c.md ⟨n,o,p,c.m,q,r⟩
theorem Jg.of{q S}{G:Nat->Prop}(M:Nat->List av)(s:bO)(m:∀c,sa e f k c->G c)(h:kK a d e f k q b j S):Jg G d ⟨M,s,S⟩ a b j:=by
 obtain⟨n,o,p,r,l,i,u,_⟩:=h;exact⟨sa n o p,⟨n,o,p,r,l,fun _ g=>g,fun c g=>g.elim (l.cx.lt c) fun g=>g.elim (l.lt c) (l.cJ c)⟩,i.os,i.tape,i.output,i.size,fun c g t=>i.other c g fun hF=>t (m c hF),fun c g=>(i.sub c g).imp (m c) id⟩
theorem BZ.left{G P w}(h:uu w a G d i P)(c:J w b):BZ G d i P a w b:=⟨G,h.gB c.size fun k e=>c.block k (h.lt k e),c0.cQ c⟩
theorem Jg.left{G P w}(h:tv w a G d P)(c:J w b):Jg G d P a w b:=⟨G,h.af c.size fun k e=>c.block k (h.lt k e),c0.cQ c⟩
theorem aax(M:Nat->List av):∀N,(∀e,e<N->(M e).length<=60)->tn M N<=N*60
 |0,_=>aoR _
 |N+1,h=>by
  have a:=aax M N fun e b=>h e (by omega)
  have c:=h N (by omega);have d:tn M (N+1)=tn M N+(M N).length:=by first |rfl|simp[tn,apz]
  omega
theorem Gj.own{w x F I N q P r}(f:Gj N P)(h:dJ w x F I N q P.M P.s r){c:Nat}(d:c<N):Own N P.S.P P.S.has c ((P.s.ops c).map fun o=>eU o.op):=by
 have t:=h.m.hN;refine⟨d,?_,?_,?_,fun p u=> ?_⟩
 ·refine((h.ok.copy c d).perm.map _).trans (List.Perm.of_eq ?_)
  unfold nV;rw[List.map_flatMap];have e:∀l:List Nat,(∀i∈l,i<N)->(l.flatMap fun i=>((P.M i).take (P.s.has c i).toNat).map fun o=>eU o.op)=l.flatMap fun i=>(P.S.P i).take (P.S.has c i):=fun l n=>by
   induction l with
   |nil=>rfl
   |cons i l ih=>
    have g:=n i ao6;rw[ape,ape,ih fun j v=>n j (apa _ v),<-f.rel.made i g,f.rel.has c d i g,aqm];rfl
  exact e _ fun i g=>apQ.1 g
 ·exact apB.2 ((h.ok.kd c d).imp fun{a b} y=>by rw[pO,pO];exact decide_eq_true ((q3 _ _).1 y))
 ·have z:=f.rel.has c d c d
  have B:=h.ok.own c d;have C:(P.M c).length=(P.S.P c).length:=by rw[<-f.rel.made c d,aoU]
  omega
 ·obtain⟨o,D,rfl⟩:=aoX.1 u
  obtain⟨e,k,E⟩:=FT.1 ((h.ok.copy c d).perm.mem_iff.1 D);have z:=h.ok.cnt e k o (apx E);have B:=aax P.M N fun e k=>h.ok.made.len e k
  have C:N*60<=4*60:=apJ _ t;rw[pO];omega
structure gX (w:World) (aJ:Nat) (F:Nat->Prop) (x r:Nat) (bC:Value) (told:List PId) (cA cC:Nat->Prop) (N sp:Nat) (P:gW):Prop where
 blk:w.heap[aJ]?=some (.cells #[Z x,Z r,bC] 135 (0,0))
 told:gu 0 w bC told
 fs:uu w x cA N sp P
 kT:tv w r cC N P
 rel:Gj N P
 B0:∀k,cA k->F k
 cd:∀k,cC k->F k
 fr:F aJ
 Jh:∀k,bC.ownBlock=some k->F k
 jy:∀k,cA k->¬cC k
 Ec:¬cA aJ
 Ji:¬cC aJ
 Gk:∀k,bC.ownBlock=some k->¬cA k
 Jj:∀k,bC.ownBlock=some k->¬cC k
 lt:∀k,F k->k<w.heap.size
def ki (w:World) (a:Nat) (F:Nat->Prop) (b:Nat):Prop:=∃x r c told d e N f P,told.length<=b/\gX w a F x r c told d e N f P
theorem gX.gB{w d F x r e f i j N sp P}{b:World}(h:gX w d F x r e f i j N sp P)(c:w.heap.size<=b.heap.size)(a:∀k,F k->b.heap[k]?=w.heap[k]?):gX b d F x r e f i j N sp P:=
 ⟨by rw[a _ h.fr];exact h.blk,b4 h.told fun g l=>a g (h.Jh g l),h.fs.gB c fun k hF=>a k (h.B0 k hF),h.kT.af c fun k hF=>a k (h.cd k hF),h.rel,h.B0,h.cd,h.fr,h.Jh,h.jy,h.Ec,h.Ji,h.Gk,h.Jj,fun k hF=>aoV (h.lt k hF) c⟩
theorem gX.af{w x r c P}{w':World}(b:gX w a e x r h l f c d i P)(g:J w w'):gX w' a e x r h l f c d i P:=b.gB g.size fun k j=>g.block k (b.lt k j)
theorem gX.prog{w w' F x r sp P j}(b:gX w a F x r h l e f d sp P)(c:c0 e j w w'):w'.heap[a]?=w.heap[a]?/\tv w' r f d P/\gu 0 w' h l:=
 ⟨c.other a (b.lt _ b.fr) b.Ec,b.kT.af c.size fun k hF=>c.other k (b.kT.lt k hF) fun m=>b.jy k m hF,b4 b.told fun g i=>c.other g (aoT b.told g i).2 (b.Gk g i)⟩
theorem gX.both{r z u B P v w}(m:gX b a k i r h l z u d B P)(s:c0 z e b v)(x:uu v i e d B w)(q:c0 u f v j)(I:tv j r f d w)(hrel:Gj d w):
  ∃C,gX j a C i r h l e f d B w/\c0 k C b j/\∀c,C c->k c\/e c\/f c:=by
 have y:=s.size;have L:∀c,e c->¬u c:=fun c o p=>(s.sub c o).elim (fun t=>m.jy c t p) fun t=>by have :=m.kT.lt c p;omega
 have M:a<v.heap.size:=aoV (m.lt _ m.fr) y;have D:∀c,h.ownBlock=some c->c<b.heap.size:=fun c n=>(aoT m.told c n).2
 have E:∀c,c<b.heap.size->¬z c->¬u c->j.heap[c]?=b.heap[c]?:=fun c n o p=>(q.other c (by omega) p).trans (s.other c n o)
 refine⟨fun c=>k c\/e c\/f c,⟨?_,b4 m.told fun g F=>E g (D g F) (m.Gk g F) (m.Jj g F),x.gB q.size fun c hF=>q.other c (x.lt c hF) (L c hF),I,hrel,fun c n=>.inr (.inl n),fun c n=>.inr (.inr n),.inl m.fr,fun c n=>.inl (m.Jh c n),?_,?_,?_,?_,?_,?_⟩,?_,fun c n=>n⟩
 ·rw[E a (m.lt _ m.fr) m.Ec m.Ji];exact m.blk
 ·intro c o p
  rcases q.sub c p with t|t
  ·exact L c o t
  ·have :=x.lt c o;omega
 ·intro o
  rcases s.sub a o with p|p
  ·exact m.Ec p
  ·have :=m.lt _ m.fr;omega
 ·intro o
  rcases q.sub a o with p|p
  ·exact m.Ji p
  ·omega
 ·intro c n o
  rcases s.sub c o with p|p
  ·exact m.Gk c n p
  ·have :=D c n;omega
 ·intro c n o
  rcases q.sub c o with p|p
  ·exact m.Jj c n p
  ·have :=D c n;omega
 ·intro c n
  rcases n with n|n|n
  ·exact aoV (m.lt c n) (aoS y q.size)
  ·exact aoV (x.lt c n) q.size
  ·exact I.lt c n
 ·refine⟨q.os.trans s.os,q.tape.trans s.tape,q.output.trans s.output,aoS y q.size,fun c n hF=>E c n (fun o=>hF (m.B0 c o)) (fun o=>hF (m.cd c o)),fun c n=> ?_⟩
  rcases n with n|n|n
  ·exact .inl n
  ·exact(s.sub c n).imp (m.B0 c) id
  ·exact(q.sub c n).imp (m.cd c) fun o=>aoS y o
end
section
open Go.RowKit Tryz
attribute [local go_sem ↓] Go.wp_at_zero Go.wp_at_succ
variable {a d f h i:Nat}{b e:Value}
theorem akP{w:World}{c u:Value}{t:TypeId}(h:w.heap[a]?=some (.cells #[b,e,c] t (0,0))):(w.setCell (K a 2) u).heap[a]?=some (.cells #[b,e,u] t (0,0)):=by
 have d:=setRow (i:=2) (u:=u) h;simpa using d
theorem gX.akQ{w n F v told' p q P}(c:gX w a F d f e v p q h i P)(l:aP (fun k=>k=a\/e.ownBlock=some k) w n)(x:n.heap[a]?=some (.cells #[Z d,Z f,b] 135 (0,0)))(m:iT w e b)(r:gu 0 n b told'):
  ∃s,gX n a s d f b told' p q h i P/\c0 F s w n:=by
 have y:∀k,p k->n.heap[k]?=w.heap[k]?:=fun k j=>l.other k (c.fs.lt k j) fun o=>o.elim (fun g=>c.Ec (g▸j)) fun g=>c.Gk k g j
 have z:∀k,q k->n.heap[k]?=w.heap[k]?:=fun k j=>l.other k (c.kT.lt k j) fun o=>o.elim (fun g=>c.Ji (g▸j)) fun g=>c.Jj k g j
 have t:∀(Q:Nat->Prop),(∀k,e.ownBlock=some k->¬Q k)->(∀k,Q k->k<w.heap.size)->∀k,b.ownBlock=some k->¬Q k:=fun Q B C k j u=>by
  rcases m with m|m
  ·rw[m]at j;exact B k j u
  ·have :=m k j;have :=C k u;omega
 refine⟨fun k=>F k\/(w.heap.size<=k/\k<n.heap.size),⟨x,r,c.fs.gB l.size y,c.kT.af l.size z,c.rel,fun k j=>.inl (c.B0 k j),fun k j=>.inl (c.cd k j),.inl c.fr,fun k j=> ?_,c.jy,c.Ec,c.Ji,t p c.Gk c.fs.lt,t q c.Jj c.kT.lt,?_⟩,?_⟩
 ·rcases m with m|m
  ·rw[m]at j;exact .inl (c.Jh k j)
  ·exact .inr ⟨m k j,(aoT r k j).2⟩
 ·intro k j
  rcases j with j|j
  ·exact aoV (c.lt k j) l.size
  ·exact j.2
 ·exact⟨l.os,l.tape,l.output,l.size,fun k j hF=>l.other k j fun o=>hF (o.elim (fun g=>g▸c.fr) fun g=>c.Jh k g),fun k j=>j.imp id (·.1)⟩
theorem Su(w:World)(c:Nat)(a b m:Int)(g:m≠0):
  O 96 #[Z c,.agg #[A a,A b],A m,.agg #[A a,A b],A m] w fun e d=>e=.returned (.bool true)/\J w d:=by
 have f:=aa (((aoQ w.heap.size w).alloc (aoP _) (.cells #[A a,A b] 36)).alloc (by simp) (.cells #[A a,A b] 36));have heq:=uv;have h:et a b a b=true:=by simp[et]
 go_enter func96,ntmps96;go_wp2;go_ret
 exact⟨rfl,f.o⟩
theorem Sv{w F p E I L P}(h:gX w a F d f b p E I i L P)(m n:Int)(hl:p.length<3000000000000):
  O 96 #[Z a,.agg #[A m,A n],A 0,.agg #[A m,A n],A 0] w fun e M=>e=.returned (.bool true)/\∃s Ed,gX M a s d f Ed (p++[(m,n)]) E I i L P/\c0 F s w M:=by
 have aK:=aa (((aoQ w.heap.size w).alloc (aoP _) (.cells #[A m,A n] 36)).alloc (by simp) (.cells #[A m,A n] 36)).drew;have heq:=uv;have zJ:et m n m n=true:=by simp[et]
 obtain⟨l,c,rfl,kx,fZ,aD⟩:=bp h.told;clear aD;unfold maxLen at fZ;obtain⟨bc,a6,N⟩:=Eb h.blk;clear bc a6;have cP:=aM h.blk;have sx:=World.new_ne w (K a 2) N;have rD:w.heap.size+1≠a:=by omega
 have lN:w.heap.size+1+1≠a:=by omega
 have pT:=aa (show some a≠(Value.slice l p.length c).ownBlock from fun e=>by
  obtain⟨cur,v⟩:=bt h.told e.symm;exact absurd (bz v h.blk) (by decide))
 have t:=aa h;clear h;have lM:=aa (show gu 0 (((w.alloc (.cells #[A m,A n] 36)).alloc (.cells #[A m,A n] 36)).alloc (.cells #[A m,A n] 36)).drew (.slice l p.length c) p from c5 t.o.told (by go_grown));have n9:=aa (show ∀j u,(lL (m,n))[j]?=some u->(((w.alloc (.cells #[A m,A n] 36)).alloc (.cells #[A m,A n] 36)).alloc (.cells #[A m,A n] 36)).drew.cell? (K (w.heap.size+1+1) j)=some u from by
  have Q:(((w.alloc (.cells #[A m,A n] 36)).alloc (.cells #[A m,A n] 36)).alloc (.cells #[A m,A n] 36)).drew.heap[w.heap.size+1+1]?=some (.cells #[A m,A n] 36 (0,0)):=mY (by simp);exact JQ (bh Q).1 (bh Q).2)
 have x:=aa (show J w (((w.alloc (.cells #[A m,A n] 36)).alloc (.cells #[A m,A n] 36)).alloc (.cells #[A m,A n] 36)).drew by go_grown);have R:=aa (bj t.o.blk x.o);have c2a:(((w.alloc (.cells #[A m,A n] 36)).alloc (.cells #[A m,A n] 36)).alloc (.cells #[A m,A n] 36)).cell? (K a 2)=some (.slice l p.length c):=(Eb R.o).2.2;have bM:=aa (show(((w.alloc (.cells #[A m,A n] 36)).alloc (.cells #[A m,A n] 36)).alloc (.cells #[A m,A n] 36)).drew.heap[w.heap.size]?=some (.cells #[A m,A n] 36 (0,0)) from(ec (by simp;omega)).trans ((ec (by simp)).trans (bL w _)));have CR:=aa (show(((w.alloc (.cells #[A m,A n] 36)).alloc (.cells #[A m,A n] 36)).alloc (.cells #[A m,A n] 36)).drew.heap[w.heap.size+1]?=some (.cells #[A m,A n] 36 (0,0)) from(ec (by simp)).trans (mY (by simp)));go_enter func96,ntmps96;go_wp2_with fail
 go_region_law (first
  |(refine xi lL 2 16 65 36 (.agg #[A 0,A 0]) (by kernel_rfl) underlying65 rfl (by omega) (fun _=>rfl) (by rfl) (.tmp 17) (.tmp 19) (by rfl) 0 (.slice l p.length c) p (by rfl) lM.o (w.heap.size+1+1) 1 (m,n) (by rfl) n9.o JP (by omega) (by unfold maxLen;omega) (aoR _) ?_;intro v4 S U q W;have y:=aa U;have kF:=aa q;have jw:=aa W;have r:=aa ((q.block a (by simp;omega) pT.o).trans R.o);have z:∀k,(Value.slice l p.length c).ownBlock=some k->k<w.heap.size:=(fun k B=>(aoT t.o.told k B).2);have X:=aa ((q.block w.heap.size (by simp;omega) (fun e=>by have :=z _ e.symm;omega)).trans bM.o);have Y:=aa ((q.block (w.heap.size+1) (by simp) (fun e=>by have :=z _ e.symm;omega)).trans CR.o);clear U q W z;obtain⟨C,D,rfl,q0,ta,ub⟩:=bp y.o;clear q0 ta ub;replace N:=(Eb r.o).2.2;have vH:=cS r.o 2;have g4:=aM r.o;have jS:=(bh X.o).1;have q1:=(bh X.o).2;have kz:=(bh Y.o).1;have xk:=(bh Y.o).2;have rI:a≠w.heap.size:=(by omega);have gF:a≠w.heap.size+1:=(by omega)))
 all_goals go_wp2
 all_goals go_ret
 all_goals(
  have tb:(Value.slice C (p.length+1) D).ownBlock≠some a:=fun e=>by
   obtain⟨cur,v⟩:=bt y.o e;exact absurd (bz v r.o) (by decide)
  have EZ:aP (fun k=>k=a\/(Value.slice l p.length c).ownBlock=some k) w S:=(aP.cQ x.o).trans (aP.rN kF.o fun k B=>.inr B);have PF:=EZ.trans (aP.lf (w:=S) (g:=a) (o:=2) (.slice C (p.length+1) D) (.inl rfl));obtain⟨s,h1,h2⟩:=t.o.akQ (told':=p++[(m,n)]) PF (akP r.o) (jw.o.mono x.o.size) (by
   have :=iW y.o tb (o:=2) (.slice C (p.length+1) D);unfold gu;rw[aoW];exact this)
  exact⟨rfl,s,_,h1,h2⟩)
end
section
open Go.RowKit Tryz
variable {a j:World}{b e f:Nat}{d:TypeId}{h:List Value}{i:Value}
def Shape (e:TypeId) (k:Nat) (w:World) (v:Value) (n:Nat):Prop:=∃a,w.ownsRow 0 e k v n a
def pU (e:TypeId) (w c:World):Prop:=∀(g:Nat) (a:Array Value),w.heap[g]?=some (.cells a e (0,0))->∃b,c.heap[g]?=some (.cells b e (0,0))/\b.size=a.size
theorem pU.refl(e:TypeId)(w:World):pU e w w:=fun _ a h=>⟨a,h,rfl⟩
theorem pU.trans{e a b c}(h:pU e a b)(k:pU e b c):pU e a c:=fun g d f=>by
 obtain⟨i,j,l⟩:=h g d f;obtain⟨m,n,o⟩:=k g i j;exact⟨m,n,o.trans l⟩
theorem pU.below(h:J a j):pU d a j:=fun g c b=>⟨c,(h.block g (aM b)).trans b,rfl⟩
theorem pU.setCell{e:TypeId}(w:World)(g o:Nat)(u:Value):pU e w (w.setCell (K g o) u):=fun k a b=>by
 by_cases c:k=g
 ·subst c
  refine⟨a.setIfInBounds o u,?_,by simp⟩;simp[World.setCell,aqw,b]
 ·exact⟨a,(dI c).trans b,rfl⟩
theorem Shape.same{e w n}(h:Shape e b w i n)(f:pU e w a):Shape e b a i n:=by
 obtain⟨s,t,j⟩:=h;rcases j with⟨rfl,rfl⟩|⟨g,cap,k,rfl,l,m,c,o,p,u⟩
 ·exact⟨[],by simp,.inl ⟨rfl,rfl⟩⟩
 ·obtain⟨d,q,r⟩:=f g k m
  refine⟨d.toList.take (n*b),?_,.inr ⟨g,cap,d,rfl,l,q,c,o,r.trans p,rfl⟩⟩;have :n*b<=cap*b:=apJ _ c;simp;omega
theorem Shape.lt{k w v n}(h:Shape d k w v n):∀g,v.ownBlock=some g->g<w.heap.size:=fun g a=>by
 obtain⟨b,h⟩:=h;exact(aoT h g a).2
structure b5 (e:TypeId) (v:Value) (w W:World):Prop where
 t:aP (fun k=>v.ownBlock=some k) w W
 s:pU e w W
theorem b5.refl(e:TypeId)(v:Value)(w:World):b5 e v w w:=⟨aP.cQ (aoQ _ w),pU.refl e w⟩
theorem b5.trans{e v a b c}(h:b5 e v a b)(k:b5 e v b c):b5 e v a c:=⟨h.t.trans k.t,h.s.trans k.s⟩
theorem b5.alloc{e v w W}(h:b5 e v w W)(o:Obj):b5 e v w (W.alloc o):=⟨h.t.OD o,h.s.trans (pU.below ((aoQ _ W).alloc (aoP _) o))⟩
theorem b5.drew{e v w W}(h:b5 e v w W):b5 e v w W.drew:=⟨h.t.Vd,h.s⟩
theorem aaz{P:Program}(w:World)(t q e:TypeId)(i:TypeInfo)(z:Value)(size bytes:Nat)(B:P.underlying t=some (.slice e))(C:P.info? e=some i)(I:i.zero=some z)(S:i.size=size)(U:i.bytes=bytes)(hzs:z.cells.size=size)(hsz:0<size)(v:Value)(n:Nat)(gI:Shape e size w v n)(a:Addr)(m c:Nat)(hm:0<m)(d:List Value)(r:d.length=m*size)(D:∀j u,d[j]?=some u->w.cell? (a.add j)=some u)(W:∀u∈d,u.oneCell'=true)(X:n+m<=maxLen)(L:(n+m)*bytes<=140737488355328):
  ∃g f p,(Builtin.append_ #[t,t] q #[v,.slice (some a) m c]).run P w=.ok (.slice (some (H g)) (n+m) f) p/\Shape e size p (.slice (some (H g)) (n+m) f) (n+m)/\b5 e v w p/\(v.ownBlock=some g\/w.heap.size<=g):=by
 obtain⟨M,E⟩:=gI;obtain⟨v',p,o,Y,F,hn⟩:=Nz (P:=P) w 0 t q e i z size bytes B C I S U hzs hsz v n M E a m c d r D W X L (aoR _);obtain⟨g,f,rfl,_,cP⟩:∃g f,v'=.slice (some (H g)) (n+m) f/\0<=g/\g<p.heap.size:=by
  rcases Y.2 with⟨_,h0⟩|⟨g,f,l,aH,N,F,_⟩
  ·omega
  ·exact⟨g,f,aH,N,aM F⟩
 have c6:v.ownBlock=some g\/w.heap.size<=g:=by
  rcases hn with h|h
  ·exact .inl h.symm
  ·exact .inr (h g rfl)
 refine⟨g,f,p,o,⟨_,Y⟩,⟨aP.rN F fun k b=>b,?_⟩,c6⟩;have abr:n+m<=9223372036854775807:=by simp only[maxLen]at X;omega
 subst S;subst U;rcases E.2 with⟨rfl,rfl⟩|⟨s,Q,l,rfl,J0,R,J1,dh,gv,Tj⟩
 ·have x:=run_append_nil (P:=P) w t q e i z B C I a m c d r D (by omega) (by omega) (by have N:=L;simp only[apF]at N;omega)
  rw[x]at o;injection o with aj y;subst y;exact fun k l b=>⟨l,(hV w.drew _ (aM b)).trans b,rfl⟩
 ·by_cases vG:n+m<=Q
  ·have nc:n*i.size+d.length<=l.size:=by rw[r,gv,<-apV];exact apJ _ vG
   have x:=run_append_room (P:=P) w t q e i B C s n Q l R a m c d r D W vG nc;rw[x]at o;injection o with aj y;subst y;intro k hW b;by_cases ay:k=s
   ·subst ay
    rw[R]at b;injection b with b;injection b with b;subst b;refine⟨_,setRow_heap w k l _ e (0,0) R,?_⟩;simp;omega
   ·exact⟨hW,(F.block k (aM b) (by simp[Value.ownBlock];exact ay)).trans b,rfl⟩
  ·have holds:∀j u,M[j]?=some u->w.cell? (((H s):Addr).add j)=some u:=E.cells (g:=s) rfl
   have x:=run_append_grow (P:=P) w t q e i z B C I (H s) n Q M E.1 holds a m c d r D (by omega) (by omega) (growslice_fits (by omega) L);rw[x]at o;injection o with aj y;subst y;exact fun k l b=>⟨l,(hV w.drew _ (aM b)).trans b,rfl⟩
theorem Gl(size bytes:Nat)(t e:TypeId)(z:Value)(q:(prog.info? e).map (fun i=>(i.zero,i.size,i.bytes))=some (some z,size,bytes))(r:prog.underlying t=some (.slice e))(w:z.cells.size=size)(y:0<size){p:Array Oper}{o:Oper}{b:Act}{d:Act->World->Prop}{Q:Exit->Act->World->Prop}{E:Prop}(B:o.guard=none)(s x:Operand)(C:o.op=.call {callee:=.builtin .append,args:= #[s,x],argTypes:= #[t,t]})(v:Value)(n:Nat)(D:b.eval s=v)(F:Shape e size a v n)(g m c:Nat)(I:0<m)(L:b.eval x=.slice (some (H g)) m c){cs:Array Value}(M:a.heap[g]?=some (.cells cs e (0,0)))(N:cs.size=m*size)(R:∀u∈cs.toList,u.oneCell'=true)(S:(n+m)*bytes<=140737488355328)(U:n+m<=maxLen)(h:∀f l k,Shape e size k (.slice (some (H f)) (n+m) l) (n+m)->b5 e v a k->(v.ownBlock=some f\/a.heap.size<=f)->d (b.put o.dst (.slice (some (H f)) (n+m) l)) k):
  if Region.wanted o (yielded p b.tmps)=true then Oper.wp prog o b a d Q else E:=by
 have W:Region.wanted o (yielded p b.tmps)=true:=by simp[Region.wanted,B]
 rw[if_pos W];obtain⟨i,X,Y,hsz,eW⟩:=info_parts q;obtain⟨f,l,k,aI,h2,ak,aL⟩:=aaz (P:=prog) a t o.type e i z size bytes r X Y hsz eW w y v n F (H g) m c I cs.toList (by simpa using N)
  (fun j u hu=>by
   have :((H g):Addr).add j=(K g j):=by unfold Addr.add;split <;>simp_all
   rw[this,cell_of_row a g j cs e (0,0) M];simpa using hu) R U S
 unfold Oper.wp execOp;simp only[C,resolve,invoke,builtin,apk,apZ,apq,aqL,apb,apU,D,L,aI];exact h f l k h2 ak aL
def j3 (k:Nat) (a:List Value) (w:World) (v:Value) (b:Nat):Prop:=∀j,j<b->∀g,v.ownBlock=some g->∀q x,a[q]?=some x->w.cell? (K g (j*k+q))=some x
theorem j3.zero(k:Nat)(a:List Value)(w:World)(v:Value):j3 k a w v 0:=fun j b=>absurd b (ap5 _)
structure Sx (k:Nat) (df:List Value) (g j:Nat) (w w':World):Prop where
 set:∀q x,df[q]?=some x->w'.cell? (K g (j*k+q))=some x
 other:∀g' o,(g'≠g\/o<j*k\/j*k+k<=o)->w'.cell? (K g' o)=w.cell? (K g' o)
theorem j3.put{k m v j}(c:j3 k h a v e)(r:h.length=k)(n:Sx k h b j a m):j3 k h m v e:=fun i s f t q x g=>by
 have w:q<k:=by rw[<-r];exact(aqv.1 g).1
 by_cases o:f=b/\i=j
 ·obtain⟨rfl,rfl⟩:=o;exact n.set q x g
 ·rw[n.other f (i*k+q) ?_]
  ·exact c i s f t q x g
  ·by_cases p:f=b
   ·have u:i≠j:=fun d=>o ⟨p,d⟩
    rcases aro u with l|l
    ·have :=apJ k (show i+1<=j from l)
     rw[apV]at this;exact .inr (.inl (by omega))
    ·have :=apJ k (show j+1<=i from l)
     rw[apV]at this;exact .inr (.inr (by omega))
   ·exact .inl p
theorem j3.more(d:j3 b h a i e)(m:h.length=b)(n:i.ownBlock=some f)(k:Sx b h f e a j):j3 b h j i (e+1):=fun c r o g q x l=>by
 by_cases p:c=e
 ·rw[n]at g;cases g;subst p;exact k.set q x l
 ·exact d.put m k c (by omega) o g q x l
theorem j3.af{k w v j}{w':World}(a:j3 k h w v j)(d:∀g,v.ownBlock=some g->w'.heap[g]?=w.heap[g]?):j3 k h w' v j:=fun i e b c q x f=>by
 have :=a i e b c q x f;rw[apW (d b c)];exact this
theorem Shape.cell{w}{g c:Nat}(h:Shape d b w (.slice (some (H g)) f c) f){q:Nat}(n:e<f)(o:q<b):∃u,w.cell? (K g (e*b+q))=some u:=by
 obtain⟨p,r,a⟩:=h;rcases a with⟨a,_⟩|⟨s,j,i,a,t,k,v,x,y,z⟩
 ·cases a
 ·injection a with a _ B
  injection a with a;injection a with a;subst a;have l:(e+1)*b<=j*b:=apJ _ (by omega);rw[apV]at l;have m:e*b+q<i.size:=by omega
  refine⟨i[e*b+q],?_⟩;rw[cell_of_row w g _ i d (0,0) k];simp[m]
theorem Shape.Ck{g:Nat}(h:Shape d e a (.slice (some (H g)) b f) b)(o:Nat):a.frozen? (K g o)=false:=by
 obtain⟨i,h⟩:=h;obtain⟨j,c⟩:=bt h rfl;exact cS c o
theorem Shape.type(h:Shape d e a i f)(c:i.ownBlock=some b):∃g,a.heap[b]?=some (.cells g d (0,0)):=by
 obtain⟨j,h⟩:=h;exact bt h c
end
end Go.Proofs.YtnkpogjiiohapaaGreatDoor
