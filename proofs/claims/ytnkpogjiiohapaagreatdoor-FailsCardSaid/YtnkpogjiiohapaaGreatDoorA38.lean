/- Our own text. -/
import Derived.Deep.RegionLaw
import Derived.Deep.DeepCutAuto
import Derived.Deep.RegionHeld3
import Derived.Deep.DrawnRows
import Derived.Test.YtnkpogjiiohapaaGreatDoorA31
import Derived.Test.YtnkpogjiiohapaaGreatDoorA32
import Derived.Test.YtnkpogjiiohapaaGreatDoorA36
import Derived.Test.YtnkpogjiiohapaaGreatDoorA37
set_option linter.unusedSimpArgs false
set_option linter.unusedVariables false
set_option maxRecDepth 1000000
set_option maxHeartbeats 8000000
namespace Go.Proofs.YtnkpogjiiohapaaGreatDoor
section
open Go.RowKit Tryz
variable {a c h:Nat}{b i:World}{d e j:Nat->Prop}{f l m:Value}{k:List PId}
theorem EM{w:World}{g:Nat}{t:TypeId}{a:Nat×Nat}(h:w.heap[g]?=some (.cells #[f,l,m] t a)):w.cell? (H g)=some f/\w.cell? (K g 1)=some l/\w.cell? (K g 2)=some m:=by simp[World.cell?,h]
theorem nh{o:Obj}(h:a=b.heap.size):(b.alloc o).heap[a]?=some o:=by rw[h];exact bI b o
theorem ed{o:Obj}(h:a≠b.heap.size):(b.alloc o).heap[a]?=b.heap[a]?:=by
 by_cases c:a<b.heap.size
 ·exact hK _ _ c
 have d:b.heap[a]?=none:=by simp;omega
 have e:(b.alloc o).heap[a]?=none:=by simp;omega
 rw[d,e]
theorem aa4{u:Value}{t:TypeId}(h:b.heap[a]?=some (.cells #[l,m] t (0,0))):((b.setCell (H a) u).setCell (K a 1) f).heap[a]?=some (.cells #[u,f] t (0,0)):=by
 have c:=setRow (i:=1) (u:=f) (setRow (i:=0) (u:=u) h)
 simp_all
structure fV where
 M:Nat->List ar
 s:bn
 S:bP
structure G0 (N:Nat) (P:fV):Prop where
 rel:Rel N P.M P.s P.S
 mc:gS N P.S
 nice:Jg N P.M
 aQ:wh N P.s P.S
def uY (w:World) (x:Nat) (G:Nat->Prop) (N a:Nat) (P:fV):Prop:=∃F I b,dL w x F I N a P.M P.s b/\(∀k,F k\/I k->G k)/\∀k,G k->k<w.heap.size
def tG (w:World) (r:Nat) (G:Nat->Prop) (N:Nat) (P:fV):Prop:=∃F L I a,cL w r F L I N P.S a/\(∀k,sv F L I k->G k)/\∀k,G k->k<w.heap.size
theorem uY.gw{w x G N sp P}{a:World}(h:uY w x G N sp P)(c:w.heap.size<=a.heap.size)(d:∀k,G k->a.heap[k]?=w.heap[k]?):uY a x G N sp P:=by
 obtain⟨F,I,e,h,b,f⟩:=h;exact⟨F,I,e,⟨h.m.gw c (fun k hF=>d k (b k (.inl hF))) fun k hF=>d k (b k (.inr hF)),h.ok,h.md⟩,b,fun k hF=>ap3 (f k hF) c⟩
theorem uY.lt{w x G sp P}(h:uY w x G a sp P):∀k,G k->k<w.heap.size:=by
 obtain⟨F,I,c,h,d,b⟩:=h;exact b
theorem tG.ae{w r G P}{w':World}(h:tG w r G a P)(d:w.heap.size<=w'.heap.size)(c:∀k,G k->w'.heap[k]?=w.heap[k]?):tG w' r G a P:=by
 obtain⟨F,L,I,e,h,b,f⟩:=h;exact⟨F,L,I,e,h.gw d (fun k hF=>c k (b k (.inl hF))) (fun k hF=>c k (b k (.inr (.inl hF)))) fun k hF=>c k (b k (.inr (.inr hF))),b,fun k hF=>ap3 (f k hF) d⟩
theorem tG.lt{w r G P}(h:tG w r G a P):∀k,G k->k<w.heap.size:=by
 obtain⟨F,L,I,c,h,d,b⟩:=h;exact b
def CD (G:Nat->Prop) (N c:Nat) (P:fV) (x:Nat) (w a:World):Prop:=∃b,uY a x b N c P/\c6 G b w a
def J3 (G:Nat->Prop) (N:Nat) (P:fV) (r:Nat) (w a:World):Prop:=∃b,tG a r b N P/\c6 G b w a
theorem CD.ofM{M s}{G:Nat->Prop}(S:bP)(l:∀k,d k\/e k->G k)(ok:ev a M s)(p:B8 a M)(f:vT c a h d e b i s):CD G a h ⟨M,s,S⟩ c b i:=by
 obtain⟨n,o,q,m,j,r⟩:=f;exact⟨fun k=>n k\/o k,⟨n,o,q,⟨m,ok,p⟩,fun _ g=>g,fun k g=>g.elim (m.lt k) (m.cx k)⟩,j.os,j.tape,j.output,j.size,fun k g t=>j.other k g fun hF=>t (l k (.inl hF)),fun k g=>g.elim (fun hF=>(j.sub k hF).imp (fun f=>l k (.inl f)) id) fun u=>(r.2 k u).imp (fun f=>l k (.inr f)) id⟩
theorem CD.of{j M s}{G:Nat->Prop}(S:bP)(l:∀k,d k\/e k->G k)(f:qM a c h d e b i j M s):CD G c h ⟨M,s,S⟩ a b i:=by
 obtain⟨n,o,p,g,_,q,r⟩:=f;exact CD.ofM S l g.ok g.md ⟨n,o,p,g.m,q,r⟩
theorem J3.of{vl S}{G:Nat->Prop}(M:Nat->List ar)(s:bn)(m:∀k,sv d e j k->G k)(h:jb a c d e j vl b i S):J3 G c ⟨M,s,S⟩ a b i:=by
 obtain⟨n,o,p,q,l,g,t,_⟩:=h;exact⟨sv n o p,⟨n,o,p,q,l,fun _ f=>f,fun k f=>f.elim (l.ct.lt k) fun f=>f.elim (l.lt k) (l.cx k)⟩,g.os,g.tape,g.output,g.size,fun k f r=>g.other k f fun hF=>r (m k hF),fun k f=>(g.sub k f).imp (m k) id⟩
theorem CD.left{G P w}(d:uY w a G c h P)(e:J w b):CD G c h P a w b:=⟨G,d.gw e.size fun k f=>e.block k (d.lt k f),c6.cJ e⟩
theorem J3.left{G P w}(h:tG w a G c P)(d:J w b):J3 G c P a w b:=⟨G,h.ae d.size fun k e=>d.block k (h.lt k e),c6.cJ d⟩
theorem aa5(M:Nat->List ar):∀N,(∀e,e<N->(M e).length<=60)->vV M N<=N*60
 |0,_=>apZ _
 |N+1,h=>by
  have a:=aa5 M N fun e b=>h e (by omega)
  have c:=h N (by omega);have d:vV M (N+1)=vV M N+(M N).length:=by rfl
  omega
theorem G0.own{w x F I N q P r}(f:G0 N P)(h:dL w x F I N q P.M P.s r){c:Nat}(d:c<N):Own N P.S.P P.S.has c ((P.s.ops c).map fun o=>e4 o.op):=by
 have E:=h.m.hN;refine⟨d,?_,?_,?_,fun p t=> ?_⟩
 ·refine((h.ok.copy c d).perm.map _).trans (List.Perm.of_eq ?_);unfold oD;rw[List.map_flatMap];have e:∀l:List Nat,(∀i∈l,i<N)->(l.flatMap fun i=>((P.M i).take (P.s.has c i).toNat).map fun o=>e4 o.op)=l.flatMap fun i=>(P.S.P i).take (P.S.has c i):=fun l k=>by
   induction l with
   |nil=>rfl
   |cons i l ih=>
    have n:=k i aqf;rw[aqm,aqm,ih fun j u=>k j (aqh _ u),<-f.rel.made i n,f.rel.has c d i n,aru];rfl
  simp_all
 ·exact aqN.2 ((h.ok.jB c d).imp fun{a b} v=>by rw[p3,p3];exact decide_eq_true ((qz _ _).1 v))
 ·have y:=f.rel.has c d c d;have z:=h.ok.own c d;have B:(P.M c).length=(P.S.P c).length:=by rw[<-f.rel.made c d,ap2]
  omega
 obtain⟨o,C,rfl⟩:=ap5.1 t;obtain⟨e,g,D⟩:=Gn.1 ((h.ok.copy c d).perm.mem_iff.1 C);have y:=h.ok.cnt e g o (aqE D);have z:=aa5 P.M N fun e g=>h.ok.made.len e g
 have B:N*60<=4*60:=by omega
 rw[p3];omega
structure fW (w:World) (aI:Nat) (F:Nat->Prop) (x r:Nat) (br:Value) (told:List PId) (cu cw:Nat->Prop) (N sp:Nat) (P:fV):Prop where
 blk:w.heap[aI]?=some (.cells #[Z x,Z r,br] 135 (0,0))
 told:gA 0 w br told
 eV:uY w x cu N sp P
 kR:tG w r cw N P
 rel:G0 N P
 CE:∀k,cu k->F k
 b3:∀k,cw k->F k
 fA:F aI
 J4:∀k,br.ownBlock=some k->F k
 jn:∀k,cu k->¬cw k
 EN:¬cu aI
 J5:¬cw aI
 G1:∀k,br.ownBlock=some k->¬cu k
 J6:∀k,br.ownBlock=some k->¬cw k
 lt:∀k,F k->k<w.heap.size
def kI (w:World) (a:Nat) (F:Nat->Prop) (b:Nat):Prop:=∃x r c told d e N f P,told.length<=b/\fW w a F x r c told d e N f P
theorem fW.gw{w d F x r e f i j N sp P}{b:World}(h:fW w d F x r e f i j N sp P)(c:w.heap.size<=b.heap.size)(a:∀k,F k->b.heap[k]?=w.heap[k]?):fW b d F x r e f i j N sp P:=
 ⟨by rw[a _ h.fA];exact h.blk,ca h.told fun g l=>a g (h.J4 g l),h.eV.gw c fun k hF=>a k (h.CE k hF),h.kR.ae c fun k hF=>a k (h.b3 k hF),h.rel,h.CE,h.b3,h.fA,h.J4,h.jn,h.EN,h.J5,h.G1,h.J6,fun k hF=>ap3 (h.lt k hF) c⟩
theorem fW.ae{w x r g P}{w':World}(b:fW w a d x r f g e j c h P)(i:J w w'):fW w' a d x r f g e j c h P:=b.gw i.size fun k l=>i.block k (b.lt k l)
theorem fW.prog{w w' F x r c N sp P}(h:fW w a F x r f c d e N sp P)(b:c6 d j w w'):w'.heap[a]?=w.heap[a]?/\tG w' r e N P/\gA 0 w' f c:=
 ⟨b.other a (h.lt _ h.fA) h.EN,h.kR.ae b.size fun k hF=>b.other k (h.kR.lt k hF) fun l=>h.jn k l hF,ca h.told fun g i=>b.other g (ap1 h.told g i).2 (h.G1 g i)⟩
theorem fW.both{r E F x P y t}(m:fW i a j h r f k E F c x P)(s:c6 E d i y)(u:uY y h d c x t)(q:c6 F e y b)(I:tG b r e c t)(hrel:G0 c t):
  ∃z,fW b a z h r f k d e c x t/\c6 j z i b/\∀l,z l->j l\/d l\/e l:=by
 have v:=s.size;have L:=fun l o p=>(s.sub l o).elim (fun w=>m.jn l w p) fun w=>by have :=m.kR.lt l p;omega
 have M:=ap3 (m.lt _ m.fA) v;have B:=fun l n=>(ap1 m.told l n).2
 have C:=fun l n o p=>(q.other l (by omega) p).trans (s.other l n o)
 refine⟨fun l=>j l\/d l\/e l,⟨?_,ca m.told fun g D=>C g (B g D) (m.G1 g D) (m.J6 g D),u.gw q.size fun l hF=>q.other l (u.lt l hF) (L l hF),I,hrel,fun l n=>.inr (.inl n),fun l n=>.inr (.inr n),.inl m.fA,fun l n=>.inl (m.J4 l n),?_,?_,?_,?_,?_,?_⟩,?_,fun l n=>n⟩
 ·rw[C a (m.lt _ m.fA) m.EN m.J5];exact m.blk
 ·intro l o p;rcases q.sub l p with w|w
  ·simp_all
  have :=u.lt l o;omega
 ·intro o;rcases s.sub a o with p|p
  ·exact m.EN p
  have :=m.lt _ m.fA;omega
 ·intro o;rcases q.sub a o with p|p
  ·exact m.J5 p
  omega
 ·intro l n o;rcases s.sub l o with p|p
  ·exact m.G1 l n p
  have :=B l n;omega
 ·intro l n o;rcases q.sub l o with p|p
  ·exact m.J6 l n p
  have :=B l n;omega
 ·intro l n;rcases n with n|n|n
  ·exact ap3 (m.lt l n) (ap0 v q.size)
  ·exact ap3 (u.lt l n) q.size
  exact I.lt l n
 refine⟨q.os.trans s.os,q.tape.trans s.tape,q.output.trans s.output,ap0 v q.size,fun l n hF=>C l n (fun o=>hF (m.CE l o)) (fun o=>hF (m.b3 l o)),fun l n=> ?_⟩;rcases n with n|n|n
 ·exact .inl n
 ·exact(s.sub l n).imp (m.CE l) id
 exact(q.sub l n).imp (m.b3 l) fun o=>ap0 v o
end
section
open Go.RowKit Tryz
attribute [local go_sem ↓] Go.wp_at_zero Go.wp_at_succ
variable {a c e f h:Nat}{b d:Value}
theorem alM{w:World}{c u:Value}{t:TypeId}(h:w.heap[a]?=some (.cells #[b,d,c] t (0,0))):(w.setCell (K a 2) u).heap[a]?=some (.cells #[b,d,u] t (0,0)):=by
 have e:=setRow (i:=2) (u:=u) h
 simp_all
theorem fW.alN{w n F u told' p q P}(g:fW w a F c e d u p q f h P)(l:aO (fun k=>k=a\/d.ownBlock=some k) w n)(v:n.heap[a]?=some (.cells #[Z c,Z e,b] 135 (0,0)))(m:iR w d b)(r:gA 0 n b told'):
  ∃s,fW n a s c e b told' p q f h P/\c6 F s w n:=by
 have t:∀(Q:Nat->Prop),(∀k,d.ownBlock=some k->¬Q k)->(∀k,Q k->k<w.heap.size)->∀k,b.ownBlock=some k->¬Q k:=fun Q z x k j y=>by
  rcases m with m|m
  ·simp_all
  have :=m k j;have :=x k y;omega
 refine⟨fun k=>F k\/(w.heap.size<=k/\k<n.heap.size),⟨v,r,g.eV.gw l.size (fun k j=>l.other k (g.eV.lt k j) fun o=>o.elim (fun i=>g.EN (i▸j)) fun i=>g.G1 k i j),g.kR.ae l.size (fun k j=>l.other k (g.kR.lt k j) fun o=>o.elim (fun i=>g.J5 (i▸j)) fun i=>g.J6 k i j),g.rel,fun k j=>.inl (g.CE k j),fun k j=>.inl (g.b3 k j),.inl g.fA,fun k j=> ?_,g.jn,g.EN,g.J5,t p g.G1 g.eV.lt,t q g.J6 g.kR.lt,?_⟩,⟨l.os,l.tape,l.output,l.size,fun k j hF=>l.other k j fun o=>hF (o.elim (fun i=>i▸g.fA) fun i=>g.J4 k i),fun k j=>j.imp id (·.1)⟩⟩
 ·rcases m with m|m
  ·rw[m]at j;exact .inl (g.J4 k j)
  exact .inr ⟨m k j,(ap1 r k j).2⟩
 intro k j;rcases j with j|j
 ·exact ap3 (g.lt k j) l.size
 exact j.2
theorem Tf(w:World)(c:Nat)(a b m:Int)(f:m≠0):
  O 96 #[Z c,.agg #[A a,A b],A m,.agg #[A a,A b],A m] w fun e d=>e=.returned (.bool true)/\J w d:=by
 have heq:=uZ;have g:eF a b a b=true:=by simp[eF]
 go_enter func96,ntmps96;go_wp2;go_ret
 exact⟨rfl,((apY w.heap.size w).alloc (apX _) (.cells #[A a,A b] 36)).alloc (by simp) (.cells #[A a,A b] 36)⟩
theorem Tg{w F p D E I P}(h:fW w a F c e b p D E f I P)(m n:Int)(hl:p.length<3000000000000):
  O 96 #[Z a,.agg #[A m,A n],A 0,.agg #[A m,A n],A 0] w fun d L=>d=.returned (.bool true)/\∃r X,fW L a r c e X (p++[(m,n)]) D E f I P/\c6 F r w L:=by
 have aK:=aa (((apY w.heap.size w).alloc (apX _) (.cells #[A m,A n] 36)).alloc (by simp) (.cells #[A m,A n] 36)).drew;have heq:=uZ;have Ca:eF m n m n=true:=by simp[eF]
 obtain⟨i,l,rfl,kC,Y,aD⟩:=bm h.told;unfold maxLen at Y;obtain⟨bf,a6,M⟩:=EM h.blk;have c9:=aN h.blk;have oR:=World.new_ne w (K a 2) M;have mM:w.heap.size+1≠a:=by omega
 have jJ:w.heap.size+1+1≠a:=by omega
 have p5:=show some a≠(Value.slice i p.length l).ownBlock from fun d=>by
  obtain⟨cur,v⟩:=bq h.told d.symm;exact absurd (bK v h.blk) (by decide)
 have s:=h;have js:=show gA 0 (((w.alloc (.cells #[A m,A n] 36)).alloc (.cells #[A m,A n] 36)).alloc (.cells #[A m,A n] 36)).drew (.slice i p.length l) p from c7 s.told (by go_grown)
 have oi:=show ∀j u,(lO (m,n))[j]?=some u->(((w.alloc (.cells #[A m,A n] 36)).alloc (.cells #[A m,A n] 36)).alloc (.cells #[A m,A n] 36)).drew.cell? (K (w.heap.size+1+1) j)=some u from by
  have N:(((w.alloc (.cells #[A m,A n] 36)).alloc (.cells #[A m,A n] 36)).alloc (.cells #[A m,A n] 36)).drew.heap[w.heap.size+1+1]?=some (.cells #[A m,A n] 36 (0,0)):=nh (by simp);exact Ky (bl N).1 (bl N).2
 have x:=show J w (((w.alloc (.cells #[A m,A n] 36)).alloc (.cells #[A m,A n] 36)).alloc (.cells #[A m,A n] 36)).drew by go_grown
 have Q:=bj s.blk x;have c2a:(((w.alloc (.cells #[A m,A n] 36)).alloc (.cells #[A m,A n] 36)).alloc (.cells #[A m,A n] 36)).cell? (K a 2)=some (.slice i p.length l):=(EM Q).2.2;have bL:=show(((w.alloc (.cells #[A m,A n] 36)).alloc (.cells #[A m,A n] 36)).alloc (.cells #[A m,A n] 36)).drew.heap[w.heap.size]?=some (.cells #[A m,A n] 36 (0,0)) from(ed (by simp;omega)).trans ((ed (by simp)).trans (bI w _))
 have yk:=show(((w.alloc (.cells #[A m,A n] 36)).alloc (.cells #[A m,A n] 36)).alloc (.cells #[A m,A n] 36)).drew.heap[w.heap.size+1]?=some (.cells #[A m,A n] 36 (0,0)) from(ed (by simp)).trans (nh (by simp))
 go_enter func96,ntmps96;go_wp2_with fail
 go_region_law (first
  |(refine xO lO 2 16 65 36 (.agg #[A 0,A 0]) (by rfl) underlying65 rfl (by omega) (fun _=>rfl) (by rfl) (.tmp 17) (.tmp 19) (by rfl) 0 (.slice i p.length l) p (by rfl) js (w.heap.size+1+1) 1 (m,n) (by rfl) oi Kx (by omega) (by unfold maxLen;omega) (apZ _) ?_;intro v4 R ha t fR;have y:=ha;have j8:=t;have iY:=fR;have q:=(t.block a (by simp;omega) p5).trans Q;have S:=(fun k z=>(ap1 s.told k z).2);have U:=(t.block w.heap.size (by simp;omega) (fun d=>by have :=S _ d.symm;omega)).trans bL;have W:=(t.block (w.heap.size+1) (by simp) (fun d=>by have :=S _ d.symm;omega)).trans yk;obtain⟨B,C,rfl,uv,vC,wX⟩:=bm y;replace M:=(EM q).2.2;have vb:=cG q 2;have g4:=aN q;have jx:=(bl U).1;have q1:=(bl U).2;have j1:=(bl W).1;have xQ:=(bl W).2;have qw:a≠w.heap.size:=(by omega);have gZ:a≠w.heap.size+1:=(by omega)))
 all_goals go_wp2
 all_goals go_ret
 all_goals(
  have tj:(Value.slice B (p.length+1) C).ownBlock≠some a:=fun d=>by
   obtain⟨cur,v⟩:=bq y d;exact absurd (bK v q) (by decide)
  have FI:aO (fun k=>k=a\/(Value.slice i p.length l).ownBlock=some k) w R:=(aO.cJ x).trans (aO.r2 j8 fun k z=>.inr z);have DS:=FI.trans (aO.kU (w:=R) (g:=a) (o:=2) (.slice B (p.length+1) C) (.inl rfl));obtain⟨r,h1,h2⟩:=s.alN (told':=p++[(m,n)]) DS (alM q) (iY.mono x.size) (by
   have :=iV y tj (o:=2) (.slice B (p.length+1) C);unfold gA;rw[ap4];omega)
  exact⟨rfl,r,_,h1,h2⟩)
end
section
open Go.RowKit Tryz
variable {a c d h k M W:Nat}{b f y:World}{e F R S:Value}{i D:TypeId}{j:List PId}{l n q U:Nat->Prop}{m:fV}{r u E L:Int}{s Q:PId}{v:Array Value}{w:List bg}{z:ByteArray}{B:List bH}{C:Nat->Value}{I:List Value}{N:Bool}{P:List Nat}
def Shape (e:TypeId) (k:Nat) (w:World) (v:Value) (n:Nat):Prop:=∃a,w.ownsRow 0 e k v n a
def p7 (e:TypeId) (w c:World):Prop:=∀(g:Nat) (a:Array Value),w.heap[g]?=some (.cells a e (0,0))->∃b,c.heap[g]?=some (.cells b e (0,0))/\b.size=a.size
theorem p7.refl(e:TypeId)(w:World):p7 e w w:=fun _ a h=>⟨a,h,rfl⟩
theorem p7.trans{e a b c}(h:p7 e a b)(k:p7 e b c):p7 e a c:=fun g d f=>by
 obtain⟨i,j,l⟩:=h g d f;obtain⟨m,n,o⟩:=k g i j
 simp_all
theorem p7.below(h:J b f):p7 i b f:=fun g c a=>⟨c,(h.block g (aN a)).trans a,rfl⟩
theorem p7.setCell{e:TypeId}(w:World)(g o:Nat)(u:Value):p7 e w (w.setCell (K g o) u):=fun k a b=>by
 by_cases c:k=g
 ·subst c;refine⟨a.setIfInBounds o u,?_,by simp⟩;simp[World.setCell,ars,b]
 exact⟨a,(dy c).trans b,rfl⟩
theorem Shape.same{e w w' n}(h:Shape e a w F n)(c:p7 e w w'):Shape e a w' F n:=by
 obtain⟨q,r,d⟩:=h;rcases d with⟨rfl,rfl⟩|⟨g,cap,f,rfl,i,j,k,l,m,s⟩
 ·exact⟨[],by simp,.inl ⟨rfl,rfl⟩⟩
 obtain⟨b,o,p⟩:=c g f j;refine⟨b.toList.take (n*a),?_,.inr ⟨g,cap,b,rfl,i,o,k,l,p.trans m,rfl⟩⟩
 simp_all
theorem Shape.lt{k w v n}(h:Shape i k w v n):∀g,v.ownBlock=some g->g<w.heap.size:=fun g a=>by
 obtain⟨b,h⟩:=h;exact(ap1 h g a).2
structure cb (e:TypeId) (v:Value) (w W:World):Prop where
 t:aO (fun k=>v.ownBlock=some k) w W
 s:p7 e w W
theorem cb.refl(e:TypeId)(v:Value)(w:World):cb e v w w:=⟨aO.cJ (apY _ w),p7.refl e w⟩
theorem cb.trans{e v a b c}(h:cb e v a b)(k:cb e v b c):cb e v a c:=⟨h.t.trans k.t,h.s.trans k.s⟩
theorem cb.alloc{e v w W}(h:cb e v w W)(o:Obj):cb e v w (W.alloc o):=⟨h.t.PJ o,h.s.trans (p7.below ((apY _ W).alloc (apX _) o))⟩
theorem cb.drew{e v w W}(h:cb e v w W):cb e v w W.drew:=⟨h.t.Wb,h.s⟩
theorem aa6{P:Program}(w:World)(t q e:TypeId)(i:TypeInfo)(z:Value)(size bytes:Nat)(y:P.underlying t=some (.slice e))(B:P.info? e=some i)(I:i.zero=some z)(R:i.size=size)(S:i.bytes=bytes)(hzs:z.cells.size=size)(hsz:0<size)(v:Value)(n:Nat)(dS:Shape e size w v n)(a:Addr)(m c:Nat)(hm:0<m)(d:List Value)(r:d.length=m*size)(C:∀j u,d[j]?=some u->w.cell? (a.add j)=some u)(U:∀u∈d,u.oneCell'=true)(CY:n+m<=maxLen)(L:(n+m)*bytes<=140737488355328):
  ∃g f p,(Builtin.append_ #[t,t] q #[v,.slice (some a) m c]).run P w=.ok (.slice (some (H g)) (n+m) f) p/\Shape e size p (.slice (some (H g)) (n+m) f) (n+m)/\cb e v w p/\(v.ownBlock=some g\/w.heap.size<=g):=by
 obtain⟨W,D⟩:=dS;obtain⟨v',p,o,X,E,hn⟩:=Oq (P:=P) w 0 t q e i z size bytes y B I R S hzs hsz v n W D a m c d r C U CY L (apZ _);obtain⟨g,f,rfl,_,c9⟩:∃g f,v'=.slice (some (H g)) (n+m) f/\0<=g/\g<p.heap.size:=by
  rcases X.2 with⟨_,h0⟩|⟨g,f,l,aF,M,E,_⟩
  ·omega
  exact⟨g,f,aF,M,aN E⟩
 have de:v.ownBlock=some g\/w.heap.size<=g:=by
  rcases hn with h|h
  ·exact .inl h.symm
  exact .inr (h g rfl)
 refine⟨g,f,p,o,⟨_,X⟩,⟨aO.r2 E fun k b=>b,?_⟩,de⟩;have abY:n+m<=9223372036854775807:=by assumption
 subst R;subst S;rcases D.2 with⟨rfl,rfl⟩|⟨F,N,l,rfl,KN,Q,KO,cZ,gB,T2⟩
 ·have s:=run_append_nil (P:=P) w t q e i z y B I a m c d r C (by omega) (by omega) (by have M:=L;simp only[aqQ]at M;omega);rw[s]at o;injection o with Y x;subst x;exact fun k l b=>⟨l,(hK w.drew _ (aN b)).trans b,rfl⟩
 by_cases wx:n+m<=N
 ·have pH:n*i.size+d.length<=l.size:=by rw[r,gB,<-aqZ];exact aqV _ wx
  have s:=run_append_room (P:=P) w t q e i y B F n N l Q a m c d r C U wx pH;rw[s]at o;injection o with Y x;subst x;intro k hX b;by_cases ax:k=F
  ·subst ax;rw[Q]at b;injection b with b;injection b with b;subst b;refine⟨_,setRow_heap w k l _ e (0,0) Q,?_⟩;simp;omega
  exact⟨hX,(E.block k (aN b) (by simp[Value.ownBlock];exact ax)).trans b,rfl⟩
 have s:=run_append_grow (P:=P) w t q e i z y B I (H F) n N W D.1 (D.cells (g:=F) rfl) a m c d r C (by omega) (by omega) (growslice_fits (by omega) L);rw[s]at o;injection o with Y x;subst x;exact fun k l b=>⟨l,(hK w.drew _ (aN b)).trans b,rfl⟩
theorem G2(size bytes:Nat)(t e:TypeId)(z:Value)(q:(prog.info? e).map (fun i=>(i.zero,i.size,i.bytes))=some (some z,size,bytes))(r:prog.underlying t=some (.slice e))(w:z.cells.size=size)(y:0<size){p:Array Oper}{o:Oper}{a:Act}{d:Act->World->Prop}{Q:Exit->Act->World->Prop}{E:Prop}(B:o.guard=none)(s x:Operand)(C:o.op=.call {callee:=.builtin .append,args:= #[s,x],argTypes:= #[t,t]})(v:Value)(n:Nat)(D:a.eval s=v)(F:Shape e size b v n)(g m c:Nat)(I:0<m)(L:a.eval x=.slice (some (H g)) m c){cs:Array Value}(M:b.heap[g]?=some (.cells cs e (0,0)))(hl:cs.size=m*size)(N:∀u∈cs.toList,u.oneCell'=true)(R:(n+m)*bytes<=140737488355328)(S:n+m<=maxLen)(h:∀f l k,Shape e size k (.slice (some (H f)) (n+m) l) (n+m)->cb e v b k->(v.ownBlock=some f\/b.heap.size<=f)->d (a.put o.dst (.slice (some (H f)) (n+m) l)) k):
  if Region.wanted o (yielded p a.tmps)=true then Oper.wp prog o a b d Q else E:=by
 have U:Region.wanted o (yielded p a.tmps)=true:=by simp[Region.wanted,B]
 rw[if_pos U];obtain⟨i,W,X,Y,ez⟩:=info_parts q;obtain⟨f,l,k,aH,h2,al,aL⟩:=aa6 (P:=prog) b t o.type e i z size bytes r W X Y ez w y v n F (H g) m c I cs.toList (by omega)
  (fun j u hu=>by
   have :((H g):Addr).add j=(K g j):=by unfold Addr.add;split <;>simp_all
   rw[this,cell_of_row b g j cs e (0,0) M];simpa using hu) N S R
 unfold Oper.wp execOp;simp only[C,resolve,invoke,builtin,aqt,aq4,aqz,arQ,aqj,aqY,D,L,aH];exact h f l k h2 al aL
def ka (k:Nat) (a:List Value) (w:World) (v:Value) (b:Nat):Prop:=∀j,j<b->∀g,v.ownBlock=some g->∀q x,a[q]?=some x->w.cell? (K g (j*k+q))=some x
theorem ka.zero(k:Nat)(a:List Value)(w:World)(v:Value):ka k a w v 0:=fun j b=>absurd b (aq7 _)
structure Ti (k:Nat) (dt:List Value) (g j:Nat) (w w':World):Prop where
 set:∀q x,dt[q]?=some x->w'.cell? (K g (j*k+q))=some x
 other:∀g' o,(g'≠g\/o<j*k\/j*k+k<=o)->w'.cell? (K g' o)=w.cell? (K g' o)
theorem ka.put{k v j}(h:ka k I b v c)(m:I.length=k)(l:Ti k I a j b f):ka k I f v c:=fun i n d o q x e=>by
 have s:q<k:=by rw[<-m];exact(arB.1 e).1
 by_cases p:d=a/\i=j
 ·obtain⟨rfl,rfl⟩:=p;exact l.set q x e
 rw[l.other d (i*k+q) ?_]
 ·exact h i n d o q x e
 by_cases t:d=a
 ·have r:i≠j:=by omega
  rcases ast r with g|g
  ·have :=aqV k (show i+1<=j from g);rw[aqZ]at this;omega
  have :=aqV k (show j+1<=i from g);rw[aqZ]at this;omega
 omega
theorem ka.more(h:ka a I b e c)(l:I.length=a)(m:e.ownBlock=some d)(j:Ti a I d c b f):ka a I f e (c+1):=fun i p n g q x k=>by
 by_cases o:i=c
 ·rw[m]at g;cases g;subst o;exact j.set q x k
 exact h.put l j i (by omega) n g q x k
theorem ka.ae{k w v j}{w':World}(h:ka k I w v j)(c:∀g,v.ownBlock=some g->w'.heap[g]?=w.heap[g]?):ka k I w' v j:=fun i d a b q x e=>by
 have :=h i d a b q x e;rw[aq0 (c a b)];omega
theorem Shape.cell{w}{g c:Nat}(b:Shape i a w (.slice (some (H g)) h c) h){q:Nat}(m:d<h)(n:q<a):∃u,w.cell? (K g (d*a+q))=some u:=by
 obtain⟨o,p,e⟩:=b;rcases e with⟨e,_⟩|⟨r,j,f,e,s,k,t,v,x,y⟩
 ·cases e
 injection e with e _ z;injection e with e;injection e with e;subst e;have l:(d+1)*a<=j*a:=aqV _ (by omega);rw[aqZ]at l;have B:d*a+q<f.size:=by omega
 refine⟨f[d*a+q],?_⟩;rw[cell_of_row w g _ f i (0,0) k];simp
theorem Shape.C0{g:Nat}(h:Shape i c b (.slice (some (H g)) a d) a)(o:Nat):b.frozen? (K g o)=false:=by
 obtain⟨f,h⟩:=h;obtain⟨j,e⟩:=bq h rfl;exact cG e o
theorem Shape.type(h:Shape i c b e d)(f:e.ownBlock=some a):∃g,b.heap[a]?=some (.cells g i (0,0)):=by
 obtain⟨j,h⟩:=h;exact bq h f
def kZ (g:Nat):List Value:=[.slice (some (H g)) 4 4]
structure Nm (e fo:TypeId) (k:Nat) (dt:Array Value) (w:World) (v:Value) (n cn:Nat) (U:Nat->Value) (W:World):Prop where
 zero:U 0=v
 row:W.heap[cn]?=some (.cells #[U 0,U 1,U 2,U 3] fo (0,0))
 z:W.heap[w.heap.size]?=some (.cells dt e (0,0))
 s:∀i,i<4->Shape e k W (U i) (n+i)
 b:∀i,i<4->∀g,(U i).ownBlock=some g->v.ownBlock=some g\/w.heap.size<g
 t:aO (fun j=>v.ownBlock=some j) w W
 gl:w.heap.size<cn
theorem Nm.cell{e w v W}(b:Nm D i d e w v h c C W)(f:a<4):W.cell? (K c a)=some (C a):=by
 rw[cell_of_row W c a _ i (0,0) b.row]
 match a,f with
 |0,_=>rfl
 |1,_=>rfl
 |2,_=>rfl
 |3,_=>rfl
theorem Nm.form{k}(h:Nm i D k v b e c d C f)(o:a<4):∃l m,C a=.slice l (c+a) m/\(∀j,j<c+a->∃g,l=some (H g)):=by
 obtain⟨t,p⟩:=h.s a o;rcases p.2 with⟨n,q⟩|⟨g,r,u,n,_⟩
 ·exact⟨none,0,by rw[q];exact n,fun j w=>by omega⟩
 exact⟨_,r,n,fun j _=>⟨g,rfl⟩⟩
theorem Nm.put{k r w v}(e:Nm i D k r w v h d C f)(x:∀a,v.ownBlock=some a->a<w.heap.size)(B:D≠i)(n:c<4)(o:(C c).ownBlock=some a)(p:∀q,q≠a->y.heap[q]?=f.heap[q]?)(E:p7 i f y)(m:y.os=f.os/\y.tape=f.tape/\y.output=f.output/\f.heap.size<=y.heap.size):Nm i D k r w v h d C y:=by
 have F:d≠a:=fun g=>by
  subst g;obtain⟨P,I⟩:=(e.s c n).type o;exact B (bK e.row I)
 have L:w.heap.size≠a:=fun g=>by
  subst g;rcases e.b c n _ o with l|l
  ·have :=x _ l;omega
  omega
 refine⟨e.zero,(p d F).trans e.row,(p _ L).trans e.z,fun j M=>(e.s j M).same E,e.b,⟨m.1.trans e.t.os,m.2.1.trans e.t.tape,m.2.2.1.trans e.t.output,ap0 e.t.size m.2.2.2,fun q N u=> ?_⟩,e.gl⟩;have :q≠a:=fun g=>by
  subst g;rcases e.b c n _ o with l|l
  ·exact u l
  omega
 exact(p q this).trans (e.t.other q N u)
structure wi (e fo:TypeId) (k:Nat) (dt:Array Value) (w:World) (v:Value) (n cn:Nat) (U:Nat->Value) (i j:Nat) (W:World):Prop where
 gg:Nm e fo k dt w v n cn U W
 full:∀lp,lp<i->ka k dt.toList W (U lp) (n+lp)
 part:ka k dt.toList W (U i) j
theorem AE{g:Nat}:∀(a:List Value) (o:Nat) (W:World) (q:Nat),q≠g->(W.setCells g o a).heap[q]?=W.heap[q]?
 |[],_,_,_,_=>rfl
 |v::r,o,W,q,h=>(AE r (o+1) (W.setCell (K g o) v) q h).trans (dy h)
theorem aa7{e:TypeId}{g:Nat}:∀(a:List Value) (o:Nat) (W:World),p7 e W (W.setCells g o a)
 |[],_,W=>p7.refl e W
 |v::r,o,W=>(p7.setCell W g o v).trans (aa7 r (o+1) (W.setCell (K g o) v))
theorem aa8{g:Nat}:∀(a:List Value) (o:Nat) (W:World),(W.setCells g o a).os=W.os/\(W.setCells g o a).tape=W.tape/\(W.setCells g o a).output=W.output/\W.heap.size<=(W.setCells g o a).heap.size
 |[],_,W=>⟨rfl,rfl,rfl,apX _⟩
 |v::r,o,W=>by
  have h:=aa8 (g:=g) r (o+1) (W.setCell (K g o) v);have b:(W.setCell (K g o) v).heap.size=W.heap.size:=by simp[World.setCell]
  exact⟨h.1,h.2.1,h.2.2.1,ap0 (Nat.le_of_eq b.symm) h.2.2.2⟩
theorem alO(m:I.length=a){g j:Nat}{W:World}(c:∀q,q<a->∃u,W.cell? (K g (j*a+q))=some u):Ti a I g j W (W.setCells g (j*a) I):=by
 refine⟨fun q x d=> ?_,fun n o e=> ?_⟩
 ·obtain⟨f,k⟩:=arB.1 d;rw[World.cell?_setCells_in g I (j*a) W (fun i p=>by obtain⟨u,l⟩:=c i (by omega);simp[l]) q f,k]
 refine World.cell?_setCells_out g I (j*a) W _ fun b _=> ?_
 simp only at b⊢;rcases e with h|h|h
 ·exact absurd b h
 ·exact .inl h
 exact .inr (by omega)
theorem wi.next{e l v j W}(f:wi e i c l b v d h C a j W)(u:∀g,v.ownBlock=some g->g<b.heap.size)(w:i≠e)(x:l.size=c)(n:a<4){g:Nat}(o:C a=.slice (some (H g)) (d+a) k)(y:j<d+a):
  wi e i c l b v d h C a (j+1) (W.setCells g (j*c) l.toList):=by
 have p:=f.gg.s a n;rw[o]at p;have m:l.toList.length=c:=by simpa using x
 have r:=alO m (g:=g) (j:=j) (W:=W) fun q z=>p.cell y z
 have t:(C a).ownBlock=some g:=by rw[o];rfl
 exact⟨f.gg.put u w n t (AE _ _ W) (aa7 _ _ W) (aa8 _ _ W),fun B D=>(f.full B D).put m r,f.part.more m t r⟩
structure tH (e fo:TypeId) (k:Nat) (dt:Array Value) (n cn:Nat) (U:Nat->Value) (W:World):Prop where
 row:W.heap[cn]?=some (.cells #[U 0,U 1,U 2,U 3] fo (0,0))
 s:∀i,i<4->Shape e k W (U i) (n+i)
 NS:∀i,i<4->ka k dt.toList W (U i) (n+i)
theorem Shape.ae{e k w v n}{w':World}(h:Shape e k w v n)(a:∀g,v.ownBlock=some g->w'.heap[g]?=w.heap[g]?):Shape e k w' v n:=by
 obtain⟨b,h⟩:=h;exact⟨b,ca h a⟩
theorem tH.ae{e d k f n b U W}{c:World}(h:tH e d k f n b U W)(l:c.heap[b]?=W.heap[b]?)(j:∀i,i<4->∀g,(U i).ownBlock=some g->c.heap[g]?=W.heap[g]?):tH e d k f n b U c:=
 ⟨l.trans h.row,fun i a=>(h.s i a).ae (j i a),fun i a=>(h.NS i a).ae (j i a)⟩
theorem wi.drew{e a k c w v n d U i j W}(h:wi e a k c w v n d U i j W):wi e a k c w v n d U i j W.drew:=⟨⟨h.gg.zero,h.gg.row,h.gg.z,h.gg.s,h.gg.b,h.gg.t.Wb,h.gg.gl⟩,h.full,h.part⟩
theorem alP{c:Value}(h:b.heap[a]?=some (.cells #[e,c,F,R] i (0,0))):(b.setCell (K a 1) S).heap[a]?=some (.cells #[e,S,F,R] i (0,0)):=by
 simp[World.setCell,ars,h]
def AF (e j l:TypeId) (k:Nat) (m:Array Value) (w:World) (d:Nat) (v f:Value) (h:List Nat) (n:Nat) (P:Value->Array Value) (a:World):Prop:=
 ∃b c U,a.heap[d]?=some (.cells (P b) 84 (0,0))/\a.ownsRow 0 l 1 b (h.length+1) ((h++[c]).flatMap kZ)/\aO (fun q=>q=d\/v.ownBlock=some q\/f.ownBlock=some q) w a/\iR w f b/\tH e j k m n c U a/\
  w.heap.size<c/\∀i,i<4->∀g,(U i).ownBlock=some g->v.ownBlock=some g\/w.heap.size<g
theorem Tk{n o:Nat}(q:b.heap[M]?=some (.cells #[e,.slice (some (H d)) (a+1) W,.slice (some (H h)) (a+2) n,.slice (some (H k)) (a+3) o] D (0,0)))(r:b.heap[f.heap.size]?=some (.cells v i (0,0)))(s:Shape i c b e a)(t:Shape i c b (.slice (some (H d)) (a+1) W) (a+1))(u:Shape i c b (.slice (some (H h)) (a+2) n) (a+2))(w:Shape i c b (.slice (some (H k)) (a+3) o) (a+3))(x:e.ownBlock=some d\/f.heap.size<d)(y:e.ownBlock=some h\/f.heap.size<h)(z:e.ownBlock=some k\/f.heap.size<k)(B:aO (fun j=>e.ownBlock=some j) f b)(C:f.heap.size<M):∃U,Nm i D c v f e a M U b:=by
 refine⟨fun l=>if l=0 then e else if l=1 then .slice (some (H d)) (a+1) W else if l=2 then .slice (some (H h)) (a+2) n else .slice (some (H k)) (a+3) o,rfl,q,r,fun l p=> ?_,fun l p g m=> ?_,B,C⟩
 ·match l,p with
  |0,_=>exact s
  |1,_=>exact t
  |2,_=>exact u
  |3,_=>exact w
 match l,p with
 |0,_=>exact .inl m
 |1,_=>simp[Value.ownBlock]at m;subst m;exact x
 |2,_=>simp[Value.ownBlock]at m;subst m;exact y
 |3,_=>simp[Value.ownBlock]at m;subst m;exact z
theorem alQ{l:Option Addr}(aA:f.heap[d]?=some (.cells #[F,e,R,S] 84 (0,0)))(nC:P.length<2000000000000)(hn:a<2000000000000)(av:f.ownsRow 0 138 1 e P.length (P.flatMap kZ))(hl:Shape 36 2 f (.slice l a c) a):
  O 106 #[.pointer (some (K d 1)),.slice l a c] f fun m w'=>m=.returned (.tuple #[])/\AF 36 65 138 2 #[A (-7070),A P.length] f d (.slice l a c) e P a (fun x=> #[F,x,R,S]) w':=by
 obtain⟨D,ac,rfl,nC,xm,rB⟩:=bm av;have y1:f.cell? (K d 1)=some (.slice D P.length ac):=by simp[World.cell?,aA]
 have bR:=aa hl;have tv:=aa hl;have gI:=aa aA;have bY:=aa av;clear aA av rB;have tI:=aa (show ∀q,f.heap.size<=q->¬((Value.slice l a c).ownBlock=some q) from fun q n C=>by have :=hl.lt q C;omega);have E:=aa (bI f (.cells #[A (-7070),A P.length] 36));clear hl;go_enter func106,ntmps106;go_wp2_with fail
 go_cut [5] (fun p wc=>∃r,p=.slice (some (H r)) 4 4/\∃U,Nm 36 65 2 #[A (-7070),A P.length] f (.slice l a c) a r U wc)
 case first =>
  go_region_held3 (fun W=>W.cell? (V f 0)=some (A (-7070))/\W.cell? (V f 1)=some (A P.length)) (first |exact bl (t:=36) (by(repeat(first |exact I.o|exact X.o|exact Y.o|exact E.o|exact nh (by first |rfl|(simp;done)|(simp;omega))|refine(ed (by first |omega|(simp;done)|(simp;omega))).trans ?_|refine(L.o _ (by first |omega|(simp;done)|(simp;omega)) (by first |omega|(simp;done)|(simp;omega))).trans ?_|refine(M.o _ (by first |omega|(simp;done)|(simp;omega)) (by first |omega|(simp;done)|(simp;omega))).trans ?_|refine(N.o _ (by first |omega|(simp;done)|(simp;omega)) (by first |omega|(simp;done)|(simp;omega))).trans ?_))))
   (first
    |(refine G2 2 16 65 36 (.agg #[A 0,A 0]) (by kernel_rfl) underlying65 rfl (by omega) (by rfl) (.tmp 15) (.tmp 17) (by rfl) (.slice l a c) a (by rfl) (bR.o.same (cb.s (by(repeat(first |exact ff.o|exact gK.o|exact cb.refl _ _ _|refine cb.alloc ?_ _|refine cb.drew ?_)):cb 36 (.slice l a c) f _))) _ 1 1 (by omega) (by rfl) (cs:= #[A (-7070),A P.length]) (by(repeat(first |exact I.o|exact X.o|exact Y.o|exact E.o|exact nh (by first |rfl|(simp;done)|(simp;omega))|refine(ed (by first |omega|(simp;done)|(simp;omega))).trans ?_|refine(L.o _ (by first |omega|(simp;done)|(simp;omega)) (by first |omega|(simp;done)|(simp;omega))).trans ?_|refine(M.o _ (by first |omega|(simp;done)|(simp;omega)) (by first |omega|(simp;done)|(simp;omega))).trans ?_|refine(N.o _ (by first |omega|(simp;done)|(simp;omega)) (by first |omega|(simp;done)|(simp;omega))).trans ?_))) (by rfl) (by simp[Value.oneCell']) (by omega) (by unfold maxLen;omega) ?_;intro b2 a6 w1 hS fD aq;have hz1:=fD.t.size;(try simp at hz1);have iN:=aa hS;have gK:=aa (cb.trans (by(repeat(first |exact ff.o|exact gK.o|exact cb.refl _ _ _|refine cb.alloc ?_ _|refine cb.drew ?_)):cb 36 (.slice l a c) f _) fD);have N:=aa (fun q n (gZ:f.heap.size<=q)=>fD.t.other q n (tI.o q gZ));have Y:=aa (show w1.heap[f.heap.size]?=some (.cells #[A (-7070),A P.length] 36 (0,0)) from(N.o _ (by first |omega|(simp;done)|(simp;omega)) (apX _)).trans (by(repeat(first |exact I.o|exact X.o|exact Y.o|exact E.o|exact nh (by first |rfl|(simp;done)|(simp;omega))|refine(ed (by first |omega|(simp;done)|(simp;omega))).trans ?_|refine(L.o _ (by first |omega|(simp;done)|(simp;omega)) (by first |omega|(simp;done)|(simp;omega))).trans ?_|refine(M.o _ (by first |omega|(simp;done)|(simp;omega)) (by first |omega|(simp;done)|(simp;omega))).trans ?_|refine(N.o _ (by first |omega|(simp;done)|(simp;omega)) (by first |omega|(simp;done)|(simp;omega))).trans ?_))));have e0:(Value.slice l a c).ownBlock=some b2\/f.heap.size<b2:=(aq.imp id (fun C=>by(try simp at C);omega));clear hS fD aq)
    |(refine G2 2 16 65 36 (.agg #[A 0,A 0]) (by kernel_rfl) underlying65 rfl (by omega) (by rfl) (.tmp 19) (.tmp 22) (by rfl) (.slice l a c) a (by rfl) (bR.o.same (cb.s (by(repeat(first |exact ff.o|exact gK.o|exact cb.refl _ _ _|refine cb.alloc ?_ _|refine cb.drew ?_)):cb 36 (.slice l a c) f _))) _ 2 2 (by omega) (by rfl) (cs:= #[A (-7070),A P.length,A (-7070),A P.length]) (by(repeat(first |exact I.o|exact X.o|exact Y.o|exact E.o|exact nh (by first |rfl|(simp;done)|(simp;omega))|refine(ed (by first |omega|(simp;done)|(simp;omega))).trans ?_|refine(L.o _ (by first |omega|(simp;done)|(simp;omega)) (by first |omega|(simp;done)|(simp;omega))).trans ?_|refine(M.o _ (by first |omega|(simp;done)|(simp;omega)) (by first |omega|(simp;done)|(simp;omega))).trans ?_|refine(N.o _ (by first |omega|(simp;done)|(simp;omega)) (by first |omega|(simp;done)|(simp;omega))).trans ?_))) (by rfl) (by simp[Value.oneCell']) (by omega) (by unfold maxLen;omega) ?_;intro a2 bc w2 eM gU aY;have hz2:=gU.t.size;(try simp at hz2);replace iN:=aa (iN.o.same ((cb.s (by(repeat(first |exact cb.refl _ _ _|refine cb.alloc ?_ _|refine cb.drew ?_)):cb 36 (.slice l a c) w1 _)).trans gU.s));have l4:=aa eM;have ff:=aa (cb.trans (by(repeat(first |exact ff.o|exact gK.o|exact cb.refl _ _ _|refine cb.alloc ?_ _|refine cb.drew ?_)):cb 36 (.slice l a c) f _) gU);have M:=aa (fun q n (gZ:f.heap.size<=q)=>gU.t.other q n (tI.o q gZ));have X:=aa (show w2.heap[f.heap.size]?=some (.cells #[A (-7070),A P.length] 36 (0,0)) from(M.o _ (by first |omega|(simp;done)|(simp;omega)) (apX _)).trans (by(repeat(first |exact I.o|exact X.o|exact Y.o|exact E.o|exact nh (by first |rfl|(simp;done)|(simp;omega))|refine(ed (by first |omega|(simp;done)|(simp;omega))).trans ?_|refine(L.o _ (by first |omega|(simp;done)|(simp;omega)) (by first |omega|(simp;done)|(simp;omega))).trans ?_|refine(M.o _ (by first |omega|(simp;done)|(simp;omega)) (by first |omega|(simp;done)|(simp;omega))).trans ?_|refine(N.o _ (by first |omega|(simp;done)|(simp;omega)) (by first |omega|(simp;done)|(simp;omega))).trans ?_))));have jy:(Value.slice l a c).ownBlock=some a2\/f.heap.size<a2:=(aY.imp id (fun C=>by(try simp at C);omega));clear eM gU aY)
    |(refine G2 2 16 65 36 (.agg #[A 0,A 0]) (by kernel_rfl) underlying65 rfl (by omega) (by rfl) (.tmp 24) (.tmp 28) (by rfl) (.slice l a c) a (by rfl) (bR.o.same (cb.s (by(repeat(first |exact ff.o|exact gK.o|exact cb.refl _ _ _|refine cb.alloc ?_ _|refine cb.drew ?_)):cb 36 (.slice l a c) f _))) _ 3 3 (by omega) (by rfl) (cs:= #[A (-7070),A P.length,A (-7070),A P.length,A (-7070),A P.length]) (by(repeat(first |exact I.o|exact X.o|exact Y.o|exact E.o|exact nh (by first |rfl|(simp;done)|(simp;omega))|refine(ed (by first |omega|(simp;done)|(simp;omega))).trans ?_|refine(L.o _ (by first |omega|(simp;done)|(simp;omega)) (by first |omega|(simp;done)|(simp;omega))).trans ?_|refine(M.o _ (by first |omega|(simp;done)|(simp;omega)) (by first |omega|(simp;done)|(simp;omega))).trans ?_|refine(N.o _ (by first |omega|(simp;done)|(simp;omega)) (by first |omega|(simp;done)|(simp;omega))).trans ?_))) (by rfl) (by simp[Value.oneCell']) (by omega) (by unfold maxLen;omega) ?_;intro a3 bZ w3 l1 fs bb;have mR:=fs.t.size;(try simp at mR);replace iN:=aa (iN.o.same ((cb.s (by(repeat(first |exact cb.refl _ _ _|refine cb.alloc ?_ _|refine cb.drew ?_)):cb 36 (.slice l a c) w2 _)).trans fs.s));replace l4:=aa (l4.o.same ((cb.s (by(repeat(first |exact cb.refl _ _ _|refine cb.alloc ?_ _|refine cb.drew ?_)):cb 36 (.slice l a c) w2 _)).trans fs.s));have fa:=aa l1;have hy:=aa (cb.trans (by(repeat(first |exact ff.o|exact gK.o|exact cb.refl _ _ _|refine cb.alloc ?_ _|refine cb.drew ?_)):cb 36 (.slice l a c) f _) fs);have L:=aa (fun q n (gZ:f.heap.size<=q)=>fs.t.other q n (tI.o q gZ));have I:=aa (show w3.heap[f.heap.size]?=some (.cells #[A (-7070),A P.length] 36 (0,0)) from(L.o _ (by first |omega|(simp;done)|(simp;omega)) (apX _)).trans (by(repeat(first |exact I.o|exact X.o|exact Y.o|exact E.o|exact nh (by first |rfl|(simp;done)|(simp;omega))|refine(ed (by first |omega|(simp;done)|(simp;omega))).trans ?_|refine(L.o _ (by first |omega|(simp;done)|(simp;omega)) (by first |omega|(simp;done)|(simp;omega))).trans ?_|refine(M.o _ (by first |omega|(simp;done)|(simp;omega)) (by first |omega|(simp;done)|(simp;omega))).trans ?_|refine(N.o _ (by first |omega|(simp;done)|(simp;omega)) (by first |omega|(simp;done)|(simp;omega))).trans ?_))));have hY:(Value.slice l a c).ownBlock=some a3\/f.heap.size<a3:=(bb.imp id (fun C=>by(try simp at C);omega));clear l1 fs bb))
  all_goals(go_wp2_with fail;go_meet)
  all_goals exact⟨_,rfl,Tk (bI w3 _) ((ed (by omega)).trans I.o) (bR.o.same (hy.o.alloc _).s) (iN.o.same ((cb.refl 36 (.slice l a c) w3).alloc _).s) (l4.o.same ((cb.refl 36 (.slice l a c) w3).alloc _).s) (fa.o.same ((cb.refl 36 (.slice l a c) w3).alloc _).s) e0 jy hY (hy.o.alloc _).t (by omega)⟩
 case rest=>
  obtain⟨r,rfl,U,vB⟩:=hcut;have CF:=aa bR.o.lt;clear E tI bR;go_wp2;go_loopw [6] (fun i wr=>∃k:Nat,k<=4/\i=A k/\wi 36 65 2 #[A (-7070),A P.length] f (.slice l a c) a r U k 0 wr) (fun i _=>4-(intOf i).toNat)
  case atStart=>exact⟨0,by omega,rfl,vB,fun lp h=>absurd h (aq7 _),ka.zero _ _ _ _⟩
  case round=>
   obtain⟨k,hk,rfl,na⟩:=hrel;obtain⟨w,uA⟩:∃w,w=wr:=⟨_,rfl⟩;subst uA;by_cases aE:k<4
   ·obtain⟨J7,ER,hu,iw⟩:=na.gg.form aE;have pT:=aa iw;clear iw;have J8:=aa na;clear na vB;have jR:(0:Int)<=(k:Int):=aqc _;have qC:(k:Int)<4:=by omega
    go_wp2;go_loopw [7] (fun i hf=>∃j:Nat,j<=a+k/\i=A j/\wi 36 65 2 #[A (-7070),A P.length] f (.slice l a c) a r U k j hf) (fun i _=>a+k-(intOf i).toNat)
    case atStart=>exact⟨0,apZ _,rfl,J8.o⟩
    case round=>
     obtain⟨j,au,rfl,n⟩:=hrel;have eP:=n.gg.cell aE;rw[hu]at eP;by_cases iu:j<a+k
     ·obtain⟨g,rfl⟩:=pT.o j iu;have dS:=n.gg.s k aE;rw[hu]at dS;obtain⟨u0,t0⟩:=dS.cell (q:=0) iu (by omega);obtain⟨u1,t1⟩:=dS.cell (q:=1) iu (by omega);have apb:=dS.C0;obtain⟨z0,z1⟩:=bl n.gg.z;have AD:f.heap.size≠g:=fun y=>by
       rcases n.gg.b k aE g (by rw[hu];rfl) with h1|h1
       ·have :=CF.o _ h1;omega
       omega
      have kM:=aa n;clear n;simp only[aqW]at t0;have AW:(0:Int)<=(j:Int):=aqc _;have sl:(j:Int)<((a+k:Nat):Int):=by omega
      have mz:r≠g:=fun y=>by
       subst y;obtain⟨Q,v⟩:=dS.type rfl;exact absurd (bK kM.o.gg.row v) (by decide)
      clear dS;go_wp2_with fail
      go_region_held3 (fun W=>W.cell? (K r k)=some (.slice (some (H g)) (a+k) ER)/\W.cell? (V f 0)=some (A (-7070))/\W.cell? (V f 1)=some (A P.length)) (first |exact⟨eP,z0,z1⟩|exact⟨(aq0 (AE [A (-7070),A P.length] (j*2) wr r mz)).trans eP,(aq0 (AE [A (-7070),A P.length] (j*2) wr f.heap.size AD)).trans z0,(aq0 (AE [A (-7070),A P.length] (j*2) wr f.heap.size AD)).trans z1⟩) (fail)
      all_goals go_wp2
      all_goals go_roundw
      case rel=>exact⟨j+1,by omega,by go_num,(kM.o.next CF.o (by decide) rfl aE hu iu).drew⟩
      case measure=>simp[intOf];omega
     have rj:j=a+k:=by omega
     subst rj;go_wp2;go_roundw
     case rel=>
      refine⟨k+1,by omega,by go_num,n.gg,fun lp eS=> ?_,ka.zero _ _ _ _⟩;by_cases wT:lp=k
      ·subst wT;exact n.part
      exact n.full lp (by omega)
     case measure=>simp[intOf];omega
   have qC:k=4:=by omega
   subst qC;have B:=aa na.gg;have oF:=aa (show ∀i,i<4->ka 2 #[A (-7070),A P.length].toList w (U i) (a+i) from na.full);clear na;have xM:¬((Value.slice l a c).ownBlock=some d):=fun C=>by
    obtain⟨Q,v⟩:=tv.o.type C;exact absurd (bK v gI.o) (by decide)
   have dM:=aa ((B.o.t.other d (aN gI.o) xM).trans gI.o);have EJ:∀q,(Value.slice D P.length ac).ownBlock=some q->¬((Value.slice l a c).ownBlock=some q):=fun q h1 h2=>by
    obtain⟨Q,v⟩:=bq bY.o h1;obtain⟨J9,gM⟩:=tv.o.type h2;exact absurd (bK v gM) (by decide)
   have h6:=aa (ca bY.o (w':=w) fun q n=>B.o.t.other q (ap1 bY.o q n).2 (EJ q n));have apc:w.cell? (K d 1)=some (.slice D P.length ac):=by simp[World.cell?,dM.o]
   have c9:=aN dM.o;have js:=aa (show(w.alloc (.cells #[.slice (some (H r)) 4 4] 138)).ownsRow 0 138 1 (.slice D P.length ac) P.length (P.flatMap kZ) from c7 h6.o (by go_grown));have oi:=aa (show ∀j u,(kZ r)[j]?=some u->(w.alloc (.cells #[.slice (some (H r)) 4 4] 138)).cell? (V w j)=some u from one_cell (by simp[go_sem]));have p5:=aa (show some d≠(Value.slice D P.length ac).ownBlock from fun y=>by
    obtain⟨Q,v⟩:=bq h6.o y.symm;exact absurd (bK v dM.o) (by decide))
   go_wp2_with (first
    |(at_builtin;refine zB kZ 1 24 78 138 (.slice none 0 0) (by kernel_rfl) underlying78 rfl (by omega) (fun _=>rfl) rfl (.tmp 57) (.tmp 59) rfl 0 (.slice D P.length ac) P rfl js.o w.heap.size 1 r rfl oi.o (by simp[kZ,Value.oneCell']) (by omega) (by unfold maxLen;omega) (apZ _) ?_;intro v4 w4 ha dw fR;have eA:=aa ha;have j8:=aa dw;have iY:=aa fR;have fO:=aa ((dw.block d (by simp;omega) p5.o).trans ((ed (by omega)).trans dM.o));clear ha dw fR;obtain⟨a4,j9,rfl,uv,vC,wX⟩:=bm eA.o;clear uv vC wX;have bc:w4.cell? (K d 1)=some (.slice D P.length ac):=(by simp[World.cell?,fO.o]);have vb:=cG fO.o 1))
   have tj:(Value.slice a4 (P.length+1) j9).ownBlock≠some d:=fun y=>by
    obtain⟨Q,v⟩:=bq eA.o y;exact absurd (bK v fO.o) (by decide)
   have jO:∀(q:Nat) (Q:Array Value) (t:TypeId),w.heap[q]?=some (.cells Q t (0,0))->t≠138->t≠84->(w4.setCell (K d 1) (.slice a4 (P.length+1) j9)).heap[q]?=w.heap[q]?:=fun q Q t n h1 h2=>by
    have Ka:q≠d:=fun y=>by subst y;exact h2 (bK n dM.o)
    have El:some q≠(Value.slice D P.length ac).ownBlock:=fun y=>by
     obtain⟨J9,v⟩:=bq h6.o y.symm;exact h1 (bK n v)
    have BP:=aN n;exact(dy Ka).trans ((j8.o.block q (by simp;omega) El).trans (ed (by omega)))
   go_end0
   refine⟨rfl,.slice a4 (P.length+1) j9,r,U,alP fO.o,iV eA.o tj _,?_,?_,?_,B.o.gl,B.o.b⟩
   ·exact(B.o.t.mono fun q n=>.inr (.inl n)).trans ((aO.cJ ((apY _ w).alloc (apX _) _)).trans ((aO.r2 j8.o fun q n=>.inr (.inr n)).trans (aO.kU _ (.inl rfl))))
   ·exact iY.o.mono (ap0 B.o.t.size (by simp))
   refine tH.ae ⟨B.o.row,B.o.s,oF.o⟩ (jO r _ 65 B.o.row (by decide) (by decide)) fun i hi g ag=> ?_
   obtain⟨Q,v⟩:=(B.o.s i hi).type ag;exact jO g _ 36 v (by decide) (by decide)
theorem tH.cell{W}(b:tH D i d v h c C W)(e:a<4):W.cell? (K c a)=some (C a):=by
 rw[cell_of_row W c a _ i (0,0) b.row]
 match a,e with
 |0,_=>rfl
 |1,_=>rfl
 |2,_=>rfl
 |3,_=>rfl
theorem tH.form{k}(h:tH i D k v c d C b)(n:a<4):∃e f,C a=.slice e (c+a) f/\c+a<=9223372036854775807/\(∀j,j<c+a->∃g,e=some (H g)):=by
 obtain⟨r,o⟩:=h.s a n;rcases o.2 with⟨l,m⟩|⟨g,p,t,l,_,_,m,q,_⟩
 ·exact⟨none,0,by rw[m];exact l,by omega,fun j u=>by omega⟩
 unfold maxLen at q;exact⟨_,p,l,by omega,fun j _=>⟨g,rfl⟩⟩
theorem Tl(h:b.ownsRow 0 i 1 (.slice (some (H c)) a d) a (P.flatMap kZ))(g:a=P.length)(e:Nat)(j:e<P.length):b.cell? (K c e)=some (.slice (some (H (P[e]))) 4 4):=by
 have :=ir (f:=kZ) (k:=1) (fun _=>rfl) h g e j 0 (by omega);simpa[kZ]using this
def NT (e b:TypeId) (k:Nat) (c:Nat->Array Value) (a:List Nat) (w:World):Prop:=∀i (d:i<a.length),∃n U,tH e b k (c i) n a[i] U w
def aa9 (i:Nat):Array Value:= #[A (-7070),A i]
def aba (i:Nat):Array Value:= #[A (-7070-(i:Int))]
def abb (i:Nat):Array Value:= #[A (-7070-(i:Int)),A 0,A 0]
theorem alR{s t:List Nat}(W:b.heap[a]?=some (.cells #[S,e,F,R] 84 (0,0)))(nC:P.length<2000000000000)(eX:s.length<2000000000000)(j0:t.length<2000000000000)(X:b.ownsRow 0 138 1 e P.length (P.flatMap kZ))(Y:b.ownsRow 0 140 1 F s.length (s.flatMap kZ))(hc:b.ownsRow 0 141 1 R t.length (t.flatMap kZ))(hea:NT 36 65 2 aa9 P b)(heb:NT 57 53 3 abb s b)(fu:NT 3 24 1 aba t b):
  O 36 #[.pointer (some (K a 1))] b fun c w'=>c=.returned (.bool true)/\J b w':=by
 obtain⟨kc,ac,rfl,ao0,xm,rB⟩:=bm X;obtain⟨NU,NV,rfl,ao1,yr,oO⟩:=bm Y;obtain⟨apE,Hp,rfl,ao2,cZ,hcf⟩:=bm hc;have u:b.cell? (K a 1)=some (.slice kc P.length ac):=by simp[World.cell?,W]
 have v:b.cell? (K a 2)=some (.slice NU s.length NV):=by simp[World.cell?,W]
 have w:b.cell? (K a 3)=some (.slice apE t.length Hp):=by simp[World.cell?,W]
 have x:=u;have y:=v;have z:=w;have rQ:=aa rB;have ES:=aa oO;have HCF:=aa hcf;have bY:=aa X;have aK:=aa Y;have dd:=aa hc;have HEA:=aa hea;have HEB:=aa heb;have HEC:=aa fu;clear rB oO hcf X Y hc hea heb fu W;go_enter func36,ntmps36;go_wp2;go_loopw [3] (fun i wr=>∃p:Nat,p<=P.length/\i=A p/\J b wr) (fun i _=>P.length-(intOf i).toNat)
 case atStart=>exact⟨0,apZ _,rfl,apY _ _⟩
 case round=>
  obtain⟨p,ah,rfl,I⟩:=hrel;replace u:=ae I x;replace v:=ae I y;replace w:=ae I z;by_cases h:p<P.length
  ·obtain⟨hA,rfl⟩:=rQ.o p h;have B:=Tl bY.o rfl p h;obtain⟨n,U,C⟩:=HEA.o p h;have k:=aa C;clear C;have jY:(0:Int)<=(p:Int):=aqc _;have eN:(p:Int)<(P.length:Int):=by omega
   generalize mz:P[p]=cn at *;go_wp2;go_loopw [4] (fun i wr=>∃q:Nat,q<=4/\i=A q/\J b wr) (fun i _=>4-(intOf i).toNat)
   case atStart=>exact⟨0,apZ _,rfl,I⟩
   case round=>
    obtain⟨q,ak,rfl,f⟩:=hrel;have d1:=ae f B;replace u:=ae f x;replace v:=ae f y;replace w:=ae f z;by_cases l:q<4
    ·obtain⟨J7,ER,m,vB,D⟩:=k.o.form l;have L:=aa D;clear D;have u1:=k.o.cell l;rw[m]at u1;have E:=aa (k.o.NS q l);have nP:(0:Int)<=(q:Int):=aqc _;have qw:(q:Int)<4:=by omega
     go_wp2;go_loopw [5] (fun i wr=>∃j:Nat,j<=n+q/\i=A j/\J b wr) (fun i _=>n+q-(intOf i).toNat)
     case atStart=>exact⟨0,apZ _,rfl,f⟩
     case round=>
      obtain⟨j,au,rfl,d⟩:=hrel;have d2:=ae d B;have u2:=ae d u1;replace u:=ae d x;replace v:=ae d y;replace w:=ae d z;by_cases r:j<n+q
      ·obtain⟨g,rfl⟩:=L.o j r;have AW:(0:Int)<=(j:Int):=aqc _;have sl:(j:Int)<(n:Int)+(q:Int):=by omega
       have M:=ae d (E.o j r g (by rw[m];rfl) 0 (A (-7070)) rfl);have dx:=ae d (E.o j r g (by rw[m];rfl) 1 (A p) rfl);simp only[aqW]at M;go_wp2;go_roundw
       case rel=>exact⟨j+1,by omega,by go_num,d⟩
       case measure=>simp[intOf];omega
      go_wp2;go_roundw
      case rel=>exact⟨q+1,by omega,by go_num,d⟩
      case measure=>simp[intOf];omega
    go_wp2;go_roundw
    case rel=>exact⟨p+1,by omega,by go_num,f⟩
    case measure=>simp[intOf];omega
  go_wp2;go_loopw [6] (fun i wr=>∃p:Nat,p<=s.length/\i=A p/\J b wr) (fun i _=>s.length-(intOf i).toNat)
  case atStart=>exact⟨0,apZ _,rfl,I⟩
  case round=>
   obtain⟨p,ah,rfl,N⟩:=hrel;replace u:=ae N x;replace v:=ae N y;replace w:=ae N z;by_cases h:p<s.length
   ·obtain⟨hA,rfl⟩:=ES.o p h;have B:=Tl aK.o rfl p h;obtain⟨n,U,C⟩:=HEB.o p h;have k:=aa C;clear C;have jY:(0:Int)<=(p:Int):=aqc _;have eN:(p:Int)<(s.length:Int):=by omega
    generalize mz:s[p]=cn at *;go_wp2;go_loopw [7] (fun i wr=>∃q:Nat,q<=4/\i=A q/\J b wr) (fun i _=>4-(intOf i).toNat)
    case atStart=>exact⟨0,apZ _,rfl,N⟩
    case round=>
     obtain⟨q,ak,rfl,f⟩:=hrel;have d1:=ae f B;replace u:=ae f x;replace v:=ae f y;replace w:=ae f z;by_cases l:q<4
     ·obtain⟨J7,ER,m,vB,D⟩:=k.o.form l;have L:=aa D;clear D;have u1:=k.o.cell l;rw[m]at u1;have E:=aa (k.o.NS q l);have nP:(0:Int)<=(q:Int):=aqc _;have qw:(q:Int)<4:=by omega
      go_wp2;go_loopw [8] (fun i wr=>∃j:Nat,j<=n+q/\i=A j/\J b wr) (fun i _=>n+q-(intOf i).toNat)
      case atStart=>exact⟨0,apZ _,rfl,f⟩
      case round=>
       obtain⟨j,au,rfl,d⟩:=hrel;have d2:=ae d B;have u2:=ae d u1;replace u:=ae d x;replace v:=ae d y;replace w:=ae d z;by_cases r:j<n+q
       ·obtain⟨g,rfl⟩:=L.o j r;have AW:(0:Int)<=(j:Int):=aqc _;have sl:(j:Int)<(n:Int)+(q:Int):=by omega
        have M:=ae d (E.o j r g (by rw[m];rfl) 0 (A (-7070-(p:Int))) rfl);have dx:=ae d (E.o j r g (by rw[m];rfl) 1 (A 0) rfl);have cV:=ae d (E.o j r g (by rw[m];rfl) 2 (A 0) rfl);have BZ:IntKind.i64.wrap (-7070-(p:Int))= -7070-(p:Int):=aqS _ (by omega);simp only[aqW]at M;go_wp2;go_roundw
        case rel=>exact⟨j+1,by omega,by go_num,d.alloc d.size _⟩
        case measure=>simp[intOf];omega
       go_wp2;go_roundw
       case rel=>exact⟨q+1,by omega,by go_num,d⟩
       case measure=>simp[intOf];omega
     go_wp2;go_roundw
     case rel=>exact⟨p+1,by omega,by go_num,f⟩
     case measure=>simp[intOf];omega
   go_wp2;go_loopw [10] (fun i wr=>∃p:Nat,p<=t.length/\i=A p/\J b wr) (fun i _=>t.length-(intOf i).toNat)
   case atStart=>exact⟨0,apZ _,rfl,N⟩
   case round=>
    obtain⟨p,ah,rfl,Q⟩:=hrel;replace u:=ae Q x;replace v:=ae Q y;replace w:=ae Q z;by_cases h:p<t.length
    ·obtain⟨hA,rfl⟩:=HCF.o p h;have B:=Tl dd.o rfl p h;obtain⟨n,U,C⟩:=HEC.o p h;have k:=aa C;clear C;have jY:(0:Int)<=(p:Int):=aqc _;have eN:(p:Int)<(t.length:Int):=by omega
     generalize mz:t[p]=cn at *;go_wp2;go_loopw [11] (fun i wr=>∃q:Nat,q<=4/\i=A q/\J b wr) (fun i _=>4-(intOf i).toNat)
     case atStart=>exact⟨0,apZ _,rfl,Q⟩
     case round=>
      obtain⟨q,ak,rfl,f⟩:=hrel;have d1:=ae f B;replace u:=ae f x;replace v:=ae f y;replace w:=ae f z;by_cases l:q<4
      ·obtain⟨J7,ER,m,vB,D⟩:=k.o.form l;have L:=aa D;clear D;have u1:=k.o.cell l;rw[m]at u1;have E:=aa (k.o.NS q l);have nP:(0:Int)<=(q:Int):=aqc _;have qw:(q:Int)<4:=by omega
       go_wp2;go_loopw [12] (fun i wr=>∃j:Nat,j<=n+q/\i=A j/\J b wr) (fun i _=>n+q-(intOf i).toNat)
       case atStart=>exact⟨0,apZ _,rfl,f⟩
       case round=>
        obtain⟨j,au,rfl,d⟩:=hrel;have d2:=ae d B;have u2:=ae d u1;replace u:=ae d x;replace v:=ae d y;replace w:=ae d z;by_cases r:j<n+q
        ·obtain⟨g,rfl⟩:=L.o j r;have AW:(0:Int)<=(j:Int):=aqc _;have sl:(j:Int)<(n:Int)+(q:Int):=by omega
         have M:=ae d (E.o j r g (by rw[m];rfl) 0 (A (-7070-(p:Int))) rfl);have BZ:IntKind.i64.wrap (-7070-(p:Int))= -7070-(p:Int):=aqS _ (by omega);simp only[aqW,arn]at M;go_wp2;go_roundw
         case rel=>exact⟨j+1,by omega,by go_num,d⟩
         case measure=>simp[intOf];omega
        go_wp2;go_roundw
        case rel=>exact⟨q+1,by omega,by go_num,d⟩
        case measure=>simp[intOf];omega
      go_wp2;go_roundw
      case rel=>exact⟨p+1,by omega,by go_num,f⟩
      case measure=>simp[intOf];omega
    go_wp2;go_ret
    exact⟨rfl,Q⟩
structure Loc (w0 w w1 b4:World):Prop where
 os:b4.os=w1.os
 tape:b4.tape=w1.tape
 output:b4.output=w1.output
 size:w1.heap.size<=b4.heap.size
 other:∀k,k<w1.heap.size->(k<w0.heap.size\/w.heap.size<=k)->b4.heap[k]?=w1.heap[k]?
theorem Loc.grow{a}{d:World}(h:Loc b f y a)(c:J a d):Loc b f y d:=⟨c.os.trans h.os,c.tape.trans h.tape,c.output.trans h.output,ap0 h.size c.size,fun k e g=>(c.block k (ap3 e h.size)).trans (h.other k e g)⟩
theorem Loc.cJ{w:World}(h:J b f):Loc y w b f:=⟨h.os,h.tape,h.output,h.size,fun k a _=>h.block k a⟩
def Duo (c w:World) (d:Nat) (F:Nat->Prop) (x r:Nat) (h:Value) (i:List PId) (N j:Nat) (l:Nat) (args:Array Value) (v:Value) (a:World):Prop:=
 a.heap[d]?=c.heap[d]?/\(∀k,k<w.heap.size->¬F k->a.heap[k]?=w.heap[k]?)/\w.heap.size<=a.heap.size/\
  ∀b,Loc c w a b->O l args b fun e f=>e=.returned v/\(∃g m n P',fW f d g x r h i m n N j P'/\c6 F g c f/\∀k,g k->F k\/(w.heap.size<=k/\k<a.heap.size)\/b.heap.size<=k)/\∀k,c.heap.size<=k->(k<w.heap.size\/a.heap.size<=k)->k<b.heap.size->f.heap[k]?=b.heap[k]?
theorem G3:k7 0:=⟨by decide,by decide⟩
theorem alS(h:kr z=true):z.size<=4:=by
 unfold kr at h;simp at h;omega
theorem Tm{l:List cP}(h:lS w s z=.ok l):z.size<=4:=by
 apply alS;unfold lS at h;split at h
 ·cases h
 split at h
 ·assumption
 cases h
theorem Tn(a:k7 r)(b:z.size<=4):tA (x8 u E L s z r Q j):=⟨a,b⟩
theorem To{o:PId}(a:k7 r):tA (sT u E L s Q r o j):=⟨a,apZ _⟩
theorem abd:tA (tZ r u N):=⟨G3,apZ _⟩
theorem abe:tA (ua r u s Q):=⟨G3,apZ _⟩
theorem alT(c:k7 r)(h:ub w u a E s z r=.ok B):a+B.length<=60/\∀p∈B,tA p:=by
 unfold ub at h;split at h
 ·cases h
 next e d=>
 split at h
 ·cases h;exact⟨by simp only[aqk,aqC];omega,fun p b=>by rw[ap9]at b;rw[b];exact Tn c (Tm d)⟩
 cases h
theorem alU(h:sU w r a u s z=.ok B):a+B.length<=60/\∀p∈B,tA p:=by
 unfold sU at h;split at h
 ·cases h
 next d c=>
 split at h
 ·cases h
 split at h
 ·cases h;exact⟨by simp only[aqk,aqC];omega,fun p b=>by rw[ap9]at b;rw[b];exact Tn G3 (Tm c)⟩
 cases h
theorem alV(h:uc w r a u s z N=.ok B):a+B.length<=60/\∀p∈B,tA p:=by
 unfold uc at h;split at h
 ·cases h
 next d c=>
 split at h
 ·cases h;refine⟨by simp only[aqk,aqC];omega,fun p b=> ?_⟩;rcases aqb.1 b with rfl|b
  ·exact abd
  rw[ap9]at b;rw[b];exact Tn G3 (Tm c)
 cases h
theorem abf{k:Int}(c:k7 r)(h:kD w u a E s L k r=.ok B):a+B.length<=60/\∀p∈B,tA p:=by
 unfold kD at h;split at h
 ·cases h
 split at h
 ·cases h
 split at h
 ·cases h;exact⟨by simp only[aqk,aqC];omega,fun p b=>by rw[ap9]at b;rw[b];exact To c⟩
 cases h
theorem alW(c:k7 r)(h:sV w u a E s L r=.ok B):a+B.length<=60/\∀p∈B,tA p:=by
 unfold sV at h;split at h
 ·cases h
 split at h
 ·cases h
 split at h
 ·cases h;refine⟨by simp only[aqk,aqC];omega,fun p b=> ?_⟩;rcases aqb.1 b with rfl|b
  ·exact abe
  rw[ap9]at b;rw[b];exact To c
 cases h
theorem alX(h:sW w r a u s E N=.ok B):a+B.length<=60/\∀p∈B,tA p:=by
 unfold sW at h;split at h
 ·cases h
 split at h
 ·cases h
 split at h
 ·cases h;refine⟨by simp only[aqk,aqC];omega,fun p b=> ?_⟩;rcases aqb.1 b with rfl|b
  ·exact abd
  rcases aqb.1 b with rfl|b
  ·exact abe
  rw[ap9]at b;rw[b];exact To G3
 cases h
theorem abg{w}(i:fW b a q d k e j n U c h m)(r:J b f)(x:uY y d l c h w)(o:c6 n l f y):(y.heap[a]?=b.heap[a]?/\(∀g,g<f.heap.size->¬q g->y.heap[g]?=f.heap[g]?)/\f.heap.size<=y.heap.size)/\
  ∀s,Loc b f y s->c6 n l b s/\uY s d l c h w/\tG s k U c m:=by
 have u:=r.size;refine⟨⟨(o.other a (ap3 (i.lt _ i.fA) u) i.EN).trans (r.block a (i.lt _ i.fA)),fun g t hF=>o.other g t fun B=>hF (i.CE g B),o.size⟩,fun s p=> ?_⟩;have z:c6 n l b s:=⟨p.os.trans (o.os.trans r.os),p.tape.trans (o.tape.trans r.tape),p.output.trans (o.output.trans r.output),ap0 (ap0 u o.size) p.size,
  fun g t hF=>(p.other g (ap3 t (ap0 u o.size)) (.inl t)).trans ((o.other g (ap3 t u) hF).trans (r.block g t)),fun g hF=>(o.sub g hF).imp id fun v=>ap0 u v⟩
 refine⟨z,x.gw p.size fun g hF=>p.other g (x.lt g hF) ?_,(i.prog z).2.1⟩;rcases o.sub g hF with v|v
 ·exact .inl (i.eV.lt g v)
 exact .inr v
theorem yU{P'}(i:fW b k n d c e j q l a h m)(z:J b f){args:Array Value}(B:CD q a h P' d f y)(hrel:G0 a P')(C:∀p,tG p c l a m->O M args p fun o u=>o=.returned F/\J3 l a P' c p u):Duo b f k n d c e j a h M args F y:=by
 obtain⟨D,v,w⟩:=B;obtain⟨⟨E,I,L⟩,s⟩:=abg i z v w;refine⟨E,I,L,fun p N=> ?_⟩;obtain⟨P,Q,R⟩:=s p N;refine(C p R).mono fun o u x=> ?_
 obtain⟨S,U,t⟩:=x.2;refine⟨x.1,?_,fun g hE _ W=>t.other g W fun hF=>by have :=i.kR.lt g hF;omega⟩;obtain⟨X,s,Y,e9⟩:=i.both P Q t U hrel;refine⟨X,D,S,_,s,Y,fun g hkF=> ?_⟩;rcases e9 g hkF with r|r|r
 ·exact .inl r
 ·exact(w.sub g r).imp (i.CE g) fun ur=>.inl ⟨ur,v.lt g r⟩
 exact(t.sub g r).imp (i.b3 g) .inr
theorem rC(g:fW b d l h a e j n q c k m)(r:J b f){args:Array Value}(v:J f y)(w:∀o l L I p,cL o a l L I c m.S p->O M args o fun i s=>i=.returned F/\J o s):Duo b f d l h a e j c k M args F y:=by
 refine yU g r (.left (g.ae r).eV v) g.rel fun o t=> ?_
 obtain⟨x,z,B,p,C,_⟩:=id t;exact(w o x z B p C).mono fun i s u=>⟨u.1,.left t u.2⟩
theorem ET{cw g iP}(i:fW f W l h d e j U cw c k m)(aZ:J f b){R:Nat}{args:Array Value}(P:a<c)(ai:dL b h n q c k m.M m.s iP)(dz:∀v,n v\/q v->U v){pl:Int->Nat->Except Int (List bH)}{E:Int->Value}{Y:Int->Value}(gd:∀t w x,pl t w=.ok x->w+x.length<=60/\∀p∈x,tA p)(alY:Cj h c k n q m.M m.s iP a (pl (m.s.gt a) (m.M a).length) (fun r=>.returned (E r)) (.returned (Y (m.s.gt a))) b g y)(X:∀C l L I D,cL C d l L I c m.S D->Own c m.S.P m.S.has a ((m.s.ops a).map fun o=>e4 o.op)->O R args C fun g Q=>(∃r,pl (bX ((m.s.ops a).map fun o=>e4 o.op)) (m.S.P a).length=.error r/\g=.returned (E r)/\jb d c l L I D.vl C Q m.S)\/(∃x,pl (bX ((m.s.ops a).map fun o=>e4 o.op)) (m.S.P a).length=.ok x/\g=.returned (Y (bX ((m.s.ops a).map fun o=>e4 o.op)))/\jb d c l L I D.vl C Q (jF m.S a x))):
  (∃r,g=.returned (E r)/\Duo f b W l h d e j c k R args (E r) y)\/(g=.returned (Y (m.s.gt a))/\Duo f b W l h d e j c k R args (Y (m.s.gt a)) y):=by
 have bu:=i.rel.own ai P;have ly:=i.rel.rel.gt a P;have r0:(m.M a).length=(m.S.P a).length:=by rw[<-i.rel.rel.made a P,ap2]
 rw[<-ly,<-r0]at X;rcases alY with⟨r,F,rfl,h2⟩|⟨x,M',s',F,rfl,k8,h2⟩
 ·refine .inl ⟨r,rfl,yU i aZ (P':=m) (.of m.S dz h2) i.rel fun C aH=> ?_⟩;obtain⟨aR,e5,I',D,B,ab,_⟩:=aH;refine(X C aR e5 I' D B bu).mono fun g Q ax=> ?_
  rcases ax with⟨m2,z,rfl,aL⟩|⟨x,z,_⟩
  ·rw[F]at z;cases z;exact⟨rfl,.of m.M m.s ab aL⟩
  rw[F]at z;cases z
 have ah:=gd _ _ _ F;have bw:=i.rel.rel.wrote P x (ai.ok.own a P) k8;refine .inr ⟨rfl,yU i aZ (P':=⟨M',s',jF m.S a x⟩) (.of _ dz h2) ⟨bw,i.rel.mc.wrote (by rw[ap4,<-r0];exact ah.1),fun u cK o af=> ?_,i.rel.aQ.same (l8.gone x k8) rfl rfl⟩ fun C aH=> ?_⟩
 ·have N:e4 o.op∈(jF m.S a x).P u:=by
   rw[<-bw.made u cK];exact ap5.2 ⟨o,af,rfl⟩
  unfold jF at N;simp only at N;have old:∀g,g<c->e4 o.op∈m.S.P g->tA (e4 o.op):=fun g he B=>by
   rw[<-i.rel.rel.made g he]at B;obtain⟨o',hd,e'⟩:=ap5.1 B;rw[<-e'];exact i.rel.nice g he o' hd
  by_cases g:u=a
  ·subst g;rw[bF]at N;rcases ap7.1 N with B|B
   ·exact old u cK B
   exact ah.2 _ B
  rw[b6 _ _ g]at N;exact old u cK N
 obtain⟨aR,e5,I',D,B,ab,_⟩:=aH;refine(X C aR e5 I' D B bu).mono fun g Q ax=> ?_
 rcases ax with⟨m2,z,_⟩|⟨ps2,z,rfl,aL⟩
 ·rw[F]at z;cases z
 rw[F]at z;cases z;exact⟨rfl,.of M' s' ab aL⟩
theorem alZ(p:fW b h l c d e j n q a k m)(y:J b f)(C:Int)(v w g:Int)(P:k7 g)(u:ByteArray)(L:u.size<=maxLen):
  O 23 #[Z c,A C,.agg #[A v,A w],.string u,A g] f fun r z=>∃i,r=.returned (A i)/\Duo b f h l c d e j a k 94 #[Z d,A C,.agg #[A v,A w],.string u,A g] (A i) z:=by
 obtain⟨W,X,iP,B,Q,_⟩:=(p.ae y).eV;by_cases M:0<=C/\C<a
 ·obtain⟨o,rfl⟩:∃o:Nat,C=o:=⟨C.toNat,by omega⟩;have N:o<a:=by omega
  refine(B.ajb N v w g u L).mono fun r z x=> ?_
  rcases ET p y N B Q (pl:=fun t R=>ub (cq (m.s.ops o)) t R o (v,w) u g) (E:=fun i=>A i) (Y:=fun _=>A 0) (fun _ _ _=>alT P) x (fun S _ _ _ _ D U=>akd D U v w g u L) with⟨i,F,I⟩|⟨F,I⟩
  ·exact⟨i,F,I⟩
  exact⟨0,F,I⟩
 exact(aji B.m.jV C M v w g u).mono fun r z x=>⟨2,x.1,rC p y x.2 fun S _ _ _ _ D=>aeK D.ct.room C v w g u M⟩
theorem al0(o:fW b h l c d e j n q a k m)(x:J b f)(C:Int)(u v:Int)(r:ByteArray)(I:r.size<=maxLen):
  O 78 #[Z c,A C,.agg #[A u,A v],.string r] f fun p y=>∃g,p=.returned (A g)/\Duo b f h l c d e j a k 97 #[Z d,A C,.agg #[A u,A v],.string r] (A g) y:=by
 obtain⟨S,U,W,z,N,_⟩:=(o.ae x).eV;by_cases L:0<=C/\C<a
 ·obtain⟨i,rfl⟩:∃i:Nat,C=i:=⟨C.toNat,by omega⟩;have M:i<a:=by omega
  refine(z.ajc M u v r I).mono fun p y w=> ?_
  rcases ET o x M z N (pl:=fun t P=>sU (cq (m.s.ops i)) t P i (u,v) r) (E:=fun g=>A g) (Y:=fun _=>A 0) (fun _ _ _=>alU) w (fun Q _ _ _ _ B R=>akf B R u v r I) with⟨g,D,F⟩|⟨D,F⟩
  ·exact⟨g,D,F⟩
  exact⟨0,D,F⟩
 exact(ajj z.m.jV C L u v r).mono fun p y w=>⟨2,w.1,rC o x w.2 fun Q _ _ _ _ B=>aeM B.ct.room C u v r L⟩
theorem al1(r:fW b h l c d e j n q a k m)(y:J b f)(C:Int)(v w i g:Int)(N:k7 g):
  O 33 #[Z c,A C,.agg #[A v,A w],A i,A g] f fun u z=>∃o,u=.returned (A o)/\Duo b f h l c d e j a k 101 #[Z d,A C,.agg #[A v,A w],A i,A g] (A o) z:=by
 obtain⟨U,W,X,B,P,_⟩:=(r.ae y).eV;by_cases L:0<=C/\C<a
 ·obtain⟨p,rfl⟩:∃p:Nat,C=p:=⟨C.toNat,by omega⟩;have M:p<a:=by omega
  refine(B.ajd M v w i g).mono fun u z x=> ?_
  rcases ET r y M B P (pl:=fun t Q=>kD (cq (m.s.ops p)) t Q p (v,w) i 3 g) (E:=fun o=>A o) (Y:=fun _=>A 0) (fun _ _ _=>abf N) x (fun R _ _ _ _ D S=>aki D S v w i g) with⟨o,F,I⟩|⟨F,I⟩
  ·exact⟨o,F,I⟩
  exact⟨0,F,I⟩
 exact(ajk B.m.jV C L v w i g).mono fun u z x=>⟨2,x.1,rC r y x.2 fun R _ _ _ _ D=>aeP D.ct.room C v w i g L⟩
theorem al2(p:fW b h l c d e j n q a k m)(x:J b f)(C:Int)(u v i:Int):
  O 34 #[Z c,A C,.agg #[A u,A v],A i] f fun r y=>∃g,r=.returned (A g)/\Duo b f h l c d e j a k 102 #[Z d,A C,.agg #[A u,A v],A i] (A g) y:=by
 obtain⟨R,S,U,z,M,_⟩:=(p.ae x).eV;by_cases I:0<=C/\C<a
 ·obtain⟨o,rfl⟩:∃o:Nat,C=o:=⟨C.toNat,by omega⟩;have L:o<a:=by omega
  refine(z.aje L u v i).mono fun r y w=> ?_
  rcases ET p x L z M (pl:=fun t N=>kD (cq (m.s.ops o)) t N o (u,v) i 4 0) (E:=fun g=>A g) (Y:=fun _=>A 0) (fun _ _ _=>abf G3) w (fun P _ _ _ _ B Q=>akj B Q u v i) with⟨g,D,F⟩|⟨D,F⟩
  ·exact⟨g,D,F⟩
  exact⟨0,D,F⟩
 exact(ajl z.m.jV C I u v i).mono fun r y w=>⟨2,w.1,rC p x w.2 fun P _ _ _ _ B=>aeQ B.ct.room C u v i I⟩
theorem al3(o:fW b h l c d e j n q a k m)(y:J b f)(C:Int)(u v:Int)(r:ByteArray)(L:r.size<=maxLen)(w:Bool):
  O 38 #[Z c,A C,.agg #[A u,A v],.string r,.bool w] f fun p z=>∃M N g,p=.returned (.tuple #[.agg #[A M,A N],A g])/\Duo b f h l c d e j a k 95 #[Z d,A C,.agg #[A u,A v],.string r,.bool w] (.tuple #[.agg #[A M,A N],A g]) z:=by
 obtain⟨X,nJ,iP,B,R,_⟩:=(o.ae y).eV;by_cases P:0<=C/\C<a
 ·obtain⟨i,rfl⟩:∃i:Nat,C=i:=⟨C.toNat,by omega⟩;have Q:i<a:=by omega
  refine(B.ajf Q u v r L w).mono fun p z x=> ?_
  rcases ET o y Q B R (pl:=fun t S=>uc (cq (m.s.ops i)) t S i (u,v) r w) (E:=fun g=>.tuple #[.agg #[A 0,A 0],A g]) (Y:=fun t=>.tuple #[.agg #[A (t+1),A i],A 0]) (fun _ _ _=>alV) x (fun U _ _ _ _ D W=>ake D W u v r L w) with⟨g,F,I⟩|⟨F,I⟩
  ·exact⟨0,0,g,F,I⟩
  exact⟨_,_,0,F,I⟩
 exact(ajm B.m.jV C P u v r w).mono fun p z x=>⟨0,0,2,x.1,rC o y x.2 fun U _ _ _ _ D=>aeL D.ct.room C u v r w P⟩
theorem al4(r:fW b h l c d e j n q a k m)(y:J b f)(C:Int)(v w i g:Int)(Q:k7 g):
  O 32 #[Z c,A C,.agg #[A v,A w],A i,A g] f fun u z=>∃L M o,u=.returned (.tuple #[.agg #[A L,A M],A o])/\Duo b f h l c d e j a k 98 #[Z d,A C,.agg #[A v,A w],A i,A g] (.tuple #[.agg #[A L,A M],A o]) z:=by
 obtain⟨X,nJ,iP,B,R,_⟩:=(r.ae y).eV;by_cases N:0<=C/\C<a
 ·obtain⟨p,rfl⟩:∃p:Nat,C=p:=⟨C.toNat,by omega⟩;have P:p<a:=by omega
  refine(B.ajg P v w i g).mono fun u z x=> ?_
  rcases ET r y P B R (pl:=fun t S=>sV (cq (m.s.ops p)) t S p (v,w) i g) (E:=fun o=>.tuple #[.agg #[A 0,A 0],A o]) (Y:=fun t=>.tuple #[.agg #[A (t+1),A p],A 0]) (fun _ _ _=>alW Q) x (fun U _ _ _ _ D W=>akg D W v w i g) with⟨o,F,I⟩|⟨F,I⟩
  ·exact⟨0,0,o,F,I⟩
  exact⟨_,_,0,F,I⟩
 exact(ajn B.m.jV C N v w i g).mono fun u z x=>⟨0,0,2,x.1,rC r y x.2 fun U _ _ _ _ D=>aeN D.ct.room C v w i g N⟩
theorem al5(p:fW b h l c d e j n q a k m)(y:J b f)(C:Int)(u v i:Int)(w:Bool):
  O 99 #[Z c,A C,.agg #[A u,A v],A i,.bool w] f fun r z=>∃L M g,r=.returned (.tuple #[.agg #[A L,A M],A g])/\Duo b f h l c d e j a k 100 #[Z d,A C,.agg #[A u,A v],A i,.bool w] (.tuple #[.agg #[A L,A M],A g]) z:=by
 obtain⟨W,X,iP,B,Q,_⟩:=(p.ae y).eV;by_cases N:0<=C/\C<a
 ·obtain⟨o,rfl⟩:∃o:Nat,C=o:=⟨C.toNat,by omega⟩;have P:o<a:=by omega
  refine(B.ajh P u v i w).mono fun r z x=> ?_
  rcases ET p y P B Q (pl:=fun t R=>sW (cq (m.s.ops o)) t R o (u,v) i w) (E:=fun g=>.tuple #[.agg #[A 0,A 0],A g]) (Y:=fun t=>.tuple #[.agg #[A (t+1),A o],A 0]) (fun _ _ _=>alX) x (fun S _ _ _ _ D U=>akh D U u v i w) with⟨g,F,I⟩|⟨F,I⟩
  ·exact⟨0,0,g,F,I⟩
  exact⟨_,_,0,F,I⟩
 exact(ajo B.m.jV C N u v i w).mono fun r z x=>⟨0,0,2,x.1,rC p y x.2 fun S _ _ _ _ D=>aeO D.ct.room C u v i w N⟩
end
end Go.Proofs.YtnkpogjiiohapaaGreatDoor
