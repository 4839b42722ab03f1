/- Our own text. -/
import Derived.Test.YtnkpogjiiohapaaGreatDoorA27
set_option linter.unusedSimpArgs false
set_option linter.unusedVariables false
set_option maxRecDepth 1000000
set_option maxHeartbeats 8000000
namespace Go.Proofs.YtnkpogjiiohapaaGreatDoor
open Go.RowKit Tryz
section
variable {a b i n:Nat}{c d j:Nat->Prop}{e l m:Value}{f h:World}{k:List PId}
theorem Io{w:World}{g:Nat}{t:TypeId}{f:Nat×Nat}(h:w.heap[g]?=some (.cells #[e,l,m] t f)):w.cell? (H g)=some e/\w.cell? (K g 1)=some l/\w.cell? (K g 2)=some m:=by simp[World.cell?,h]
theorem oI{w:World}{o:Obj}(h:a=w.heap.size):(w.alloc o).heap[a]?=some o:=by rw[h];exact bZ w o
theorem eX{w:World}{o:Obj}(h:a≠w.heap.size):(w.alloc o).heap[a]?=w.heap[a]?:=by
 by_cases b:a<w.heap.size
 .exact is _ _ b
 have c:w.heap[a]?=none:=by simp;omega
 have d:(w.alloc o).heap[a]?=none:=by simp;omega
 rw[c,d]
theorem afg{u:Value}{t:TypeId}(h:f.heap[a]?=some (.cells #[l,m] t)):((f.setCell (H a) u).setCell (K a 1) e).heap[a]?=some (.cells #[u,e] t):=by
 have b:=setRow (i:=1) (u:=e) (setRow (i:=0) (u:=u) h)
 simp_all
structure gS where
 M:Nat->List ay
 s:bx
 S:bP
structure KM (N:Nat) (P:gS):Prop where
 rel:Rel N P.M P.s P.S
 na:ig N P.S
 tK:M6 N P.M
 a6:tR N P.s P.S
def xI (w:World) (x:Nat) (G:Nat->Prop) (N a:Nat) (P:gS):Prop:=∃F I b,ei w x F I N a P.M P.s b/\(∀k,F k\/I k->G k)/\∀k,G k->k<w.heap.size
def wg (w:World) (r:Nat) (G:Nat->Prop) (N:Nat) (P:gS):Prop:=∃F L I a,c3 w r F L I N P.S a/\(∀k,sU F L I k->G k)/\∀k,G k->k<w.heap.size
theorem xI.hA{w x G N sp P}{a:World}(h:xI w x G N sp P)(c:w.heap.size<=a.heap.size)(d:∀k,G k->a.heap[k]?=w.heap[k]?):xI a x G N sp P:=by obtain⟨F,I,e,h,b,f⟩:=h;exact⟨F,I,e,⟨h.m.hA c (λk hF=>d k (b k (.inl hF))) λk hF=>d k (b k (.inr hF)),h.ok,h.md⟩,b,λk hF=>c0 (f k hF) c⟩
theorem xI.lt{w x G sp P}(h:xI w x G a sp P):∀k,G k->k<w.heap.size:=by obtain⟨F,I,c,h,d,b⟩:=h;exact b
theorem wg.ak{w G P}{w':World}(h:wg w a G b P)(e:w.heap.size<=w'.heap.size)(d:∀k,G k->w'.heap[k]?=w.heap[k]?):wg w' a G b P:=by obtain⟨F,L,I,f,h,c,g⟩:=h;exact⟨F,L,I,f,h.hA e (λk hF=>d k (c k (.inl hF))) (λk hF=>d k (c k (.inr (.inl hF)))) λk hF=>d k (c k (.inr (.inr hF))),c,λk hF=>c0 (g k hF) e⟩
theorem wg.lt{w G P}(h:wg w a G b P):∀k,G k->k<w.heap.size:=by obtain⟨F,L,I,d,h,e,c⟩:=h;exact c
def FZ (G:Nat->Prop) (N c:Nat) (P:gS) (x:Nat) (w a:World):Prop:=∃b,xI a x b N c P/\dp G b w a
def N6 (G:Nat->Prop) (N:Nat) (P:gS) (r:Nat) (w a:World):Prop:=∃b,wg a r b N P/\dp G b w a
theorem FZ.ofM{M s}{G:Nat->Prop}(S:bP)(l:∀k,c k\/d k->G k)(ok:ed a M s)(p:Fr a M)(e:yJ b a i c d f h s):FZ G a i ⟨M,s,S⟩ b f h:=by obtain⟨n,o,q,m,j,r⟩:=e;exact⟨λk=>n k\/o k,⟨n,o,q,⟨m,ok,p⟩,λ_ g=>g,λk g=>g.elim (m.lt k) (m.cI k)⟩,j.os,j.tape,j.output,j.size,λk g t=>j.other k g λhF=>t (l k (.inl hF)),λk g=>g.elim (λhF=>(j.sub k hF).imp (λe=>l k (.inl e)) id) λu=>(r.2 k u).imp (λe=>l k (.inr e)) id⟩
theorem FZ.of{j M s}{G:Nat->Prop}(S:bP)(l:∀k,c k\/d k->G k)(e:ri a b i c d f h j M s):FZ G b i ⟨M,s,S⟩ a f h:=by obtain⟨n,o,p,g,_,q,r⟩:=e;exact FZ.ofM S l g.ok g.md ⟨n,o,p,g.m,q,r⟩
theorem N6.of{vl S}{G:Nat->Prop}(M:Nat->List ay)(s:bx)(m:∀k,sU c d j k->G k)(e:j7 a b c d j vl f h S):N6 G b ⟨M,s,S⟩ a f h:=by obtain⟨n,o,p,q,l,i,t,_⟩:=e;exact⟨sU n o p,⟨n,o,p,q,l,λ_ g=>g,λk g=>g.elim (l.cm.lt k) λg=>g.elim (l.lt k) (l.cI k)⟩,i.os,i.tape,i.output,i.size,λk g r=>i.other k g λhF=>r (m k hF),λk g=>(i.sub k g).imp (m k) id⟩
theorem FZ.left{N G P w}{w':World}(h:xI w a G N b P)(c:J w w'):FZ G N b P a w w':=⟨G,h.hA c.size λk d=>c.block k (h.lt k d),dp.cL c⟩
theorem N6.left{N G P w}{w':World}(h:wg w a G N P)(b:J w w'):N6 G N P a w w':=⟨G,h.ak b.size λk c=>b.block k (h.lt k c),dp.cL b⟩
theorem afh(M:Nat->List ay):∀N,(∀e,e<N->(M e).length<=60)->yL M N<=N*60
 |0,_=>b6 _
 |N+1,h=>by
  have a:=afh M N λe b=>h e (by omega)
  have c:=h N (by omega);have d:yL M (N+1)=yL M N+(M N).length:=by rfl
  omega
theorem KM.own {w:World} {x:Nat} {F I:Nat->Prop} {N q:Nat} {P:gS} {r:da} (f:KM N P) (h:ei w x F I N q P.M P.s r) {c:Nat} (d:c<N):Own N P.S.P P.S.ai c ((P.s.ar c).map λo=>fZ o.op):=by
 have E:=h.m.hN;refine⟨d,?_,?_,?_,λp t=> ?_⟩
 .refine((h.ok.copy c d).perm.map _).trans (List.Perm.of_eq ?_);unfold qx;rw[List.map_flatMap];have e:∀l:List Nat,(∀i∈l,i<N)->(l.flatMap λi=>((P.M i).take (P.s.ai c i).toNat).map λo=>fZ o.op)=l.flatMap λi=>(P.S.P i).take (P.S.ai c i):=λl k=>by
   induction l with
   |nil=>rfl
   |cons i l ih=>have n:=k i kH;rw[jI,jI,ih λj u=>k j (jk _ u),<-f.rel.bJ i n,f.rel.ai c d i n,Cd];rfl
  simp_all
 .exact ry.2 ((h.ok.j1 c d).imp λ{a b} v=>by rw[rf,rf];exact nJ ((rU _ _).1 v))
 .have y:=f.rel.ai c d c d;have z:=h.ok.own c d;have B:(P.M c).length=(P.S.P c).length:=by rw[<-f.rel.bJ c d,c2]
  omega
 obtain⟨o,C,rfl⟩:=dF.1 t;obtain⟨e,g,D⟩:=J4.1 ((h.ok.copy c d).perm.mem_iff.1 C);have y:=h.ok.iY e g o (mo D);have z:=afh P.M N λe g=>h.ok.bJ.len e g
 have B:N*60<=4*60:=by omega
 rw[rf];omega
structure gT (w:World) (aQ:Nat) (F:Nat->Prop) (x r:Nat) (bG:Value) (bv:List PId) (cJ cU:Nat->Prop) (N sp:Nat) (P:gS):Prop where
 bb:w.heap[aQ]?=some (.cells #[Z x,Z r,bG] 135)
 bv:hR 0 w bG bv
 fB:xI w x cJ N sp P
 mf:wg w r cU N P
 rel:KM N P
 F0:∀k,cJ k->F k
 cc:∀k,cU k->F k
 gK:F aQ
 N7:∀k,bG.ownBlock=some k->F k
 kD:∀k,cJ k->¬cU k
 Ip:¬cJ aQ
 N8:¬cU aQ
 KN:∀k,bG.ownBlock=some k->¬cJ k
 N9:∀k,bG.ownBlock=some k->¬cU k
 lt:∀k,F k->k<w.heap.size
def lN (w:World) (b:Nat) (F:Nat->Prop) (c:Nat):Prop:=∃x r d a e f N g P,a.length<=c/\gT w b F x r d a e f N g P
theorem gT.hA{w d F x r e f i j N sp P}{b:World}(h:gT w d F x r e f i j N sp P)(c:w.heap.size<=b.heap.size)(a:∀k,F k->b.heap[k]?=w.heap[k]?):gT b d F x r e f i j N sp P:=
 ⟨by rw[a _ h.gK];exact h.bb,cu h.bv λg l=>a g (h.N7 g l),h.fB.hA c λk hF=>a k (h.F0 k hF),h.mf.ak c λk hF=>a k (h.cc k hF),h.rel,h.F0,h.cc,h.gK,h.N7,h.kD,h.Ip,h.N8,h.KN,h.N9,λk hF=>c0 (h.lt k hF) c⟩
theorem gT.ak{w x f P}{w':World}(h:gT w a c x b e f d j i n P)(g:J w w'):gT w' a c x b e f d j i n P:=h.hA g.size λk l=>g.block k (h.lt k l)
theorem gT.prog{w w' F x r f N sp P}(h:gT w a F x r e f c d N sp P)(b:dp c j w w'):w'.heap[a]?=w.heap[a]?/\wg w' r d N P/\hR 0 w' e f:=
 ⟨b.other a (h.lt _ h.gK) h.Ip,h.mf.ak b.size λk hF=>b.other k (h.mf.lt k hF) λl=>h.kD k l hF,cu h.bv λg i=>b.other g (cX h.bv g i).2 (h.KN g i)⟩
theorem gT.both{E F x P y t}(m:gT h a j i n e k E F b x P)(s:dp E c h y)(u:xI y i c b x t)(r:dp F d y f)(I:wg f n d b t)(hrel:KM b t):
  ∃z,gT f a z i n e k c d b x t/\dp j z h f/\∀l,z l->j l\/c l\/d l:=by
 have v:=s.size;have L:=λl p q=>(s.sub l p).elim (λw=>m.kD l w q) λw=>by have :=m.mf.lt l q;omega
 have M:=c0 (m.lt _ m.gK) v;have B:=λl o=>(cX m.bv l o).2
 have C:=λl o p q=>(r.other l (by omega) q).trans (s.other l o p)
 refine⟨λl=>j l\/c l\/d l,⟨?_,cu m.bv λg D=>C g (B g D) (m.KN g D) (m.N9 g D),u.hA r.size λl hF=>r.other l (u.lt l hF) (L l hF),I,hrel,λl o=>.inr (.inl o),λl o=>.inr (.inr o),.inl m.gK,λl o=>.inl (m.N7 l o),?_,?_,?_,?_,?_,?_⟩,?_,λl o=>o⟩
 .rw[C a (m.lt _ m.gK) m.Ip m.N8];exact m.bb
 .intro l p q;rcases r.sub l q with w|w
  .simp_all
  have :=u.lt l p;omega
 .intro p;rcases s.sub a p with q|q
  .exact m.Ip q
  have :=m.lt _ m.gK;omega
 .intro p;rcases r.sub a p with q|q
  .exact m.N8 q
  omega
 .intro l o p;rcases s.sub l p with q|q
  .exact m.KN l o q
  have :=B l o;omega
 .intro l o p;rcases r.sub l p with q|q
  .exact m.N9 l o q
  have :=B l o;omega
 .intro l o;rcases o with o|o|o
  .exact c0 (m.lt l o) (cd v r.size)
  .exact c0 (u.lt l o) r.size
  exact I.lt l o
 refine⟨r.os.trans s.os,r.tape.trans s.tape,r.output.trans s.output,cd v r.size,λl o hF=>C l o (λp=>hF (m.F0 l p)) (λp=>hF (m.cc l p)),λl o=> ?_⟩;rcases o with o|o|o
 .exact .inl o
 .exact(s.sub l o).imp (m.F0 l) id
 exact(r.sub l o).imp (m.cc l) λp=>cd v p
end
section
attribute [local go_sem ↓] Go.wp_at_zero Go.wp_at_succ
variable {a c e f h:Nat}{b d:Value}
theorem arp{w:World}{c u:Value}{t:TypeId}(h:w.heap[a]?=some (.cells #[b,d,c] t)):(w.setCell (K a 2) u).heap[a]?=some (.cells #[b,d,u] t):=by
 have e:=setRow (i:=2) (u:=u) h
 simp_all
theorem gT.arq {w n:World} {F:Nat->Prop} {u told':List PId} {p q:Nat->Prop} {P:gS} (g:gT w a F c e d u p q f h P)
  (l:aR (λk=>k=a\/d.ownBlock=some k) w n) (v:n.heap[a]?=some (.cells #[Z c,Z e,b] 135)) (m:lB w d b) (r:hR 0 n b told'):
  ∃s,gT n a s c e b told' p q f h P/\dp F s w n:=by
 have t:∀(Q:Nat->Prop),(∀k,d.ownBlock=some k->¬Q k)->(∀k,Q k->k<w.heap.size)->∀k,b.ownBlock=some k->¬Q k:=λQ z x k j y=>by
  rcases m with m|m
  .simp_all
  have :=m k j;have :=x k y;omega
 refine⟨λk=>F k\/(w.heap.size<=k/\k<n.heap.size),⟨v,r,g.fB.hA l.size (λk j=>l.other k (g.fB.lt k j) λo=>o.elim (λi=>g.Ip (i▸j)) λi=>g.KN k i j),g.mf.ak l.size (λk j=>l.other k (g.mf.lt k j) λo=>o.elim (λi=>g.N8 (i▸j)) λi=>g.N9 k i j),g.rel,λk j=>.inl (g.F0 k j),λk j=>.inl (g.cc k j),.inl g.gK,λk j=> ?_,g.kD,g.Ip,g.N8,t p g.KN g.fB.lt,t q g.N9 g.mf.lt,?_⟩,⟨l.os,l.tape,l.output,l.size,λk j hF=>l.other k j λo=>hF (o.elim (λi=>i▸g.gK) λi=>g.N7 k i),λk j=>j.imp id (·.1)⟩⟩
 .rcases m with m|m
  .rw[m]at j;exact .inl (g.N7 k j)
  exact .inr ⟨m k j,(cX r k j).2⟩
 intro k j;rcases j with j|j
 .exact c0 (g.lt k j) l.size
 exact j.2
theorem Ye (w:World) (c:Nat) (a b m:Int) (f:m≠0):
  O 96 #[Z c,.agg #[A a,A b],A m,.agg #[A a,A b],A m] w λe d=>e=ad (.bool true)/\J w d:=by
 have heq:=xS;have g:fv a b a b=true:=by simp[fv]
 go_enter func96,ntmps96;go_wp2;go_ret
 exact⟨rfl,(aV w (af a b)).alloc (by simp) (af a b)⟩
theorem Yf {w:World} {F:Nat->Prop} {p:List PId} {B C:Nat->Prop} {D:Nat} {P:gS} (h:gT w a F c e b p B C f D P) (m n:Int) (hl:p.length<3000000000000):
  O 96 #[Z a,.agg #[A m,A n],A 0,.agg #[A m,A n],A 0] w λd E=>d=ad (.bool true)/\∃r U,gT E a r c e U (p++[(m,n)]) B C f D P/\dp F r w E:=by
 have bf:=ag ((aV w (af m n)).alloc (by simp) (af m n)).drew;have heq:=xS;have Fs:fv m n m n=true:=by simp[fv]
 obtain⟨i,l,rfl,jT,gP,aH⟩:=bz h.bv;obtain⟨bw,bm,I⟩:=Io h.bb;have dG:=aU h.bb;have oW:=World.new_ne w (K a 2) I;have ma:w.heap.size+1≠a:=by omega
 have lj:w.heap.size+1+1≠a:=by omega
 have W:=show some a≠(Value.slice i p.length l).ownBlock from λd=>by exact iX h.bv d.symm h.bb (by decide)
 have X:=show hR 0 (((w.alloc (af m n)).alloc (af m n)).alloc (af m n)).drew (.slice i p.length l) p from dI h.bv (by go_grown)
 have Y:=show ∀j u,(nc (m,n))[j]?=some u->(((w.alloc (af m n)).alloc (af m n)).alloc (af m n)).drew.cell? (K (w.heap.size+1+1) j)=some u from by have L:(((w.alloc (af m n)).alloc (af m n)).alloc (af m n)).drew.heap[w.heap.size+1+1]?=some (af m n):=oI (by simp);exact OR (bD L).1 (bD L).2
 have t:=show J w (((w.alloc (af m n)).alloc (af m n)).alloc (af m n)).drew by go_grown
 have M:=bB h.bb t;have c2a:=(Io M).2.2;go_enter func96,ntmps96;go_wp2_with fail
 go_region_law (first
  |(refine AI nc 2 16 65 36 (.agg #[A 0,A 0]) (by rfl) underlying65 rfl (by omega) (λ_=>rfl) (by rfl) (.tmp 17) (.tmp 19) (by rfl) 0 (.slice i p.length l) p (by rfl) X (w.heap.size+1+1) 1 (m,n) (by rfl) Y OQ (by omega) (by unfold maxLen;omega) (b6 _) ?_;intro v4 N v s iu;have q:=(s.block a (by simp;omega) W).trans M;have Q:=(λk x=>(cX h.bv k x).2);have R:=(s.block w.heap.size (by simp;omega) (λd=>by have :=Q _ d.symm;omega)).trans (show(((w.alloc (af m n)).alloc (af m n)).alloc (af m n)).drew.heap[w.heap.size]?=some (af m n) from(eX (by simp;omega)).trans ((eX (by simp)).trans (bZ w _)));have S:=(s.block (w.heap.size+1) (by simp) (λd=>by have :=Q _ d.symm;omega)).trans (show(((w.alloc (af m n)).alloc (af m n)).alloc (af m n)).drew.heap[w.heap.size+1]?=some (af m n) from(eX (by simp)).trans (oI (by simp)));obtain⟨y,z,rfl,xg,yo,yp⟩:=bz v;replace I:=(Io q).2.2;have xX:=cV q 2;have g4:=aU q;have gX:=(bD R).1;have q1:=(bD R).2;have h4:=(bD S).1;have wB:=(bD S).2;have sD:=(by omega);have jb:=(by omega)))
 all_goals(go_wp2;go_ret)
 all_goals(
  have vG:(Value.slice y (p.length+1) z).ownBlock≠some a:=λd=>by exact iX v d q (by decide)
  have Bf:aR (λk=>k=a\/(Value.slice i p.length l).ownBlock=some k) w N:=(aR.cL t).trans (aR.up s λk x=>.inr x);obtain⟨r,h1,h2⟩:=h.arq (told':=p++[(m,n)]) (Bf.trans (aR.it (w:=N) (g:=a) (o:=2) (.slice y (p.length+1) z) (.inl rfl))) (arp q) (iu.mono t.size) (by have :=kd v vG (o:=2) (.slice y (p.length+1) z);unfold hR;rw[dh];omega)
  exact⟨rfl,r,_,h1,h2⟩)
end
section
variable {a c d h k M W:Nat}{b f y:World}{e F R S:Value}{i D:TypeId}{j:List PId}{l n q U:Nat->Prop}{m:gS}{r u E L:Int}{s Q:PId}{v:Array Value}{w:List bA}{z:ByteArray}{B:List bT}{C:Nat->Value}{I:List Value}{N:Bool}{P:List Nat}
def Shape (e:TypeId) (k:Nat) (w:World) (v:Value) (n:Nat):Prop:=∃a,w.ownsRow 0 e k v n a
def r4 (e:TypeId) (w c:World):Prop:=∀(g:Nat) (a:Array Value),w.heap[g]?=some (.cells a e)->∃b,c.heap[g]?=some (.cells b e)/\b.size=a.size
theorem r4.refl(e:TypeId)(w:World):r4 e w w:=λ_ a h=>⟨a,h,rfl⟩
theorem r4.trans{e a b c}(h:r4 e a b)(k:r4 e b c):r4 e a c:=λg d f=>by
 obtain⟨i,j,l⟩:=h g d f;obtain⟨m,n,o⟩:=k g i j
 simp_all
theorem r4.dn{w:World}(h:J w b):r4 i w b:=λg c a=>⟨c,(h.block g (aU a)).trans a,rfl⟩
theorem r4.setCell{e:TypeId}(w:World)(g o:Nat)(u:Value):r4 e w (w.setCell (K g o) u):=λk a b=>by
 by_cases c:k=g
 .subst c;refine⟨a.setIfInBounds o u,?_,by simp⟩;simp[World.setCell,D4,b]
 exact⟨a,(dE c).trans b,rfl⟩
theorem Shape.same{e w w' n}(h:Shape e a w F n)(c:r4 e w w'):Shape e a w' F n:=by
 obtain⟨q,r,d⟩:=h;rcases d with⟨rfl,rfl⟩|⟨g,cap,f,rfl,i,j,k,l,m,s⟩
 .exact⟨[],by simp,.inl ⟨rfl,rfl⟩⟩
 obtain⟨b,o,p⟩:=c g f j;refine⟨b.toList.take (n*a),?_,.inr ⟨g,cap,b,rfl,i,o,k,l,p.trans m,rfl⟩⟩
 simp_all
theorem Shape.lt{k w v n}(h:Shape i k w v n):∀g,v.ownBlock=some g->g<w.heap.size:=λg a=>by obtain⟨b,h⟩:=h;exact(cX h g a).2
structure cA (e:TypeId) (v:Value) (w W:World):Prop where
 t:aR (λk=>v.ownBlock=some k) w W
 s:r4 e w W
theorem cA.refl(e:TypeId)(v:Value)(w:World):cA e v w w:=⟨aR.cL (ca _ w),r4.refl e w⟩
theorem cA.trans{e v a b c}(h:cA e v a b)(k:cA e v b c):cA e v a c:=⟨h.t.trans k.t,h.s.trans k.s⟩
theorem cA.alloc{e v w W}(h:cA e v w W)(o:Obj):cA e v w (W.alloc o):=⟨h.t.Uv o,h.s.trans (r4.dn (aV W o))⟩
theorem cA.drew{e v w W}(h:cA e v w W):cA e v w W.drew:=⟨h.t.aa5,h.s⟩
theorem afi{P:Program}(w:World)(t q e:TypeId)(i:TypeInfo)(z:Value)(size bytes:Nat)(y:P.underlying t=some (.slice e))(B:P.info? e=some i)(I:i.zero=some z)(R:i.size=size)(S:i.bytes=bytes)(hzs:z.cells.size=size)(cw:0<size)(v:Value)(n:Nat)(fp:Shape e size w v n)(a:Addr)(m c:Nat)(hm:0<m)(d:List Value)(r:d.length=m*size)(C:∀j u,d[j]?=some u->w.cell? (a.add j)=some u)(U:∀u∈d,u.oneCell'=true)(Gr:n+m<=maxLen)(L:(n+m)*bytes<=140737488355328):
  ∃g f p,(Builtin.append_ #[t,t] q #[v,.slice (some a) m c]).run P w=.ok (aa g (n+m) f) p/\Shape e size p (aa g (n+m) f) (n+m)/\cA e v w p/\(v.ownBlock=some g\/w.heap.size<=g):=by
 obtain⟨W,D⟩:=fp;obtain⟨v',p,o,X,E,hn⟩:=Tp (P:=P) w 0 t q e i z size bytes y B I R S hzs cw v n W D a m c d r C U Gr L (b6 _);obtain⟨g,f,rfl,_,dG⟩:∃g f,v'=aa g (n+m) f/\0<=g/\g<p.heap.size:=by
  rcases X.2 with⟨_,h0⟩|⟨g,f,l,aO,M,E,_⟩
  .omega
  exact⟨g,f,aO,M,aU E⟩
 have dJ:v.ownBlock=some g\/w.heap.size<=g:=by
  rcases hn with h|h
  .exact .inl h.symm
  exact .inr (h g rfl)
 refine⟨g,f,p,o,⟨_,X⟩,⟨aR.up E λk b=>b,?_⟩,dJ⟩;have agO:n+m<=9223372036854775807:=by assumption
 subst R;subst S;rcases D.2 with⟨rfl,rfl⟩|⟨F,N,l,rfl,O4,Q,Ee,dM,jq,Lj⟩
 .have s:=run_append_nil (P:=P) w t q e i z y B I a m c d r C (by omega) (by omega) (by have M:=L;simp only[sY]at M;omega);rw[s]at o;injection o with Y x;subst x;exact λk l b=>⟨l,(is w.drew _ (aU b)).trans b,rfl⟩
 by_cases zi:n+m<=N
 .have td:n*i.size+d.length<=l.size:=by rw[r,jq,<-uW];exact wn _ zi
  have s:=run_append_room (P:=P) w t q e i y B F n N l Q a m c d r C U zi td;rw[s]at o;injection o with Y x;subst x;intro k gJ b;by_cases aC:k=F
  .subst aC;rw[Q]at b;injection b with b;injection b with b;subst b;refine⟨_,OG w k l _ e (0,0) Q,?_⟩;simp;omega
  exact⟨gJ,(E.block k (aU b) (by simp[Value.ownBlock];exact aC)).trans b,rfl⟩
 have s:=run_append_grow (P:=P) w t q e i z y B I (H F) n N W D.1 (D.cells (g:=F) rfl) a m c d r C (by omega) (by omega) (afR (by omega) L);rw[s]at o;injection o with Y x;subst x;exact λk l b=>⟨l,(is w.drew _ (aU b)).trans b,rfl⟩
theorem KO (size bytes:Nat) (t e:TypeId) (z:Value) (q:(prog.info? e).map (λi=>(i.zero,i.size,i.bytes))=some (some z,size,bytes))
  (r:prog.underlying t=some (.slice e)) (w:z.cells.size=size) (y:0<size)
  {p:Array Oper} {o:Oper} {a:Act} {d:Act->World->Prop} {Q:Exit->Act->World->Prop} {E:Prop}
  (B:o.guard=none) (s x:Operand) (C:o.op=.call {callee:=.builtin .append,args:= #[s,x],argTypes:= #[t,t]}) (v:Value) (n:Nat) (D:a.eval s=v)
  (F:Shape e size b v n) (g m c:Nat) (I:0<m) (L:a.eval x=aa g m c) {cs:Array Value} (M:b.heap[g]?=some (.cells cs e)) (hl:cs.size=m*size)
  (N:∀u∈cs.toList,u.oneCell'=true) (R:(n+m)*bytes<=140737488355328) (S:n+m<=maxLen)
  (h:∀f l k,Shape e size k (aa f (n+m) l) (n+m)->cA e v b k->(v.ownBlock=some f\/b.heap.size<=f)->d (a.put o.dst (aa f (n+m) l)) k):
  if Region.wanted o (yielded p a.tmps)=true then Oper.wp prog o a b d Q else E:=by
 have U:Region.wanted o (yielded p a.tmps)=true:=by simp[Region.wanted,B]
 rw[bn U];obtain⟨i,W,X,Y,eg⟩:=qH q;obtain⟨f,l,k,aP,h2,ax,a8⟩:=afi (P:=prog) b t o.type e i z size bytes r W X Y eg w y v n F (H g) m c I cs.toList (by omega)
  (λj u hu=>by
   have :((H g):Addr).add j=(K g j):=by unfold Addr.add;split <;>simp_all
   rw[this,zb b g j cs e (0,0) M];simpa using hu) N S R
 unfold Oper.wp execOp;simp only[C,resolve,invoke,builtin,mL,xL,oK,KW,ip,uV,D,L,aP];exact h f l k h2 ax a8
def lq (k:Nat) (a:List Value) (w:World) (v:Value) (b:Nat):Prop:=∀j,j<b->∀g,v.ownBlock=some g->∀q x,a[q]?=some x->w.cell? (K g (j*k+q))=some x
theorem lq.zero(k:Nat)(a:List Value)(w:World)(v:Value):lq k a w v 0:=λj b=>absurd b (xK _)
structure Yh (k:Nat) (dY:List Value) (g j:Nat) (w w':World):Prop where
 set:∀q x,dY[q]?=some x->w'.cell? (K g (j*k+q))=some x
 other:∀g' o,(g'≠g\/o<j*k\/j*k+k<=o)->w'.cell? (K g' o)=w.cell? (K g' o)
theorem lq.put{k v j}(h:lq k I b v c)(m:I.length=k)(l:Yh k I a j b f):lq k I f v c:=λi n d o q x e=>by
 have s:q<k:=by rw[<-m];exact(Au.1 e).1
 by_cases p:d=a/\i=j
 .obtain⟨rfl,rfl⟩:=p;exact l.set q x e
 rw[l.other d (i*k+q) ?_]
 .exact h i n d o q x e
 by_cases t:d=a
 .have r:i≠j:=by omega
  rcases YO r with g|g
  .have :=wn k (show i+1<=j from g);rw[uW]at this;omega
  have :=wn k (show j+1<=i from g);rw[uW]at this;omega
 omega
theorem lq.more(h:lq a I b e c)(l:I.length=a)(m:e.ownBlock=some d)(j:Yh a I d c b f):lq a I f e (c+1):=λi p n g q x k=>by
 by_cases o:i=c
 .rw[m]at g;cases g;subst o;exact j.set q x k
 exact h.put l j i (by omega) n g q x k
theorem lq.ak{k w v j}{w':World}(h:lq k I w v j)(c:∀g,v.ownBlock=some g->w'.heap[g]?=w.heap[g]?):lq k I w' v j:=λi d a b q x e=>by have :=h i d a b q x e;rw[wo (c a b)];omega
theorem Shape.cell{w}{g c:Nat}(b:Shape i a w (aa g h c) h){q:Nat}(m:d<h)(n:q<a):∃u,w.cell? (K g (d*a+q))=some u:=by
 obtain⟨o,p,e⟩:=b;rcases e with⟨e,_⟩|⟨r,j,f,e,s,k,t,v,x,y⟩
 .cases e
 injection e with e _ z;injection e with e;injection e with e;subst e;have l:(d+1)*a<=j*a:=wn _ (by omega);rw[uW]at l;have B:d*a+q<f.size:=by omega
 refine⟨f[d*a+q],?_⟩;rw[zb w g _ f i (0,0) k];simp
theorem Shape.Cn{g:Nat}(h:Shape i c b (aa g a d) a)(o:Nat):b.frozen? (K g o)=false:=by obtain⟨f,h⟩:=h;obtain⟨j,e⟩:=b0 h rfl;exact cV e o
theorem Shape.type(h:Shape i c b e d)(f:e.ownBlock=some a):∃g,b.heap[a]?=some (.cells g i):=by obtain⟨j,h⟩:=h;exact b0 h f
def ml (g:Nat):List Value:=[aa g 4 4]
structure Nm (e gF:TypeId) (k:Nat) (dY:Array Value) (w:World) (v:Value) (n cT:Nat) (U:Nat->Value) (W:World):Prop where
 zero:U 0=v
 row:W.heap[cT]?=some (.cells #[U 0,U 1,U 2,U 3] gF)
 z:W.heap[w.heap.size]?=some (.cells dY e)
 s:∀i,i<4->Shape e k W (U i) (n+i)
 b:∀i,i<4->∀g,(U i).ownBlock=some g->v.ownBlock=some g\/w.heap.size<g
 t:aR (λj=>v.ownBlock=some j) w W
 gl:w.heap.size<cT
theorem Nm.cell{e w v W}(b:Nm D i d e w v h c C W)(f:a<4):W.cell? (K c a)=some (C a):=by
 rw[zb W c a _ i (0,0) b.row]
 match a,f with
 |0,_=>rfl
 |1,_=>rfl
 |2,_=>rfl
 |3,_=>rfl
theorem Nm.form{k}(h:Nm i D k v b e c d C f)(n:a<4):∃l m,C a=.slice l (c+a) m/\(∀j,j<c+a->∃g,l=some (H g)):=by
 obtain⟨q,o⟩:=h.s a n;rcases o.2 with⟨p,r⟩|⟨g,t,u,p,_⟩
 .simp_all
 simp_all
theorem Nm.put{k r w v}(e:Nm i D k r w v h d C f)(N:∀a,v.ownBlock=some a->a<w.heap.size)(x:D≠i)(n:c<4)(o:(C c).ownBlock=some a)(p:∀q,q≠a->y.heap[q]?=f.heap[q]?)(B:r4 i f y)(l:y.os=f.os/\y.tape=f.tape/\y.output=f.output/\f.heap.size<=y.heap.size):Nm i D k r w v h d C y:=by
 have E:d≠a:=λg=>by subst g;obtain⟨P,F⟩:=(e.s c n).type o;exact x (cQ e.row F)
 have I:w.heap.size≠a:=λg=>by
  subst g;rcases e.b c n _ o with m|m
  .simp_all
  omega
 refine⟨e.zero,(p d E).trans e.row,(p _ I).trans e.z,λj L=>(e.s j L).same B,e.b,⟨l.1.trans e.t.os,l.2.1.trans e.t.tape,l.2.2.1.trans e.t.output,cd e.t.size l.2.2.2,λq M u=> ?_⟩,e.gl⟩;have :q≠a:=λg=>by
  subst g;rcases e.b c n _ o with m|m
  .exact u m
  omega
 exact(p q this).trans (e.t.other q M u)
structure yW (e gF:TypeId) (k:Nat) (dY:Array Value) (w:World) (v:Value) (n cT:Nat) (U:Nat->Value) (i j:Nat) (W:World):Prop where
 hC:Nm e gF k dY w v n cT U W
 full:∀mH,mH<i->lq k dY.toList W (U mH) (n+mH)
 part:lq k dY.toList W (U i) j
theorem DU{g:Nat}:∀(a:List Value) (o:Nat) (W:World) (q:Nat),q≠g->(W.setCells g o a).heap[q]?=W.heap[q]?
 |[],_,_,_,_=>rfl
 |v::r,o,W,q,h=>(DU r (o+1) (W.setCell (K g o) v) q h).trans (dE h)
theorem afj{e:TypeId}{g:Nat}:∀(a:List Value) (o:Nat) (W:World),r4 e W (W.setCells g o a)
 |[],_,W=>r4.refl e W
 |v::r,o,W=>(r4.setCell W g o v).trans (afj r (o+1) (W.setCell (K g o) v))
theorem afk{g:Nat}:∀(a:List Value) (o:Nat) (W:World),(W.setCells g o a).os=W.os/\(W.setCells g o a).tape=W.tape/\(W.setCells g o a).output=W.output/\W.heap.size<=(W.setCells g o a).heap.size
 |[],_,W=>⟨rfl,rfl,rfl,bW _⟩
 |v::r,o,W=>by
  have h:=afk (g:=g) r (o+1) (W.setCell (K g o) v);have b:(W.setCell (K g o) v).heap.size=W.heap.size:=by simp
  exact⟨h.1,h.2.1,h.2.2.1,cd (Nat.le_of_eq b.symm) h.2.2.2⟩
theorem arr(h:I.length=a){g j:Nat}{W:World}(b:∀q,q<a->∃u,W.cell? (K g (j*a+q))=some u):Yh a I g j W (W.setCells g (j*a) I):=by
 refine⟨λq x c=> ?_,λk o l=> ?_⟩
 .obtain⟨d,e⟩:=Au.1 c;rw[World.cell?_setCells_in g I (j*a) W (λi m=>by obtain⟨u,f⟩:=b i (by omega);simp[f]) q d,e]
 refine World.cell?_setCells_out g I (j*a) W _ λn _=> ?_
 simp_all
theorem yW.next{e l v j W}(f:yW e i c l b v d h C a j W)(u:∀g,v.ownBlock=some g->g<b.heap.size)(w:i≠e)(D:l.size=c)(n:a<4){g:Nat}(o:C a=aa g (d+a) k)(x:j<d+a):
  yW e i c l b v d h C a (j+1) (W.setCells g (j*c) l.toList):=by
 have p:=f.hC.s a n;rw[o]at p;have m:l.toList.length=c:=by omega
 have r:=arr m (g:=g) (j:=j) (W:=W) λq y=>p.cell x y
 have t:(C a).ownBlock=some g:=by rw[o];rfl
 exact⟨f.hC.put u w n t (DU _ _ W) (afj _ _ W) (afk _ _ W),λz B=>(f.full z B).put m r,f.part.more m t r⟩
structure wh (e gF:TypeId) (k:Nat) (dY:Array Value) (n cT:Nat) (U:Nat->Value) (W:World):Prop where
 row:W.heap[cT]?=some (.cells #[U 0,U 1,U 2,U 3] gF)
 s:∀i,i<4->Shape e k W (U i) (n+i)
 Sq:∀i,i<4->lq k dY.toList W (U i) (n+i)
theorem Shape.ak{e k w v n}{w':World}(h:Shape e k w v n)(a:∀g,v.ownBlock=some g->w'.heap[g]?=w.heap[g]?):Shape e k w' v n:=by obtain⟨b,h⟩:=h;exact⟨b,cu h a⟩
theorem wh.ak{e d k f n b U W}{c:World}(h:wh e d k f n b U W)(l:c.heap[b]?=W.heap[b]?)(j:∀i,i<4->∀g,(U i).ownBlock=some g->c.heap[g]?=W.heap[g]?):wh e d k f n b U c:=
 ⟨l.trans h.row,λi a=>(h.s i a).ak (j i a),λi a=>(h.Sq i a).ak (j i a)⟩
theorem yW.drew{e a k c w v n d U i j W}(h:yW e a k c w v n d U i j W):yW e a k c w v n d U i j W.drew:=⟨⟨h.hC.zero,h.hC.row,h.hC.z,h.hC.s,h.hC.b,h.hC.t.aa5,h.hC.gl⟩,h.full,h.part⟩
theorem ars{c:Value}(h:b.heap[a]?=some (.cells #[e,c,F,R] i)):(b.setCell (K a 1) S).heap[a]?=some (.cells #[e,S,F,R] i):=by simp[World.setCell,D4,h]
def DV (e j l:TypeId) (k:Nat) (m:Array Value) (w:World) (d:Nat) (v f:Value) (h:List Nat) (n:Nat) (P:Value->Array Value) (a:World):Prop:=
 ∃b c U,a.heap[d]?=some (.cells (P b) 84)/\a.ownsRow 0 l 1 b (h.length+1) ((h++[c]).flatMap ml)/\aR (λq=>q=d\/v.ownBlock=some q\/f.ownBlock=some q) w a/\lB w f b/\wh e j k m n c U a/\
  w.heap.size<c/\∀i,i<4->∀g,(U i).ownBlock=some g->v.ownBlock=some g\/w.heap.size<g
theorem Yj {m n:Nat} (q:b.heap[M]?=some (.cells #[e,aa d (a+1) W,aa h (a+2) m,aa k (a+3) n] D)) (r:b.heap[f.heap.size]?=some (.cells v i))
  (s:Shape i c b e a) (t:Shape i c b (aa d (a+1) W) (a+1)) (u:Shape i c b (aa h (a+2) m) (a+2)) (w:Shape i c b (aa k (a+3) n) (a+3))
  (z:e.ownBlock=some d\/f.heap.size<d) (B:e.ownBlock=some h\/f.heap.size<h) (C:e.ownBlock=some k\/f.heap.size<k) (x:aR (λj=>e.ownBlock=some j) f b) (y:f.heap.size<M):∃U,Nm i D c v f e a M U b:=by
 refine⟨λl=>if l=0 then e else if l=1 then aa d (a+1) W else if l=2 then aa h (a+2) m else aa k (a+3) n,rfl,q,r,λl o=> ?_,λl o g p=> ?_,x,y⟩
 .match l,o with
  |0,_=>exact s
  |1,_=>exact t
  |2,_=>exact u
  |3,_=>exact w
 match l,o with
 |0,_=>simp_all
 |1,_=>simp[Value.ownBlock]at p;simp_all
 |2,_=>simp[Value.ownBlock]at p;simp_all
 |3,_=>simp[Value.ownBlock]at p;simp_all
theorem art {l:Option Addr} (aG:f.heap[d]?=some (.cells #[F,e,R,S] 84)) (pb:P.length<2000000000000) (hn:a<2000000000000) (aE:f.ownsRow 0 138 1 e P.length (P.flatMap ml)) (hl:Shape 36 2 f (.slice l a c) a):
  O 106 #[.pointer (some (K d 1)),.slice l a c] f λm w'=>m=ad (.tuple #[])/\DV 36 65 138 2 #[A (-7070),A P.length] f d (.slice l a c) e P a (λx=> #[F,x,R,S]) w':=by
 obtain⟨D,ac,rfl,pb,vX,wi⟩:=bz aE;have y1:f.cell? (K d 1)=some (.slice D P.length ac):=by simp[World.cell?,aG]
 have Y:=ag hl;have yT:=ag hl;have iA:=ag aG;have dS:=ag aE;clear aG aE wi;have wj:=ag (show ∀q,f.heap.size<=q->¬((Value.slice l a c).ownBlock=some q) from λq n B=>by have :=hl.lt q B;omega);have E:=ag (bZ f (af (-7070) P.length));clear hl;go_enter func106,ntmps106;go_wp2_with fail
 go_cut [5] (λp wc=>∃r,p=aa r 4 4/\∃U,Nm 36 65 2 #[A (-7070),A P.length] f (.slice l a c) a r U wc)
 case first =>
  go_region_held3 (λW=>W.cell? (V f 0)=some (A (-7070))/\W.cell? (V f 1)=some (A P.length)) (first |exact bD (t:=36) (by(repeat(first |exact I.o|exact Q.o|exact X.o|exact E.o|exact oI (by first |rfl|(simp;done)|(simp;omega))|refine(eX (by first |omega|(simp;done)|(simp;omega))).trans ?_|refine(L.o _ (by first |omega|(simp;done)|(simp;omega)) (by first |omega|(simp;done)|(simp;omega))).trans ?_|refine(M.o _ (by first |omega|(simp;done)|(simp;omega)) (by first |omega|(simp;done)|(simp;omega))).trans ?_|refine(N.o _ (by first |omega|(simp;done)|(simp;omega)) (by first |omega|(simp;done)|(simp;omega))).trans ?_))))
   (first
    |(refine KO 2 16 65 36 (.agg #[A 0,A 0]) (by kernel_rfl) underlying65 rfl (by omega) (by rfl) (.tmp 15) (.tmp 17) (by rfl) (.slice l a c) a (by rfl) (Y.o.same (cA.s (by(repeat(first |exact gh.o|exact l2.o|exact cA.refl _ _ _|refine cA.alloc ?_ _|refine cA.drew ?_)):cA 36 (.slice l a c) f _))) _ 1 1 (by omega) (by rfl) (cs:= #[A (-7070),A P.length]) (by(repeat(first |exact I.o|exact Q.o|exact X.o|exact E.o|exact oI (by first |rfl|(simp;done)|(simp;omega))|refine(eX (by first |omega|(simp;done)|(simp;omega))).trans ?_|refine(L.o _ (by first |omega|(simp;done)|(simp;omega)) (by first |omega|(simp;done)|(simp;omega))).trans ?_|refine(M.o _ (by first |omega|(simp;done)|(simp;omega)) (by first |omega|(simp;done)|(simp;omega))).trans ?_|refine(N.o _ (by first |omega|(simp;done)|(simp;omega)) (by first |omega|(simp;done)|(simp;omega))).trans ?_))) (by rfl) (by simp[Value.oneCell']) (by omega) (by unfold maxLen;omega) ?_;intro ck bm w1 hG ie aA;have hz1:=ie.t.size;(try simp at hz1);have iQ:=ag hG;have l2:=ag (cA.trans (by(repeat(first |exact gh.o|exact l2.o|exact cA.refl _ _ _|refine cA.alloc ?_ _|refine cA.drew ?_)):cA 36 (.slice l a c) f _) ie);have N:=ag (λq n (jb:f.heap.size<=q)=>ie.t.other q n (wj.o q jb));have X:=ag (show w1.heap[f.heap.size]?=some (af (-7070) P.length) from(N.o _ (by first |omega|(simp;done)|(simp;omega)) (bW _)).trans (by(repeat(first |exact I.o|exact Q.o|exact X.o|exact E.o|exact oI (by first |rfl|(simp;done)|(simp;omega))|refine(eX (by first |omega|(simp;done)|(simp;omega))).trans ?_|refine(L.o _ (by first |omega|(simp;done)|(simp;omega)) (by first |omega|(simp;done)|(simp;omega))).trans ?_|refine(M.o _ (by first |omega|(simp;done)|(simp;omega)) (by first |omega|(simp;done)|(simp;omega))).trans ?_|refine(N.o _ (by first |omega|(simp;done)|(simp;omega)) (by first |omega|(simp;done)|(simp;omega))).trans ?_))));have fb:(Value.slice l a c).ownBlock=some ck\/f.heap.size<ck:=(aA.imp id (λB=>by(try simp at B);omega));clear hG ie aA)
    |(refine KO 2 16 65 36 (.agg #[A 0,A 0]) (by kernel_rfl) underlying65 rfl (by omega) (by rfl) (.tmp 19) (.tmp 22) (by rfl) (.slice l a c) a (by rfl) (Y.o.same (cA.s (by(repeat(first |exact gh.o|exact l2.o|exact cA.refl _ _ _|refine cA.alloc ?_ _|refine cA.drew ?_)):cA 36 (.slice l a c) f _))) _ 2 2 (by omega) (by rfl) (cs:= #[A (-7070),A P.length,A (-7070),A P.length]) (by(repeat(first |exact I.o|exact Q.o|exact X.o|exact E.o|exact oI (by first |rfl|(simp;done)|(simp;omega))|refine(eX (by first |omega|(simp;done)|(simp;omega))).trans ?_|refine(L.o _ (by first |omega|(simp;done)|(simp;omega)) (by first |omega|(simp;done)|(simp;omega))).trans ?_|refine(M.o _ (by first |omega|(simp;done)|(simp;omega)) (by first |omega|(simp;done)|(simp;omega))).trans ?_|refine(N.o _ (by first |omega|(simp;done)|(simp;omega)) (by first |omega|(simp;done)|(simp;omega))).trans ?_))) (by rfl) (by simp[Value.oneCell']) (by omega) (by unfold maxLen;omega) ?_;intro a2 bq w2 gx iW bo;have hz2:=iW.t.size;(try simp at hz2);replace iQ:=ag (iQ.o.same ((cA.s (by(repeat(first |exact cA.refl _ _ _|refine cA.alloc ?_ _|refine cA.drew ?_)):cA 36 (.slice l a c) w1 _)).trans iW.s));have xv:=ag gx;have gh:=ag (cA.trans (by(repeat(first |exact gh.o|exact l2.o|exact cA.refl _ _ _|refine cA.alloc ?_ _|refine cA.drew ?_)):cA 36 (.slice l a c) f _) iW);have M:=ag (λq n (jb:f.heap.size<=q)=>iW.t.other q n (wj.o q jb));have Q:=ag (show w2.heap[f.heap.size]?=some (af (-7070) P.length) from(M.o _ (by first |omega|(simp;done)|(simp;omega)) (bW _)).trans (by(repeat(first |exact I.o|exact Q.o|exact X.o|exact E.o|exact oI (by first |rfl|(simp;done)|(simp;omega))|refine(eX (by first |omega|(simp;done)|(simp;omega))).trans ?_|refine(L.o _ (by first |omega|(simp;done)|(simp;omega)) (by first |omega|(simp;done)|(simp;omega))).trans ?_|refine(M.o _ (by first |omega|(simp;done)|(simp;omega)) (by first |omega|(simp;done)|(simp;omega))).trans ?_|refine(N.o _ (by first |omega|(simp;done)|(simp;omega)) (by first |omega|(simp;done)|(simp;omega))).trans ?_))));have kM:(Value.slice l a c).ownBlock=some a2\/f.heap.size<a2:=(bo.imp id (λB=>by(try simp at B);omega));clear gx iW bo)
    |(refine KO 2 16 65 36 (.agg #[A 0,A 0]) (by kernel_rfl) underlying65 rfl (by omega) (by rfl) (.tmp 24) (.tmp 28) (by rfl) (.slice l a c) a (by rfl) (Y.o.same (cA.s (by(repeat(first |exact gh.o|exact l2.o|exact cA.refl _ _ _|refine cA.alloc ?_ _|refine cA.drew ?_)):cA 36 (.slice l a c) f _))) _ 3 3 (by omega) (by rfl) (cs:= #[A (-7070),A P.length,A (-7070),A P.length,A (-7070),A P.length]) (by(repeat(first |exact I.o|exact Q.o|exact X.o|exact E.o|exact oI (by first |rfl|(simp;done)|(simp;omega))|refine(eX (by first |omega|(simp;done)|(simp;omega))).trans ?_|refine(L.o _ (by first |omega|(simp;done)|(simp;omega)) (by first |omega|(simp;done)|(simp;omega))).trans ?_|refine(M.o _ (by first |omega|(simp;done)|(simp;omega)) (by first |omega|(simp;done)|(simp;omega))).trans ?_|refine(N.o _ (by first |omega|(simp;done)|(simp;omega)) (by first |omega|(simp;done)|(simp;omega))).trans ?_))) (by rfl) (by simp[Value.oneCell']) (by omega) (by unfold maxLen;omega) ?_;intro a3 ce w3 pA h6 bu;have ox:=h6.t.size;(try simp at ox);replace iQ:=ag (iQ.o.same ((cA.s (by(repeat(first |exact cA.refl _ _ _|refine cA.alloc ?_ _|refine cA.drew ?_)):cA 36 (.slice l a c) w2 _)).trans h6.s));replace xv:=ag (xv.o.same ((cA.s (by(repeat(first |exact cA.refl _ _ _|refine cA.alloc ?_ _|refine cA.drew ?_)):cA 36 (.slice l a c) w2 _)).trans h6.s));have gE:=ag pA;have iZ:=ag (cA.trans (by(repeat(first |exact gh.o|exact l2.o|exact cA.refl _ _ _|refine cA.alloc ?_ _|refine cA.drew ?_)):cA 36 (.slice l a c) f _) h6);have L:=ag (λq n (jb:f.heap.size<=q)=>h6.t.other q n (wj.o q jb));have I:=ag (show w3.heap[f.heap.size]?=some (af (-7070) P.length) from(L.o _ (by first |omega|(simp;done)|(simp;omega)) (bW _)).trans (by(repeat(first |exact I.o|exact Q.o|exact X.o|exact E.o|exact oI (by first |rfl|(simp;done)|(simp;omega))|refine(eX (by first |omega|(simp;done)|(simp;omega))).trans ?_|refine(L.o _ (by first |omega|(simp;done)|(simp;omega)) (by first |omega|(simp;done)|(simp;omega))).trans ?_|refine(M.o _ (by first |omega|(simp;done)|(simp;omega)) (by first |omega|(simp;done)|(simp;omega))).trans ?_|refine(N.o _ (by first |omega|(simp;done)|(simp;omega)) (by first |omega|(simp;done)|(simp;omega))).trans ?_))));have jC:(Value.slice l a c).ownBlock=some a3\/f.heap.size<a3:=(bu.imp id (λB=>by(try simp at B);omega));clear pA h6 bu))
  all_goals(go_wp2_with fail;go_meet)
  all_goals exact⟨_,rfl,Yj (bZ w3 _) ((eX (by omega)).trans I.o) (Y.o.same (iZ.o.alloc _).s) (iQ.o.same ((cA.refl 36 (.slice l a c) w3).alloc _).s) (xv.o.same ((cA.refl 36 (.slice l a c) w3).alloc _).s) (gE.o.same ((cA.refl 36 (.slice l a c) w3).alloc _).s) fb kM jC (iZ.o.alloc _).t (by omega)⟩
 case rest=>
  obtain⟨r,rfl,U,yn⟩:=hcut;have F1:=ag Y.o.lt;clear E wj Y;go_wp2;go_loopw [6] (λi wr=>∃k:Nat,k<=4/\i=A k/\yW 36 65 2 #[A (-7070),A P.length] f (.slice l a c) a r U k 0 wr) (λi _=>4-(intOf i).toNat)
  case atStart=>exact⟨0,by omega,rfl,yn,λmH h=>absurd h (xK _),lq.zero _ _ _ _⟩
  case round=>
   obtain⟨k,hk,rfl,pc⟩:=hrel;obtain⟨v,zM⟩:∃v,v=wr:=⟨_,rfl⟩;subst zM;by_cases aL:k<4
   .obtain⟨Oa,Is,hu,kf⟩:=pc.hC.form aL;have ul:=ag kf;clear kf;have Ob:=ag pc;clear pc yn;have jY:(0:Int)<=(k:Int):=kG _;have tA:(k:Int)<4:=by omega
    go_wp2;go_loopw [7] (λi iJ=>∃j:Nat,j<=a+k/\i=A j/\yW 36 65 2 #[A (-7070),A P.length] f (.slice l a c) a r U k j iJ) (λi _=>a+k-(intOf i).toNat)
    case atStart=>exact⟨0,b6 _,rfl,Ob.o⟩
    case round=>
     obtain⟨j,aB,rfl,n⟩:=hrel;have fm:=n.hC.cell aL;rw[hu]at fm;by_cases iV:j<a+k
     .obtain⟨g,rfl⟩:=ul.o j iV;have fp:=n.hC.s k aL;rw[hu]at fp;obtain⟨u0,t0⟩:=fp.cell (q:=0) iV (by omega);obtain⟨u1,t1⟩:=fp.cell (q:=1) iV (by omega);have avC:=fp.Cn;obtain⟨z0,z1⟩:=bD n.hC.z;have DT:f.heap.size≠g:=λw=>by
       rcases n.hC.b k aL g (by rw[hu];rfl) with h1|h1
       .have :=F1.o _ h1;omega
       omega
      have j9:=ag n;clear n;simp only[r9]at t0;have Ej:(0:Int)<=(j:Int):=kG _;have uG:(j:Int)<((a+k:Nat):Int):=by omega
      have n1:r≠g:=λw=>by subst w;obtain⟨cur,C⟩:=fp.type rfl;exact absurd (cQ j9.o.hC.row C) (by decide)
      clear fp;go_wp2_with fail
      go_region_held3 (λW=>W.cell? (K r k)=some (aa g (a+k) Is)/\W.cell? (V f 0)=some (A (-7070))/\W.cell? (V f 1)=some (A P.length)) (first |exact⟨fm,z0,z1⟩|exact⟨(wo (DU [A (-7070),A P.length] (j*2) wr r n1)).trans fm,(wo (DU [A (-7070),A P.length] (j*2) wr f.heap.size DT)).trans z0,(wo (DU [A (-7070),A P.length] (j*2) wr f.heap.size DT)).trans z1⟩) (fail)
      all_goals go_wp2
      all_goals go_roundw
      case rel=>exact⟨j+1,by omega,by go_num,(j9.o.next F1.o (by decide) rfl aL hu iV).drew⟩
      case measure=>simp[intOf];omega
     have tx:j=a+k:=by omega
     subst tx;go_wp2;go_roundw
     case rel=>
      refine⟨k+1,by omega,by go_num,n.hC,λmH ff=> ?_,lq.zero _ _ _ _⟩;by_cases zG:mH=k
      .subst zG;exact n.part
      exact n.full mH (by omega)
     case measure=>simp[intOf];omega
   have tA:k=4:=by omega
   subst tA;have y:=ag pc.hC;have qz:=ag (show ∀i,i<4->lq 2 #[A (-7070),A P.length].toList v (U i) (a+i) from pc.full);clear pc;have AG:¬((Value.slice l a c).ownBlock=some d):=λB=>by obtain⟨cur,C⟩:=yT.o.type B;exact absurd (cQ C iA.o) (by decide)
   have eD:=ag ((y.o.t.other d (aU iA.o) AG).trans iA.o);have Ik:∀q,(Value.slice D P.length ac).ownBlock=some q->¬((Value.slice l a c).ownBlock=some q):=λq h1 h2=>by obtain⟨cur,C⟩:=b0 dS.o h1;obtain⟨Oc,gP⟩:=yT.o.type h2;exact absurd (cQ C gP) (by decide)
   have jf:=ag (cu dS.o (w':=v) λq n=>y.o.t.other q (cX dS.o q n).2 (Ik q n));have avD:v.cell? (K d 1)=some (.slice D P.length ac):=by simp[World.cell?,eD.o]
   have dG:=aU eD.o;have li:=ag (show(v.alloc (.cells #[aa r 4 4] 138)).ownsRow 0 138 1 (.slice D P.length ac) P.length (P.flatMap ml) from dI jf.o (by go_grown));have th:=ag (show ∀j u,(ml r)[j]?=some u->(v.alloc (.cells #[aa r 4 4] 138)).cell? (V v j)=some u from one_cell (by simp[go_sem]));have r2:=ag (show some d≠(Value.slice D P.length ac).ownBlock from λw=>by exact iX jf.o w.symm eD.o (by decide))
   go_wp2_with (first
    |(at_builtin;refine CV ml 1 24 78 138 (.slice none 0 0) (by kernel_rfl) underlying78 rfl (by omega) (λ_=>rfl) rfl (.tmp 57) (.tmp 59) rfl 0 (.slice D P.length ac) P rfl li.o v.heap.size 1 r rfl th.o (by simp[ml,Value.oneCell']) (by omega) (by unfold maxLen;omega) (b6 _) ?_;intro v4 w4 hM eF iu;have fU:=ag hM;have mE:=ag eF;have ny:=ag iu;have hr:=ag ((eF.block d (by simp;omega) r2.o).trans ((eX (by omega)).trans eD.o));clear hM eF iu;obtain⟨a4,lo,rfl,xg,yo,yp⟩:=bz fU.o;clear xg yo yp;have bq:w4.cell? (K d 1)=some (.slice D P.length ac):=(by simp[World.cell?,hr.o]);have xX:=cV hr.o 1))
   have vG:(Value.slice a4 (P.length+1) lo).ownBlock≠some d:=λw=>by exact iX fU.o w hr.o (by decide)
   have k3:∀(q:Nat) (cur:Array Value) (t:TypeId),v.heap[q]?=some (.cells cur t)->t≠138->t≠84->(w4.setCell (K d 1) (.slice a4 (P.length+1) lo)).heap[q]?=v.heap[q]?:=λq cur t n h1 h2=>by
    have Od:q≠d:=λw=>by subst w;exact h2 (cQ n eD.o)
    have HN:some q≠(Value.slice D P.length ac).ownBlock:=λw=>by obtain⟨Oc,C⟩:=b0 jf.o w.symm;exact h1 (cQ n C)
    have Df:=aU n;exact(dE Od).trans ((mE.o.block q (by simp;omega) HN).trans (eX (by omega)))
   go_end0
   refine⟨rfl,.slice a4 (P.length+1) lo,r,U,ars hr.o,kd fU.o vG _,?_,?_,?_,y.o.gl,y.o.b⟩
   .exact(y.o.t.mono λq n=>.inr (.inl n)).trans ((aR.cL (aV v _)).trans ((aR.up mE.o λq n=>.inr (.inr n)).trans (aR.it _ (.inl rfl))))
   .exact ny.o.mono (cd y.o.t.size (by simp))
   refine wh.ak ⟨y.o.row,y.o.s,qz.o⟩ (k3 r _ 65 y.o.row (by decide) (by decide)) λi hi g aq=> ?_
   obtain⟨cur,C⟩:=(y.o.s i hi).type aq;exact k3 g _ 36 C (by decide) (by decide)
theorem wh.cell{W}(b:wh D i d v h c C W)(e:a<4):W.cell? (K c a)=some (C a):=by
 rw[zb W c a _ i (0,0) b.row]
 match a,e with
 |0,_=>rfl
 |1,_=>rfl
 |2,_=>rfl
 |3,_=>rfl
theorem wh.form{k}(h:wh i D k v c d C b)(m:a<4):∃e f,C a=.slice e (c+a) f/\c+a<=9223372036854775807/\(∀j,j<c+a->∃g,e=some (H g)):=by
 obtain⟨r,n⟩:=h.s a m;rcases n.2 with⟨l,o⟩|⟨g,p,t,l,_,_,o,q,_⟩
 .simp_all
 unfold maxLen at q;exact⟨_,p,l,by omega,λj _=>⟨g,rfl⟩⟩
theorem Yk(h:b.ownsRow 0 i 1 (aa c a d) a (P.flatMap ml))(g:a=P.length)(e:Nat)(j:e<P.length):b.cell? (K c e)=some (aa (P[e]) 4 4):=by have :=jl (f:=ml) (k:=1) (λ_=>rfl) h g e j 0 (by omega);simpa[ml]using this
def Sr (e b:TypeId) (k:Nat) (c:Nat->Array Value) (a:List Nat) (w:World):Prop:=∀i (d:i<a.length),∃n U,wh e b k (c i) n a[i] U w
def afl (i:Nat):Array Value:= #[A (-7070),A i]
def afm (i:Nat):Array Value:= #[A (-7070-(i:Int))]
def afn (i:Nat):Array Value:= #[A (-7070-(i:Int)),A 0,A 0]
theorem aru {s t:List Nat} (W:b.heap[a]?=some (.cells #[S,e,F,R] 84)) (pb:P.length<2000000000000) (gC:s.length<2000000000000) (kL:t.length<2000000000000) (X:b.ownsRow 0 138 1 e P.length (P.flatMap ml)) (Y:b.ownsRow 0 140 1 F s.length (s.flatMap ml)) (hc:b.ownsRow 0 141 1 R t.length (t.flatMap ml))
  (hea:Sr 36 65 2 afl P b) (heb:Sr 57 53 3 afn s b) (gL:Sr 3 24 1 afm t b):
  O 36 #[.pointer (some (K a 1))] b λc w'=>c=ad (.bool true)/\J b w':=by
 obtain⟨lu,ac,rfl,avf,vX,wi⟩:=bz X;obtain⟨Ss,St,rfl,aoi,Bn,sl⟩:=bz Y;obtain⟨In,Ln,rfl,avg,dM,hcf⟩:=bz hc;have u:b.cell? (K a 1)=some (.slice lu P.length ac):=by simp[World.cell?,W]
 have v:b.cell? (K a 2)=some (.slice Ss s.length St):=by simp[World.cell?,W]
 have w:b.cell? (K a 3)=some (.slice In t.length Ln):=by simp[World.cell?,W]
 have x:=u;have y:=v;have z:=w;have TQ:=ag wi;have WU:=ag sl;have HCF:=ag hcf;have dS:=ag X;have bf:=ag Y;have fs:=ag hc;have HEA:=ag hea;have HEB:=ag heb;have HEC:=ag gL;clear wi sl hcf X Y hc hea heb gL W;go_enter func36,ntmps36;go_wp2;go_loopw [3] (λi wr=>∃p:Nat,p<=P.length/\i=A p/\J b wr) (λi _=>P.length-(intOf i).toNat)
 case atStart=>exact⟨0,b6 _,rfl,ca _ _⟩
 case round=>
  obtain⟨p,au,rfl,I⟩:=hrel;replace u:=ak I x;replace v:=ak I y;replace w:=ak I z;by_cases h:p<P.length
  .obtain⟨iF,rfl⟩:=TQ.o p h;have B:=Yk dS.o rfl p h;obtain⟨n,U,C⟩:=HEA.o p h;have k:=ag C;clear C;have lh:(0:Int)<=(p:Int):=kG _;have fH:(p:Int)<(P.length:Int):=by omega
   generalize n1:P[p]=cT at *;go_wp2;go_loopw [4] (λi wr=>∃q:Nat,q<=4/\i=A q/\J b wr) (λi _=>4-(intOf i).toNat)
   case atStart=>exact⟨0,b6 _,rfl,I⟩
   case round=>
    obtain⟨q,aw,rfl,f⟩:=hrel;have d1:=ak f B;replace u:=ak f x;replace v:=ak f y;replace w:=ak f z;by_cases l:q<4
    .obtain⟨Oa,Is,m,yn,D⟩:=k.o.form l;have L:=ag D;clear D;have u1:=k.o.cell l;rw[m]at u1;have E:=ag (k.o.Sq q l);have qb:(0:Int)<=(q:Int):=kG _;have sD:(q:Int)<4:=by omega
     go_wp2;go_loopw [5] (λi wr=>∃j:Nat,j<=n+q/\i=A j/\J b wr) (λi _=>n+q-(intOf i).toNat)
     case atStart=>exact⟨0,b6 _,rfl,f⟩
     case round=>
      obtain⟨j,aB,rfl,d⟩:=hrel;have d2:=ak d B;have u2:=ak d u1;replace u:=ak d x;replace v:=ak d y;replace w:=ak d z;by_cases r:j<n+q
      .obtain⟨g,rfl⟩:=L.o j r;have Ej:(0:Int)<=(j:Int):=kG _;have uG:(j:Int)<(n:Int)+(q:Int):=by omega
       have M:=ak d (E.o j r g (by rw[m];rfl) 0 (A (-7070)) rfl);have dN:=ak d (E.o j r g (by rw[m];rfl) 1 (A p) rfl);simp only[r9]at M;go_wp2;go_roundw
       case rel=>exact⟨j+1,by omega,by go_num,d⟩
       case measure=>simp[intOf];omega
      go_wp2;go_roundw
      case rel=>exact⟨q+1,by omega,by go_num,d⟩
      case measure=>simp[intOf];omega
    go_wp2;go_roundw
    case rel=>exact⟨p+1,by omega,by go_num,f⟩
    case measure=>simp[intOf];omega
  go_wp2;go_loopw [6] (λi wr=>∃p:Nat,p<=s.length/\i=A p/\J b wr) (λi _=>s.length-(intOf i).toNat)
  case atStart=>exact⟨0,b6 _,rfl,I⟩
  case round=>
   obtain⟨p,au,rfl,N⟩:=hrel;replace u:=ak N x;replace v:=ak N y;replace w:=ak N z;by_cases h:p<s.length
   .obtain⟨iF,rfl⟩:=WU.o p h;have B:=Yk bf.o rfl p h;obtain⟨n,U,C⟩:=HEB.o p h;have k:=ag C;clear C;have lh:(0:Int)<=(p:Int):=kG _;have fH:(p:Int)<(s.length:Int):=by omega
    generalize n1:s[p]=cT at *;go_wp2;go_loopw [7] (λi wr=>∃q:Nat,q<=4/\i=A q/\J b wr) (λi _=>4-(intOf i).toNat)
    case atStart=>exact⟨0,b6 _,rfl,N⟩
    case round=>
     obtain⟨q,aw,rfl,f⟩:=hrel;have d1:=ak f B;replace u:=ak f x;replace v:=ak f y;replace w:=ak f z;by_cases l:q<4
     .obtain⟨Oa,Is,m,yn,D⟩:=k.o.form l;have L:=ag D;clear D;have u1:=k.o.cell l;rw[m]at u1;have E:=ag (k.o.Sq q l);have qb:(0:Int)<=(q:Int):=kG _;have sD:(q:Int)<4:=by omega
      go_wp2;go_loopw [8] (λi wr=>∃j:Nat,j<=n+q/\i=A j/\J b wr) (λi _=>n+q-(intOf i).toNat)
      case atStart=>exact⟨0,b6 _,rfl,f⟩
      case round=>
       obtain⟨j,aB,rfl,d⟩:=hrel;have d2:=ak d B;have u2:=ak d u1;replace u:=ak d x;replace v:=ak d y;replace w:=ak d z;by_cases r:j<n+q
       .obtain⟨g,rfl⟩:=L.o j r;have Ej:(0:Int)<=(j:Int):=kG _;have uG:(j:Int)<(n:Int)+(q:Int):=by omega
        have M:=ak d (E.o j r g (by rw[m];rfl) 0 (A (-7070-(p:Int))) rfl);have dN:=ak d (E.o j r g (by rw[m];rfl) 1 (A 0) rfl);have dm:=ak d (E.o j r g (by rw[m];rfl) 2 (A 0) rfl);have Fi:IntKind.i64.wrap (-7070-(p:Int))= -7070-(p:Int):=mN _ (by omega);simp only[r9]at M;go_wp2;go_roundw
        case rel=>exact⟨j+1,by omega,by go_num,d.alloc d.size _⟩
        case measure=>simp[intOf];omega
       go_wp2;go_roundw
       case rel=>exact⟨q+1,by omega,by go_num,d⟩
       case measure=>simp[intOf];omega
     go_wp2;go_roundw
     case rel=>exact⟨p+1,by omega,by go_num,f⟩
     case measure=>simp[intOf];omega
   go_wp2;go_loopw [10] (λi wr=>∃p:Nat,p<=t.length/\i=A p/\J b wr) (λi _=>t.length-(intOf i).toNat)
   case atStart=>exact⟨0,b6 _,rfl,N⟩
   case round=>
    obtain⟨p,au,rfl,Q⟩:=hrel;replace u:=ak Q x;replace v:=ak Q y;replace w:=ak Q z;by_cases h:p<t.length
    .obtain⟨iF,rfl⟩:=HCF.o p h;have B:=Yk fs.o rfl p h;obtain⟨n,U,C⟩:=HEC.o p h;have k:=ag C;clear C;have lh:(0:Int)<=(p:Int):=kG _;have fH:(p:Int)<(t.length:Int):=by omega
     generalize n1:t[p]=cT at *;go_wp2;go_loopw [11] (λi wr=>∃q:Nat,q<=4/\i=A q/\J b wr) (λi _=>4-(intOf i).toNat)
     case atStart=>exact⟨0,b6 _,rfl,Q⟩
     case round=>
      obtain⟨q,aw,rfl,f⟩:=hrel;have d1:=ak f B;replace u:=ak f x;replace v:=ak f y;replace w:=ak f z;by_cases l:q<4
      .obtain⟨Oa,Is,m,yn,D⟩:=k.o.form l;have L:=ag D;clear D;have u1:=k.o.cell l;rw[m]at u1;have E:=ag (k.o.Sq q l);have qb:(0:Int)<=(q:Int):=kG _;have sD:(q:Int)<4:=by omega
       go_wp2;go_loopw [12] (λi wr=>∃j:Nat,j<=n+q/\i=A j/\J b wr) (λi _=>n+q-(intOf i).toNat)
       case atStart=>exact⟨0,b6 _,rfl,f⟩
       case round=>
        obtain⟨j,aB,rfl,d⟩:=hrel;have d2:=ak d B;have u2:=ak d u1;replace u:=ak d x;replace v:=ak d y;replace w:=ak d z;by_cases r:j<n+q
        .obtain⟨g,rfl⟩:=L.o j r;have Ej:(0:Int)<=(j:Int):=kG _;have uG:(j:Int)<(n:Int)+(q:Int):=by omega
         have M:=ak d (E.o j r g (by rw[m];rfl) 0 (A (-7070-(p:Int))) rfl);have Fi:IntKind.i64.wrap (-7070-(p:Int))= -7070-(p:Int):=mN _ (by omega);simp only[r9,xO]at M;go_wp2;go_roundw
         case rel=>exact⟨j+1,by omega,by go_num,d⟩
         case measure=>simp[intOf];omega
        go_wp2;go_roundw
        case rel=>exact⟨q+1,by omega,by go_num,d⟩
        case measure=>simp[intOf];omega
      go_wp2;go_roundw
      case rel=>exact⟨p+1,by omega,by go_num,f⟩
      case measure=>simp[intOf];omega
    go_wp2;go_ret
    exact⟨rfl,Q⟩
structure Loc (w0 w w1 b5:World):Prop where
 os:b5.os=w1.os
 tape:b5.tape=w1.tape
 output:b5.output=w1.output
 size:w1.heap.size<=b5.heap.size
 other:∀k,k<w1.heap.size->(k<w0.heap.size\/w.heap.size<=k)->b5.heap[k]?=w1.heap[k]?
theorem Loc.grow{a}{d:World}(h:Loc b f y a)(c:J a d):Loc b f y d:=⟨c.os.trans h.os,c.tape.trans h.tape,c.output.trans h.output,cd h.size c.size,λk e g=>(c.block k (c0 e h.size)).trans (h.other k e g)⟩
theorem Loc.cL{w:World}(h:J b f):Loc y w b f:=⟨h.os,h.tape,h.output,h.size,λk a _=>h.block k a⟩
def Duo (c w:World) (d:Nat) (F:Nat->Prop) (x r:Nat) (h:Value) (i:List PId) (N j:Nat) (l:Nat) (args:Array Value) (v:Value) (a:World):Prop:=
 a.heap[d]?=c.heap[d]?/\(∀k,k<w.heap.size->¬F k->a.heap[k]?=w.heap[k]?)/\w.heap.size<=a.heap.size/\
  ∀b,Loc c w a b->O l args b λe f=>e=ad v/\(∃g m n P',gT f d g x r h i m n N j P'/\dp F g c f/\∀k,g k->F k\/(w.heap.size<=k/\k<a.heap.size)\/b.heap.size<=k)/\∀k,c.heap.size<=k->(k<w.heap.size\/a.heap.size<=k)->k<b.heap.size->f.heap[k]?=b.heap[k]?
theorem KP:mv 0:=⟨by decide,by decide⟩
theorem arv(h:lP z=true):z.size<=4:=by
 unfold lP at h
 simp_all
theorem Yl{l:List dr}(h:nh w s z=.ok l):z.size<=4:=by
 apply arv;unfold nh at h;split at h
 .cases h
 split at h
 .omega
 cases h
theorem Ym(a:mv r)(b:z.size<=4):vR (AW u E L s z r Q j):=⟨a,b⟩
theorem Yn{o:PId}(a:mv r):vR (vp u E L s Q r o j):=⟨a,b6 _⟩
theorem afo:vR (wN r u N):=⟨KP,b6 _⟩
theorem afp:vR (wO r u s Q):=⟨KP,b6 _⟩
theorem arw(c:mv r)(h:wP w u a E s z r=.ok B):a+B.length<=60/\∀p∈B,vR p:=by
 unfold wP at h;split at h
 .cases h
 next e d=>
 split at h
 .cases h;exact⟨by assumption,λp b=>by rw[fR]at b;rw[b];exact Ym c (Yl d)⟩
 cases h
theorem arx(h:vq w r a u s z=.ok B):a+B.length<=60/\∀p∈B,vR p:=by
 unfold vq at h;split at h
 .cases h
 next d c=>
 split at h
 .cases h
 split at h
 .cases h;exact⟨by assumption,λp b=>by rw[fR]at b;rw[b];exact Ym KP (Yl c)⟩
 cases h
theorem ary(h:wQ w r a u s z N=.ok B):a+B.length<=60/\∀p∈B,vR p:=by
 unfold wQ at h;split at h
 .cases h
 next d c=>
 split at h
 .cases h;refine⟨by simp only[iq,sa];omega,λp b=> ?_⟩;rcases ft.1 b with rfl|b
  .exact afo
  rw[fR]at b;rw[b];exact Ym KP (Yl c)
 cases h
theorem afq{k:Int}(c:mv r)(h:lV w u a E s L k r=.ok B):a+B.length<=60/\∀p∈B,vR p:=by
 unfold lV at h;split at h
 .cases h
 split at h
 .cases h
 split at h
 .cases h;exact⟨by assumption,λp b=>by rw[fR]at b;rw[b];exact Yn c⟩
 cases h
theorem arz(c:mv r)(h:vr w u a E s L r=.ok B):a+B.length<=60/\∀p∈B,vR p:=by
 unfold vr at h;split at h
 .cases h
 split at h
 .cases h
 split at h
 .cases h;refine⟨by simp only[iq,sa];omega,λp b=> ?_⟩;rcases ft.1 b with rfl|b
  .exact afp
  rw[fR]at b;rw[b];exact Yn c
 cases h
theorem arA(h:vs w r a u s E N=.ok B):a+B.length<=60/\∀p∈B,vR p:=by
 unfold vs at h;split at h
 .cases h
 split at h
 .cases h
 split at h
 .cases h;refine⟨by simp only[iq,sa];omega,λp b=> ?_⟩;rcases ft.1 b with rfl|b
  .exact afo
  rcases ft.1 b with rfl|b
  .exact afp
  rw[fR]at b;rw[b];exact Yn KP
 cases h
theorem afr{w}(i:gT b a q d k e j n U c h m)(r:J b f)(x:xI y d l c h w)(o:dp n l f y):(y.heap[a]?=b.heap[a]?/\(∀g,g<f.heap.size->¬q g->y.heap[g]?=f.heap[g]?)/\f.heap.size<=y.heap.size)/\
  ∀s,Loc b f y s->dp n l b s/\xI s d l c h w/\wg s k U c m:=by
 have u:=r.size;refine⟨⟨(o.other a (c0 (i.lt _ i.gK) u) i.Ip).trans (r.block a (i.lt _ i.gK)),λg t hF=>o.other g t λB=>hF (i.F0 g B),o.size⟩,λs p=> ?_⟩;have z:dp n l b s:=⟨p.os.trans (o.os.trans r.os),p.tape.trans (o.tape.trans r.tape),p.output.trans (o.output.trans r.output),cd (cd u o.size) p.size,
  λg t hF=>(p.other g (c0 t (cd u o.size)) (.inl t)).trans ((o.other g (c0 t u) hF).trans (r.block g t)),λg hF=>(o.sub g hF).imp id λv=>cd u v⟩
 refine⟨z,x.hA p.size λg hF=>p.other g (x.lt g hF) ?_,(i.prog z).2.1⟩;rcases o.sub g hF with v|v
 .exact .inl (i.fB.lt g v)
 omega
theorem Ao (i:gT b k n d c e j q l a h m) (z:J b f) {args:Array Value} {P':gS} (B:FZ q a h P' d f y) (hrel:KM a P')
  (C:∀p,wg p c l a m->O M args p λo u=>o=ad F/\N6 l a P' c p u):Duo b f k n d c e j a h M args F y:=by
 obtain⟨D,v,w⟩:=B;obtain⟨⟨E,I,L⟩,s⟩:=afr i z v w;refine⟨E,I,L,λp N=> ?_⟩;obtain⟨P,Q,R⟩:=s p N;refine(C p R).mono λo u x=> ?_
 obtain⟨S,U,t⟩:=x.2;refine⟨x.1,?_,λg jp _ W=>t.other g W λhF=>by have :=i.mf.lt g hF;omega⟩;obtain⟨X,s,Y,gi⟩:=i.both P Q t U hrel;refine⟨X,D,S,_,s,Y,λg hkF=> ?_⟩;rcases gi g hkF with r|r|r
 .exact .inl r
 .exact(w.sub g r).imp (i.F0 g) λxe=>.inl ⟨xe,v.lt g r⟩
 exact(t.sub g r).imp (i.cc g) .inr
theorem rv (g:gT b d l h a e j n q c k m) (r:J b f) {args:Array Value} (v:J f y) (w:∀o l L I p,c3 o a l L I c m.S p->O M args o λi s=>i=ad F/\J o s):Duo b f d l h a e j c k M args F y:=by
 refine Ao g r (.left (g.ak r).fB v) g.rel λo t=> ?_
 obtain⟨x,z,B,p,C,_⟩:=id t;exact(w o x z B p C).mono λi s u=>⟨u.1,.left t u.2⟩
theorem It {cU:Nat->Prop} (i:gT f W l h d e j U cU c k m) (bj:J f b) {R:Nat} {args:Array Value} (P:a<c) {g:Ending} {jG:da} (ao:ei b h n q c k m.M m.s jG) (dH:∀v,n v\/q v->U v) {pl:Int->Nat->Except Int (List bT)} {E:Int->Value} {Y:Int->Value} (hz:∀t w x,pl t w=.ok x->w+x.length<=60/\∀p∈x,vR p)
  (arB:Fz h c k n q m.M m.s jG a (pl (m.s.gt a) (m.M a).length) (λr=>ad (E r)) (ad (Y (m.s.gt a))) b g y)
  (X:∀C l L I D,c3 C d l L I c m.S D->Own c m.S.P m.S.ai a ((m.s.ar a).map λo=>fZ o.op)->O R args C λg Q=>(∃r,pl (ct ((m.s.ar a).map λo=>fZ o.op)) (m.S.P a).length=.error r/\g=ad (E r)/\j7 d c l L I D.vl C Q m.S)\/(∃x,pl (ct ((m.s.ar a).map λo=>fZ o.op)) (m.S.P a).length=.ok x/\g=ad (Y (ct ((m.s.ar a).map λo=>fZ o.op)))/\j7 d c l L I D.vl C Q (kS m.S a x))):
  (∃r,g=ad (E r)/\Duo f b W l h d e j c k R args (E r) y)\/(g=ad (Y (m.s.gt a))/\Duo f b W l h d e j c k R args (Y (m.s.gt a)) y):=by
 have bQ:=i.rel.own ao P;have wX:(m.M a).length=(m.S.P a).length:=by rw[<-i.rel.rel.bJ a P,c2]
 rw[<-(i.rel.rel.gt a P),<-wX]at X;rcases arB with⟨r,F,rfl,h2⟩|⟨x,M',s',F,rfl,mw,h2⟩
 .refine .inl ⟨r,rfl,Ao i bj (P':=m) (.of m.S dH h2) i.rel λC aP=> ?_⟩;obtain⟨aY,fL,I',D,B,ah,_⟩:=aP;refine(X C aY fL I' D B bQ).mono λg Q aC=> ?_
  rcases aC with⟨m2,z,rfl,a8⟩|⟨x,z,_⟩
  .rw[F]at z;cases z;exact⟨rfl,.of m.M m.s ah a8⟩
  rw[F]at z;cases z
 have au:=hz _ _ _ F;have bO:=i.rel.rel.wrote P x (ao.ok.own a P) mw;refine .inr ⟨rfl,Ao i bj (P':=⟨M',s',kS m.S a x⟩) (.of _ dH h2) ⟨bO,i.rel.na.wrote (by rw[dh,<-wX];omega),λu de o al=> ?_,i.rel.a6.same (nD.dR x mw) rfl rfl⟩ λC aP=> ?_⟩
 .have N:fZ o.op∈(kS m.S a x).P u:=by rw[<-bO.bJ u de];exact dF.2 ⟨o,al,rfl⟩
  unfold kS at N;simp only at N;have old:∀g,g<c->fZ o.op∈m.S.P g->vR (fZ o.op):=λg he B=>by rw[<-i.rel.rel.bJ g he]at B;obtain⟨o',hS,e'⟩:=dF.1 B;rw[<-e'];exact i.rel.tK g he o' hS
  by_cases g:u=a
  .subst g;rw[bL]at N;rcases dZ.1 N with B|B
   .exact old u de B
   exact au.2 _ B
  rw[ch _ _ g]at N;exact old u de N
 obtain⟨aY,fL,I',D,B,ah,_⟩:=aP;refine(X C aY fL I' D B bQ).mono λg Q aC=> ?_
 rcases aC with⟨m2,z,_⟩|⟨ps2,z,rfl,a8⟩
 .rw[F]at z;cases z
 rw[F]at z;cases z;exact⟨rfl,.of M' s' ah a8⟩
theorem arC (p:gT b h l c d e j n q a k m) (y:J b f) (C:Int) (v w g:Int) (P:mv g) (u:ByteArray) (F:u.size<=maxLen):
  O 23 #[Z c,A C,.agg #[A v,A w],.string u,A g] f λr z=>∃i,r=ad (A i)/\Duo b f h l c d e j a k 94 #[Z d,A C,.agg #[A v,A w],.string u,A g] (A i) z:=by
 obtain⟨W,X,jG,B,Q,_⟩:=(p.ak y).fB;by_cases I:0<=C/\C<a
 .obtain⟨o,rfl⟩:∃o:Nat,C=o:=⟨C.toNat,by omega⟩;have L:o<a:=by omega
  refine(B.anV L v w g u F).mono λr z x=> ?_
  rcases It p y L B Q (pl:=λt R=>wP (c1 (m.s.ar o)) t R o (v,w) u g) (E:=λi=>A i) (Y:=λ_=>A 0) (λ_ _ _=>arw P) x (λS _ _ _ _ D U=>apz D U v w g u F) with⟨i,M,N⟩|⟨M,N⟩
  .exact⟨i,M,N⟩
  simp_all
 exact(an2 B.m.j6 C I v w g u).mono λr z x=>⟨2,x.1,rv p y x.2 λS _ _ _ _ D=>aje D.cm.bN C v w g u I⟩
theorem arD (o:gT b h l c d e j n q a k m) (x:J b f) (C:Int) (u v:Int) (r:ByteArray) (D:r.size<=maxLen):
  O 78 #[Z c,A C,.agg #[A u,A v],.string r] f λp y=>∃g,p=ad (A g)/\Duo b f h l c d e j a k 97 #[Z d,A C,.agg #[A u,A v],.string r] (A g) y:=by
 obtain⟨S,U,W,z,L,_⟩:=(o.ak x).fB;by_cases F:0<=C/\C<a
 .obtain⟨i,rfl⟩:∃i:Nat,C=i:=⟨C.toNat,by omega⟩;have I:i<a:=by omega
  refine(z.anW I u v r D).mono λp y w=> ?_
  rcases It o x I z L (pl:=λt M=>vq (c1 (m.s.ar i)) t M i (u,v) r) (E:=λg=>A g) (Y:=λ_=>A 0) (λ_ _ _=>arx) w (λN _ _ _ _ B P=>apB B P u v r D) with⟨g,Q,R⟩|⟨Q,R⟩
  .simp_all
  simp_all
 exact(an3 z.m.j6 C F u v r).mono λp y w=>⟨2,w.1,rv o x w.2 λN _ _ _ _ B=>ajg B.cm.bN C u v r F⟩
theorem arE (r:gT b h l c d e j n q a k m) (y:J b f) (C:Int) (v w i g:Int) (L:mv g):
  O 33 #[Z c,A C,.agg #[A v,A w],A i,A g] f λu z=>∃o,u=ad (A o)/\Duo b f h l c d e j a k 101 #[Z d,A C,.agg #[A v,A w],A i,A g] (A o) z:=by
 obtain⟨U,W,X,B,M,_⟩:=(r.ak y).fB;by_cases F:0<=C/\C<a
 .obtain⟨p,rfl⟩:∃p:Nat,C=p:=⟨C.toNat,by omega⟩;have I:p<a:=by omega
  refine(B.anX I v w i g).mono λu z x=> ?_
  rcases It r y I B M (pl:=λt N=>lV (c1 (m.s.ar p)) t N p (v,w) i 3 g) (E:=λo=>A o) (Y:=λ_=>A 0) (λ_ _ _=>afq L) x (λP _ _ _ _ D Q=>apE D Q v w i g) with⟨o,R,S⟩|⟨R,S⟩
  .simp_all
  simp_all
 exact(an4 B.m.j6 C F v w i g).mono λu z x=>⟨2,x.1,rv r y x.2 λP _ _ _ _ D=>ajj D.cm.bN C v w i g F⟩
theorem arF (p:gT b h l c d e j n q a k m) (x:J b f) (C:Int) (u v i:Int):
  O 34 #[Z c,A C,.agg #[A u,A v],A i] f λr y=>∃g,r=ad (A g)/\Duo b f h l c d e j a k 102 #[Z d,A C,.agg #[A u,A v],A i] (A g) y:=by
 obtain⟨R,S,U,z,I,_⟩:=(p.ak x).fB;by_cases D:0<=C/\C<a
 .obtain⟨o,rfl⟩:∃o:Nat,C=o:=⟨C.toNat,by omega⟩;have F:o<a:=by omega
  refine(z.anY F u v i).mono λr y w=> ?_
  rcases It p x F z I (pl:=λt L=>lV (c1 (m.s.ar o)) t L o (u,v) i 4 0) (E:=λg=>A g) (Y:=λ_=>A 0) (λ_ _ _=>afq KP) w (λM _ _ _ _ B N=>apF B N u v i) with⟨g,P,Q⟩|⟨P,Q⟩
  .simp_all
  simp_all
 exact(an5 z.m.j6 C D u v i).mono λr y w=>⟨2,w.1,rv p x w.2 λM _ _ _ _ B=>ajk B.cm.bN C u v i D⟩
theorem arG (o:gT b h l c d e j n q a k m) (y:J b f) (C:Int) (u v:Int) (r:ByteArray) (L:r.size<=maxLen) (w:Bool):
  O 38 #[Z c,A C,.agg #[A u,A v],.string r,.bool w] f λp z=>∃M N g,p=ad (.tuple #[.agg #[A M,A N],A g])/\Duo b f h l c d e j a k 95 #[Z d,A C,.agg #[A u,A v],.string r,.bool w] (.tuple #[.agg #[A M,A N],A g]) z:=by
 obtain⟨X,od,jG,B,R,_⟩:=(o.ak y).fB;by_cases P:0<=C/\C<a
 .obtain⟨i,rfl⟩:∃i:Nat,C=i:=⟨C.toNat,by omega⟩;have Q:i<a:=by omega
  refine(B.anZ Q u v r L w).mono λp z x=> ?_
  rcases It o y Q B R (pl:=λt S=>wQ (c1 (m.s.ar i)) t S i (u,v) r w) (E:=λg=>.tuple #[.agg #[A 0,A 0],A g]) (Y:=λt=>.tuple #[.agg #[A (t+1),A i],A 0]) (λ_ _ _=>ary) x (λU _ _ _ _ D W=>apA D W u v r L w) with⟨g,F,I⟩|⟨F,I⟩
  .exact⟨0,0,g,F,I⟩
  exact⟨_,_,0,F,I⟩
 exact(an6 B.m.j6 C P u v r w).mono λp z x=>⟨0,0,2,x.1,rv o y x.2 λU _ _ _ _ D=>ajf D.cm.bN C u v r w P⟩
theorem arH (r:gT b h l c d e j n q a k m) (y:J b f) (C:Int) (v w i g:Int) (Q:mv g):
  O 32 #[Z c,A C,.agg #[A v,A w],A i,A g] f λu z=>∃L M o,u=ad (.tuple #[.agg #[A L,A M],A o])/\Duo b f h l c d e j a k 98 #[Z d,A C,.agg #[A v,A w],A i,A g] (.tuple #[.agg #[A L,A M],A o]) z:=by
 obtain⟨X,od,jG,B,R,_⟩:=(r.ak y).fB;by_cases N:0<=C/\C<a
 .obtain⟨p,rfl⟩:∃p:Nat,C=p:=⟨C.toNat,by omega⟩;have P:p<a:=by omega
  refine(B.an0 P v w i g).mono λu z x=> ?_
  rcases It r y P B R (pl:=λt S=>vr (c1 (m.s.ar p)) t S p (v,w) i g) (E:=λo=>.tuple #[.agg #[A 0,A 0],A o]) (Y:=λt=>.tuple #[.agg #[A (t+1),A p],A 0]) (λ_ _ _=>arz Q) x (λU _ _ _ _ D W=>apC D W v w i g) with⟨o,F,I⟩|⟨F,I⟩
  .exact⟨0,0,o,F,I⟩
  exact⟨_,_,0,F,I⟩
 exact(an7 B.m.j6 C N v w i g).mono λu z x=>⟨0,0,2,x.1,rv r y x.2 λU _ _ _ _ D=>ajh D.cm.bN C v w i g N⟩
theorem arI (p:gT b h l c d e j n q a k m) (y:J b f) (C:Int) (u v i:Int) (w:Bool):
  O 99 #[Z c,A C,.agg #[A u,A v],A i,.bool w] f λr z=>∃L M g,r=ad (.tuple #[.agg #[A L,A M],A g])/\Duo b f h l c d e j a k 100 #[Z d,A C,.agg #[A u,A v],A i,.bool w] (.tuple #[.agg #[A L,A M],A g]) z:=by
 obtain⟨W,X,jG,B,Q,_⟩:=(p.ak y).fB;by_cases N:0<=C/\C<a
 .obtain⟨o,rfl⟩:∃o:Nat,C=o:=⟨C.toNat,by omega⟩;have P:o<a:=by omega
  refine(B.an1 P u v i w).mono λr z x=> ?_
  rcases It p y P B Q (pl:=λt R=>vs (c1 (m.s.ar o)) t R o (u,v) i w) (E:=λg=>.tuple #[.agg #[A 0,A 0],A g]) (Y:=λt=>.tuple #[.agg #[A (t+1),A o],A 0]) (λ_ _ _=>arA) x (λS _ _ _ _ D U=>apD D U u v i w) with⟨g,F,I⟩|⟨F,I⟩
  .exact⟨0,0,g,F,I⟩
  exact⟨_,_,0,F,I⟩
 exact(an8 B.m.j6 C N u v i w).mono λr z x=>⟨0,0,2,x.1,rv p y x.2 λS _ _ _ _ D=>aji D.cm.bN C u v i w N⟩
end
section
attribute [local go_sem ↓] Go.wp_at_zero Go.wp_at_succ
variable {a l v:World}{b c j k m n:Nat}{d:Nat->Prop}{e q u:Value}{f i r:Int}{h:List PId}{s:Obj}
structure kU where
 aM:Int
 r:Int
 c:Int
 d:Int
 i1:Int
 i2:Int
 bJ:Int
 key:ByteArray
 a:Int
 b:Int
 yes:Bool
def Of (o:kU):Array Value:= #[A o.aM,A o.r,A o.c,A o.d,A o.i1,A o.i2,A o.bJ,.string o.key,A o.a,A o.b,.bool o.yes]
structure r5 (o:kU):Prop where
 r:mv o.r
 bJ:mv o.bJ
 a:mv o.a
 b:mv o.b
 key:o.key.size<=maxLen
theorem fg{m n d o g h:Int}{l:ByteArray}{yes:Bool}(p:a.heap[c]?=some (.cells #[Z j,Z k,e] 135))(q:a.heap[b]?=some (.cells #[A f,A m,A i,A n,A r,A d,A o,.string l,A g,A h,.bool yes] 87)):
  a.cell? (H c)=some (Z j)/\a.cell? (K c 1)=some (Z k)/\a.cell? (H b)=some (A f)/\a.cell? (K b 2)=some (A i)/\a.cell? (K b 4)=some (A r)/\a.cell? (K b 5)=some (A d)/\a.cell? (K b 7)=some (.string l)/\a.cell? (K b 8)=some (A g)/\a.cell? (K b 9)=some (A h)/\a.cell? (K b 10)=some (.bool yes):=by
 refine⟨?_,?_,?_,?_,?_,?_,?_,?_,?_,?_⟩<;>simp[World.cell?,p,q]
structure KQ (w:World) (aQ:Nat) (F:Nat->Prop) (x r:Nat) (bG:Value) (bv:List PId) (N sp:Nat) (mK:Nat) (args:Array Value) (box:Obj) (iF:Nat) (i1 i2 m:Int) (wc:World):Prop where
 a:wc.heap[iF]?=some (af i1 i2)
 g:wc.heap[aQ]?=w.heap[aQ]?
 b:wc.heap[w.heap.size]?=some box
 next :∀b5,J wc b5->O mK args b5 λe w2=>e=ad (.tuple #[.agg #[A i1,A i2],A m])/\(∃aY fC hf P',gT w2 aQ aY x r bG bv fC hf N sp P'/\dp F aY w w2/\∀k,wc.heap.size<=k->k<b5.heap.size->¬aY k)/\w2.heap[iF]?=some (af i1 i2)/\w2.heap[w.heap.size]?=some box/\∀k,wc.heap.size<=k->k<b5.heap.size->w2.heap[k]?=b5.heap[k]?
theorem afs{wc y args}(hF:∀g,d g->g<a.heap.size)(B:d c)(C:Duo a l c d j k e h m n y args (.tuple #[.agg #[A f,A i],A r]) v)(D:a.heap.size<l.heap.size)(t:Loc a l v wc)(u:wc.heap[b]?=some (af f i))(E:a.heap.size<=b)(F:b<l.heap.size\/v.heap.size<=b)(w:wc.heap[a.heap.size]?=some s):KQ a c d j k e h m n y args s b f i r wc:=by
 obtain⟨I,h2,ax,L⟩:=C;have M:=hF c B;refine⟨u,(t.other c (by omega) (.inl M)).trans I,w,λN q=>(L N (t.grow q)).mono λp w2 P=> ?_⟩;obtain⟨Q,⟨R,S,U,W,X,Y,aj⟩,x⟩:=P;have hz1:=t.size;have hz2:=q.size;have pb:=aU u;refine⟨Q,⟨R,S,U,W,X,Y,λg dK z Vn=> ?_⟩,?_,?_,λg dK z=>x g (by omega) (.inr (by omega)) z⟩
 .rcases aj g Vn with o|o|o
  .have :=hF g o;omega
  .omega
  omega
 .rw[x b E F (by omega),q.block b pb];exact u
 rw[x a.heap.size (bW _) (.inl D) (by omega),q.block _ (aU w)];exact w
theorem Yo{args}(hF:∀o,d o->o<a.heap.size)(v:d b)(p:Duo a ((a.alloc s).alloc (.cells #[q,u] 36)).drew b d c j e h k m n args (.tuple #[.agg #[A f,A i],A r]) l):
  KQ a b d c j e h k m n args s (a.heap.size+1) f i r ((l.setCell (H (a.heap.size+1)) (A f)).setCell (K (a.heap.size+1) 1) (A i)):=by
 have w:=p;obtain⟨B,t,x,C⟩:=p;simp at x;have y:l.heap[a.heap.size+1]?=some (.cells #[q,u] 36):=(t _ (by simp) (λg=>by have :=hF _ g;omega)).trans (oI (by simp));refine afs hF v w (by simp;omega) ⟨rfl,rfl,rfl,by simp[World.setCell],λo D z=> ?_⟩ (afg y) (by omega) (.inl (by simp)) ((dE (by omega)).trans ((dE (by omega)).trans ((t _ (by simp;omega) (λg=>by have :=hF _ g;omega)).trans ((eX (by simp)).trans (bZ a _)))));have :o≠a.heap.size+1:=by
  rcases z with g|g
  .omega
  simp at g;omega
 exact(dE this).trans (dE this)
theorem Yp{args}(hF:∀g,d g->g<a.heap.size)(q:d b)(p:Duo a (a.alloc s).drew b d c j e h k m n args (.tuple #[.agg #[A f,A i],A r]) l):
  KQ a b d c j e h k m n args s l.heap.size f i r (l.alloc (af f i)):=by
 have t:=p;obtain⟨w,u,v,x⟩:=p;simp at v;exact afs hF q t (by simp) (Loc.cL (aV l _)) (bZ l _) (by omega) (.inr (bW _)) ((eX (by omega)).trans ((u _ (by simp) (λo=>by have :=hF _ o;omega)).trans (bZ a _)))
structure Og (w:World) (aQ:Nat) (F:Nat->Prop) (x r:Nat) (bG:Value) (bv:List PId) (N sp:Nat) (iF ln:Nat) (i1 i2:Int) (wc:World):Prop where
 a:wc.heap[iF]?=some (af i1 i2)
 b:wc.heap[ln]?=some (af i1 i2)
 pair:∃aY fC hf P',gT wc aQ aY x r bG bv fC hf N sp P'/\dp F aY w wc
theorem Yq{wc:World}(w:l.heap.size<=wc.heap.size)(D:b<wc.heap.size)(x:∃p r s t,gT a c p j k u h r s m n t/\dp d p l a/\∀g,wc.heap.size<=g->g<(wc.alloc (.cells #[e,q] 36)).drew.heap.size->¬p g)(y:a.heap[b]?=some (af f i))(z:∀g,wc.heap.size<=g->g<(wc.alloc (.cells #[e,q] 36)).drew.heap.size->a.heap[g]?=(wc.alloc (.cells #[e,q] 36)).drew.heap[g]?):
  Og l c d j k u h m n b wc.heap.size f i ((a.setCell (V wc 0) (A f)).setCell (V wc 1) (A i)):=by
 obtain⟨p,r,s,t,B,v,C⟩:=x;refine⟨(dE (by omega)).trans ((dE (by omega)).trans y),afg ((z _ (bW _) (by simp)).trans (bZ wc _)),p,r,s,t,B.hA (by simp) λg v=> ?_,(v.ym w _).ym w _⟩;have :g≠wc.heap.size:=λo=>(C wc.heap.size (bW _) (by simp)) (o▸v)
 exact(dE this).trans (dE this)
theorem Yr{wc:World}(t:∃o p q r,gT a b o c j e h p q k m r/\dp d o l a/\∀g,wc.heap.size<=g->g<v.heap.size->¬o g)(u:a.heap[n]?=some (af f i)):
  Og l b d c j e h k m n a.heap.size f i (a.alloc (af f i)):=by
 obtain⟨o,p,q,r,w,x,y⟩:=t;have s:=aV a (af f i);exact⟨bB u s,bZ a _,o,p,q,r,w.ak s,x.after s⟩
def yX (w:World) (c:Nat) (F:Nat->Prop) (d:Nat) (a:World):Prop:=∃b,lN a c b d/\dp F b w a
theorem arJ {F:Nat->Prop} (h:lN l j F k) (o:kU) (i:r5 o) (t:o.aM=2):
  O 68 #[Z j,.agg #[A o.aM,A o.r,A o.c,A o.d,A o.i1,A o.i2,A o.bJ,.string o.key,A o.a,A o.b,.bool o.yes]] l λe u=>e=ad (.bool true)/\yX l j F (k+1) u:=by
 obtain⟨x,r,v,w,cJ,cU,N,y,P,jS,h⟩:=h;rw[t];have p:=aV l (.cells #[A 2,A o.r,A o.c,A o.d,A o.i1,A o.i2,A o.bJ,.string o.key,A o.a,A o.b,.bool o.yes] 87);have n:=bZ l (.cells #[A 2,A o.r,A o.c,A o.d,A o.i1,A o.i2,A o.bJ,.string o.key,A o.a,A o.b,.bool o.yes] 87);have z:=bB h.bb p;have dX:=ag h.lt;have uR:=ag h.gK;have dG:=h.lt _ h.gK;go_enter func68,ntmps68;go_wp2_with fail
 go_region_held3 (λW=>W.cell? (H j)=some (Z x)/\W.cell? (K j 1)=some (Z r)/\W.cell? (V l 0)=some (A 2)/\W.cell? (V l 2)=some (A o.c)/\W.cell? (V l 4)=some (A o.i1)/\W.cell? (V l 5)=some (A o.i2)/\W.cell? (V l 7)=some (.string o.key)/\W.cell? (V l 8)=some (A o.a)/\W.cell? (V l 9)=some (A o.b)/\W.cell? (V l 10)=some (.bool o.yes)) (first |exact fg z n|exact fg q.o g.o)
  (first |(go_at_call 23;refine((λW (B:J l W)=>arC h B o.c o.i1 o.i2 o.a i.a o.key i.key) _ p.drew).mono ?_;rintro e C ⟨m,rfl,D,E,hG,I⟩;have q:=ag (D.trans h.bb);have g:=ag ((E l.heap.size (aU n) ((show ∀f,l.heap.size<=f->¬F f from λf i hF=>by have :=h.lt f hF;omega) _ (bW _))).trans n)))
 go_wp2_with fail
 go_region_held3 (λW=>W.cell? (H j)=some (Z x)/\W.cell? (K j 1)=some (Z r)/\W.cell? (V l 0)=some (A 2)/\W.cell? (V l 2)=some (A o.c)/\W.cell? (V l 4)=some (A o.i1)/\W.cell? (V l 5)=some (A o.i2)/\W.cell? (V l 7)=some (.string o.key)/\W.cell? (V l 8)=some (A o.a)/\W.cell? (V l 9)=some (A o.b)/\W.cell? (V l 10)=some (.bool o.yes)) (first |exact fg q.o g.o|exact fg L.o M.o)
  (first |(go_at_call 94;refine(I _ (Loc.cL ((gb C)))).mono ?_;rintro e w2 ⟨rfl,⟨Q,R,S,U,s,X,gx⟩,Y⟩;have L:=ag s.bb;have M:=ag ((Y l.heap.size (bW _) (.inl (by simp)) (aU g.o)).trans g.o)))
 go_wp2;go_ret
 exact⟨rfl,Q,⟨x,r,v,w,R,S,N,y,U,by omega,s⟩,X⟩
theorem arK {F:Nat->Prop} (h:lN l j F k) (o:kU) (n:r5 o) (t:o.aM=4):
  O 68 #[Z j,.agg #[A o.aM,A o.r,A o.c,A o.d,A o.i1,A o.i2,A o.bJ,.string o.key,A o.a,A o.b,.bool o.yes]] l λe u=>e=ad (.bool true)/\yX l j F (k+1) u:=by
 obtain⟨x,r,v,w,cJ,cU,N,y,P,jS,h⟩:=h;rw[t];have p:=aV l (.cells #[A 4,A o.r,A o.c,A o.d,A o.i1,A o.i2,A o.bJ,.string o.key,A o.a,A o.b,.bool o.yes] 87);have i:=bZ l (.cells #[A 4,A o.r,A o.c,A o.d,A o.i1,A o.i2,A o.bJ,.string o.key,A o.a,A o.b,.bool o.yes] 87);have z:=bB h.bb p;have dX:=ag h.lt;have uR:=ag h.gK;have dG:=h.lt _ h.gK;go_enter func68,ntmps68;go_wp2_with fail
 go_region_held3 (λW=>W.cell? (H j)=some (Z x)/\W.cell? (K j 1)=some (Z r)/\W.cell? (V l 0)=some (A 4)/\W.cell? (V l 2)=some (A o.c)/\W.cell? (V l 4)=some (A o.i1)/\W.cell? (V l 5)=some (A o.i2)/\W.cell? (V l 7)=some (.string o.key)/\W.cell? (V l 8)=some (A o.a)/\W.cell? (V l 9)=some (A o.b)/\W.cell? (V l 10)=some (.bool o.yes)) (first |exact fg z i|exact fg q.o g.o)
  (first |(go_at_call 78;refine((λW (B:J l W)=>arD h B o.c o.i1 o.i2 o.key n.key) _ p.drew).mono ?_;rintro e C ⟨m,rfl,D,E,hG,I⟩;have q:=ag (D.trans h.bb);have g:=ag ((E l.heap.size (aU i) ((show ∀f,l.heap.size<=f->¬F f from λf n hF=>by have :=h.lt f hF;omega) _ (bW _))).trans i)))
 go_wp2_with fail
 go_region_held3 (λW=>W.cell? (H j)=some (Z x)/\W.cell? (K j 1)=some (Z r)/\W.cell? (V l 0)=some (A 4)/\W.cell? (V l 2)=some (A o.c)/\W.cell? (V l 4)=some (A o.i1)/\W.cell? (V l 5)=some (A o.i2)/\W.cell? (V l 7)=some (.string o.key)/\W.cell? (V l 8)=some (A o.a)/\W.cell? (V l 9)=some (A o.b)/\W.cell? (V l 10)=some (.bool o.yes)) (first |exact fg q.o g.o|exact fg L.o M.o)
  (first |(go_at_call 97;refine(I _ (Loc.cL ((gb C)))).mono ?_;rintro e w2 ⟨rfl,⟨Q,R,S,U,s,X,gx⟩,Y⟩;have L:=ag s.bb;have M:=ag ((Y l.heap.size (bW _) (.inl (by simp)) (aU g.o)).trans g.o)))
 go_wp2;go_ret
 exact⟨rfl,Q,⟨x,r,v,w,R,S,N,y,U,by omega,s⟩,X⟩
theorem arL {F:Nat->Prop} (h:lN l j F k) (o:kU) (n:r5 o) (t:o.aM=7):
  O 68 #[Z j,.agg #[A o.aM,A o.r,A o.c,A o.d,A o.i1,A o.i2,A o.bJ,.string o.key,A o.a,A o.b,.bool o.yes]] l λe u=>e=ad (.bool true)/\yX l j F (k+1) u:=by
 obtain⟨x,r,v,w,cJ,cU,N,y,P,jS,h⟩:=h;rw[t];have p:=aV l (.cells #[A 7,A o.r,A o.c,A o.d,A o.i1,A o.i2,A o.bJ,.string o.key,A o.a,A o.b,.bool o.yes] 87);have i:=bZ l (.cells #[A 7,A o.r,A o.c,A o.d,A o.i1,A o.i2,A o.bJ,.string o.key,A o.a,A o.b,.bool o.yes] 87);have z:=bB h.bb p;have dX:=ag h.lt;have uR:=ag h.gK;have dG:=h.lt _ h.gK;go_enter func68,ntmps68;go_wp2_with fail
 go_region_held3 (λW=>W.cell? (H j)=some (Z x)/\W.cell? (K j 1)=some (Z r)/\W.cell? (V l 0)=some (A 7)/\W.cell? (V l 2)=some (A o.c)/\W.cell? (V l 4)=some (A o.i1)/\W.cell? (V l 5)=some (A o.i2)/\W.cell? (V l 7)=some (.string o.key)/\W.cell? (V l 8)=some (A o.a)/\W.cell? (V l 9)=some (A o.b)/\W.cell? (V l 10)=some (.bool o.yes)) (first |exact fg z i|exact fg q.o g.o)
  (first |(go_at_call 33;refine((λW (B:J l W)=>arE h B o.c o.i1 o.i2 o.a o.b n.b) _ p.drew).mono ?_;rintro e C ⟨m,rfl,D,E,hG,I⟩;have q:=ag (D.trans h.bb);have g:=ag ((E l.heap.size (aU i) ((show ∀f,l.heap.size<=f->¬F f from λf n hF=>by have :=h.lt f hF;omega) _ (bW _))).trans i)))
 go_wp2_with fail
 go_region_held3 (λW=>W.cell? (H j)=some (Z x)/\W.cell? (K j 1)=some (Z r)/\W.cell? (V l 0)=some (A 7)/\W.cell? (V l 2)=some (A o.c)/\W.cell? (V l 4)=some (A o.i1)/\W.cell? (V l 5)=some (A o.i2)/\W.cell? (V l 7)=some (.string o.key)/\W.cell? (V l 8)=some (A o.a)/\W.cell? (V l 9)=some (A o.b)/\W.cell? (V l 10)=some (.bool o.yes)) (first |exact fg q.o g.o|exact fg L.o M.o)
  (first |(go_at_call 101;refine(I _ (Loc.cL ((gb C)))).mono ?_;rintro e w2 ⟨rfl,⟨Q,R,S,U,s,X,gx⟩,Y⟩;have L:=ag s.bb;have M:=ag ((Y l.heap.size (bW _) (.inl (by simp)) (aU g.o)).trans g.o)))
 go_wp2;go_ret
 exact⟨rfl,Q,⟨x,r,v,w,R,S,N,y,U,by omega,s⟩,X⟩
theorem arM {F:Nat->Prop} (h:lN l j F k) (o:kU) (s:o.aM=8):
  O 68 #[Z j,.agg #[A o.aM,A o.r,A o.c,A o.d,A o.i1,A o.i2,A o.bJ,.string o.key,A o.a,A o.b,.bool o.yes]] l λe t=>e=ad (.bool true)/\yX l j F (k+1) t:=by
 obtain⟨x,r,u,v,Y,cU,N,w,P,jS,h⟩:=h;rw[s];have n:=aV l (.cells #[A 8,A o.r,A o.c,A o.d,A o.i1,A o.i2,A o.bJ,.string o.key,A o.a,A o.b,.bool o.yes] 87);have i:=bZ l (.cells #[A 8,A o.r,A o.c,A o.d,A o.i1,A o.i2,A o.bJ,.string o.key,A o.a,A o.b,.bool o.yes] 87);have y:=bB h.bb n;have dX:=ag h.lt;have uR:=ag h.gK;have dG:=h.lt _ h.gK;go_enter func68,ntmps68;go_wp2_with fail
 go_region_held3 (λW=>W.cell? (H j)=some (Z x)/\W.cell? (K j 1)=some (Z r)/\W.cell? (V l 0)=some (A 8)/\W.cell? (V l 2)=some (A o.c)/\W.cell? (V l 4)=some (A o.i1)/\W.cell? (V l 5)=some (A o.i2)/\W.cell? (V l 7)=some (.string o.key)/\W.cell? (V l 8)=some (A o.a)/\W.cell? (V l 9)=some (A o.b)/\W.cell? (V l 10)=some (.bool o.yes)) (first |exact fg y i|exact fg p.o g.o)
  (first |(go_at_call 34;refine((λW (z:J l W)=>arF h z o.c o.i1 o.i2 o.a) _ n.drew).mono ?_;rintro e B ⟨m,rfl,C,D,hG,E⟩;have p:=ag (C.trans h.bb);have g:=ag ((D l.heap.size (aU i) ((show ∀f,l.heap.size<=f->¬F f from λf hk hF=>by have :=h.lt f hF;omega) _ (bW _))).trans i)))
 go_wp2_with fail
 go_region_held3 (λW=>W.cell? (H j)=some (Z x)/\W.cell? (K j 1)=some (Z r)/\W.cell? (V l 0)=some (A 8)/\W.cell? (V l 2)=some (A o.c)/\W.cell? (V l 4)=some (A o.i1)/\W.cell? (V l 5)=some (A o.i2)/\W.cell? (V l 7)=some (.string o.key)/\W.cell? (V l 8)=some (A o.a)/\W.cell? (V l 9)=some (A o.b)/\W.cell? (V l 10)=some (.bool o.yes)) (first |exact fg p.o g.o|exact fg I.o L.o)
  (first |(go_at_call 102;refine(E _ (Loc.cL ((gb B)))).mono ?_;rintro e w2 ⟨rfl,⟨M,Q,R,S,q,U,gx⟩,X⟩;have I:=ag q.bb;have L:=ag ((X l.heap.size (bW _) (.inl (by simp)) (aU g.o)).trans g.o)))
 go_wp2;go_ret
 exact⟨rfl,M,⟨x,r,u,v,Q,R,N,w,S,by omega,q⟩,U⟩
def Ap (c:Int) (n:Nat):Nat:=(if c<0 then -(c+1) else c).toNat%n
theorem DZ(c:Int)(h:0<b):Ap c b<b:=IC _ h
theorem Ys (c:Int) (n:Nat) (b: -9223372036854775808<=c) (d:c<=9223372036854775807) (f:0<n) (g:n<=9223372036854775807) (w:World):
  O 67 #[A c,A n] w λe a=>e=ad (A (Ap c n))/\a=w:=by
 unfold Ap;by_cases h:c<0
 .rw[bn h];go_enter func67,ntmps67;go_wp2;go_ret
  refine⟨?_,rfl⟩;simp;rw[<-Int.neg_tmod,S7 (by omega)];have :max (-(c+1)) 0= -(c+1):=by omega
  rw[this]
 rw[a7 h];go_enter func67,ntmps67;go_wp2;go_ret
 refine⟨?_,rfl⟩;have :max c 0=c:=by omega
 simp[this]
theorem arN {l:List PId} (f:fu a e l) (j:fu a q l):
  O 105 #[e,q] a λb r=>b=ad (.bool true)/\J a r:=by
 obtain⟨w,ac,rfl,x,s,t⟩:=bz f;obtain⟨y,z,rfl,B,u,v⟩:=bz j;unfold maxLen at s u;go_enter func105,ntmps105;go_wp2;go_loopw [5] (λi wr=>∃k:Nat,k<=l.length/\i=A k/\J a wr) (λi _=>l.length-(intOf i).toNat)
 case atStart=>exact⟨0,b6 _,rfl,ca _ _⟩
 case round=>
  obtain⟨k,C,rfl,c⟩:=hrel;by_cases d:k<l.length
  .obtain⟨g,rfl⟩:=t k d;obtain⟨D,rfl⟩:=v k d;obtain⟨m,n⟩:=fu.cells f (by simp) k d;obtain⟨o,p⟩:=fu.cells j (by simp) k d;replace m:=ak c m;replace n:=ak c n;replace o:=ak c o;replace p:=ak c p;have heq:=Ed;have E:(!fv l[k].1 l[k].2 l[k].1 l[k].2)=false:=by simp[fv]
   go_wp2;go_region
   all_goals go_wp2
   all_goals go_roundw
   case rel=>exact⟨k+1,by omega,by go_num,c.drew⟩
   case measure=>simp[intOf];omega
  go_wp2;go_ret
  exact⟨rfl,c⟩
def Iu (w:World) (v:Value) (l:List eP):Prop:=w.ownsRow 0 57 3 v l.length (l.flatMap sv)
theorem Iu.cells{w l}{g n cap:Nat}(h:Iu w (.slice (some ⟨g,0,none⟩) n cap) l)(f:n=l.length)(i:Nat)(a:i<l.length):
  w.cell? ⟨g,i*3,none⟩=some (.int .i64 l[i].1)/\w.cell? ⟨g,i*3+1,none⟩=some (.int .i64 l[i].2.1)/\w.cell? ⟨g,i*3+2,none⟩=some (.int .i64 l[i].2.2):=by
 subst f;have b:=λj (e:j<3)=>Iy h (i*3+j) (by omega)
 have c:∀(l:List eP) (k:Nat) (d:k<l.length) (j:Nat),j<3->(l.flatMap sv)[k*3+j]?=(sv l[k])[j]?:=by
  intro l
  induction l with
  |nil=>intro k d;simp at d
  |cons x l ih=>
   intro k d j e;cases k with
   |zero=>rw[jI,KU (by simp[sv];omega)];simp
   |succ k=>rw[jI,KV (by simp[sv];omega),show(sv x).length=3 from rfl,show(k+1)*3+j-3=k*3+j by omega];exact ih k (by simp_all) j e
 refine⟨?_,?_,?_⟩
 .have :=(b 0 (by omega)).trans (c l i a 0 (by omega));assumption
 .have :=(b 1 (by omega)).trans (c l i a 1 (by omega));assumption
 have :=(b 2 (by omega)).trans (c l i a 2 (by omega));assumption
def Su (a b c d e f:Int):Bool:=decide (a=d/\b=e/\c=f)
theorem arO(a b c d e f:Int)(W:World):(binOp .neq 57 (.agg #[A a,A b,A c]) (.agg #[A d,A e,A f])).run prog W=.ok (.bool (!Su a b c d e f)) W:=by go_simp;unfold Su;by_cases g:a=d<;>by_cases h:b=e<;>by_cases i:c=f<;>simp[g,h,i]
theorem arP {l:List eP} (f:Iu a e l) (j:Iu a q l):
  O 108 #[e,q] a λb t=>b=ad (.bool true)/\J a t:=by
 obtain⟨y,ac,rfl,z,u,v⟩:=bz f;obtain⟨B,C,rfl,D,w,x⟩:=bz j;unfold maxLen at u w;go_enter func108,ntmps108;go_wp2;go_loopw [5] (λi wr=>∃k:Nat,k<=l.length/\i=A k/\J a wr) (λi _=>l.length-(intOf i).toNat)
 case atStart=>exact⟨0,b6 _,rfl,ca _ _⟩
 case round=>
  obtain⟨k,E,rfl,c⟩:=hrel;by_cases d:k<l.length
  .obtain⟨g,rfl⟩:=v k d;obtain⟨F,rfl⟩:=x k d;obtain⟨m,n,o⟩:=Iu.cells f (by simp) k d;obtain⟨p,r,s⟩:=Iu.cells j (by simp) k d;replace m:=ak c m;replace n:=ak c n;replace o:=ak c o;replace p:=ak c p;replace r:=ak c r;replace s:=ak c s;have heq:=arO;have I:(!Su l[k].1 l[k].2.1 l[k].2.2 l[k].1 l[k].2.1 l[k].2.2)=false:=by simp[Su]
   go_wp2;go_region
   all_goals go_wp2
   all_goals go_roundw
   case rel=>exact⟨k+1,by omega,by go_num,c.drew⟩
   case measure=>simp[intOf];omega
  go_wp2;go_ret
  exact⟨rfl,c⟩
end
section
variable {a c f h n:Nat}{b l:World}{d e m:Nat->Prop}{i:Value}{j:List PId}{k:gS}{q:Nat->List ay}{r:bx}{s:da}
theorem aft {β:Type}:∀{l m:List (PId×β)},(l.Pairwise λa b=>gj a.1 b.1=true)->(m.Pairwise λa b=>gj a.1 b.1=true)->l.Perm m->l=m
 |[],m,_,_,c=>c.nil_eq
 |a::l,[],_,_,c=>absurd c.length_eq (by simp)
 |a::l,b::m,e,f,c=>by
  obtain⟨g,i⟩:=s9.1 e;obtain⟨j,k⟩:=s9.1 f;have n:a=b:=by
   rcases ft.1 (c.mem_iff.1 (kH (a:=a) (l:=l))) with h|h
   .exact h
   rcases ft.1 (c.mem_iff.2 (kH (a:=b) (l:=m))) with d|d
   .simp_all
   have :=EX (g b d) (j a h);rw[yq]at this;cases this
  subst n;rw[aft i k ((List.perm_cons a).1 c)]
theorem arQ{D:List bA}{x:PId}{a:ByteArray}{m:Int}(h:nh D x a=.error m):x5 D x a=.error m:=by unfold x5;rw[h]
theorem arR(b:a<=4):nC (a+1)<=1125899906842620:=by
 have c:nC 0=1:=rfl;have d:nC 1=2+240*(28+nC 0):=rfl;have e:nC 2=2+240*(28+nC 1):=rfl;have f:nC 3=2+240*(28+nC 2):=rfl;have g:nC 4=2+240*(28+nC 3):=rfl;have h:nC 5=2+240*(28+nC 4):=rfl;have :a=0\/a=1\/a=2\/a=3\/a=4:=by omega
 rcases this with rfl|rfl|rfl|rfl|rfl<;>simp only[sY,Nat.reduceAdd]<;>omega
theorem arS{f:Nat->Int}{g:Nat->Nat}(h:lL c b i ((List.range a).map g))(m:∀d,d<a->f d=(g d:Int)):sL c b i (l3 a f):=by
 have e:∀l:List Nat,(∀d∈l,d<a)->(l.map g).flatMap pU=(l.map f).flatMap BB:=λl k=>by
  induction l with
  |nil=>rfl
  |cons d l ih=>rw[ip,ip,jI,jI,ih λj n=>k j (jk _ n),m d (k d kH)];rfl
 unfold lL at h;unfold sL l3
 simp_all
theorem afu{f:bA->bA}(b:∀o,(f o).id=o.id):∀(l:List bA) (k:Nat),(l.modify k f).map bA.id=l.map bA.id
 |[],_=>by simp
 |a::l,0=>by simp[b]
 |a::l,k+1=>by simp[afu b l k]
theorem afv:∀(S:List bT) (R:List bA),(R.map bA.id).Nodup->(∀p∈S,p.id∉R.map bA.id)->(S.map (·.id)).Nodup->((S.foldl cC R).map bA.id).Nodup
 |[],_,h,_,_=>h
 |p::S,R,h,d,j=>by
  obtain⟨o,k⟩:=oN.1 j;have l:∀q∈S,q.id≠p.id:=by simp_all
  rw[Iz];have g:(cC R p).map bA.id=R.map bA.id++[p.id]\/(cC R p).map bA.id=R.map bA.id:=by
   unfold cC;split
   .simp
   split
   .simp
   exact .inr (afu (aap p) _ _)
  refine afv S _ ?_ (λq f c=> ?_) k
  .rcases g with e|e
   .rw[e];exact nI.2 ⟨h,by simp,λa m b i n=>by rw[fR]at i;subst i n;exact(d p kH) m⟩
   rw[e];exact h
  rcases g with e|e
  .rw[e]at c;rcases dZ.1 c with c|c
   .exact d q (jk _ f) c
   exact l q f (fR.1 c)
  rw[e]at c;exact d q (jk _ f) c
theorem ei.ids(j:ei b f d e c h q r s)(m:a<c):((c1 (r.ar a)).map bA.id).Nodup:=by
 refine afv _ dD (by simp[dD]) (λp t u=> ?_) ?_
 .obtain⟨o,v,rfl⟩:=dF.1 t;obtain⟨g,w,x⟩:=(j.ok.copy a m).bJ v;obtain⟨i,y,z⟩:=agl x;have B:=(j.ok.bJ.id g w i y).2.2;rw[z]at B;simp only[dD,ip,uV,fR,rf]at u
  simp_all
 rw[rz];refine ry.2 ((j.ok.j1 a m).imp λ{k l} n g=> ?_);simp only[Function.comp,rf]at g;rw[g,yq]at n;cases n
theorem ei.arT{M}(i:ei b f d e c h M r s)(p:a<c){k l:Int}{j:ByteArray}{o:bA}{m:List (PId×eP)}(n:bM (c1 (r.ar a)) (k,l)=some o)(t:o.aS=false)(u:lP j=true)(w:m.Perm (fN (s.q a).D.1 (s.q a).D.2 (k,l) j (0,0)).aK)(x:oB (m.map (·.1))):x5 (c1 (r.ar a)) (k,l) j=.ok (m.map (·.2)):=by
 have y:j≠⟨#[]⟩:=λg=>by rw[g]at u;contradiction
 have v:=(rl.of (i.ok.j1 a p)).Fx n j (0,0);rw[<-adH]at v;have g:=aft (ry.1 x) (ry.1 v) (w.trans ((i.lp p).C5 n t y (0,0)).2);unfold x5;rw[Dx n t,u,g,rz];rfl
theorem ei.arU(g:ei b c d e f h q r s)(j:a<f)(w:M6 f q):TR (c1 (r.ar a)):=by
 have k:=g.tK w j;have l:=λ{o:bA} (i:o∈c1 (r.ar a))=>akZ (g.ids j) i
 refine⟨λo i t=> ?_,λo i m n=>cd (k.M5 _ o (l i) m n) (by omega),λo i=>k.vj _ o (l i),λo i m n y x=>.inr ?_,λc z o i=> ?_⟩
 .obtain⟨D,_,u⟩:=((g.doc j).1).br _ o (l i);exact⟨ry.1 (u.Jw t),λm n=>(u.keys t m n).1⟩
 .obtain⟨B,v⟩:=k.zq _ o (l i) m n y x;exact⟨B,akL v,UY v⟩
 have C:Ct (vi (c1 (r.ar a)) c) o.aS (me o)=vi (c1 (r.ar a)) (c+1) o.id:=by show _=(match bM (c1 (r.ar a)) o.id with |some o=>Ct (vi (c1 (r.ar a)) c) o.aS (me o)|none=>⟨#[]⟩);rw[l i]
 have p:=k.adz (g.len j) (c+1) o.id;rw[<-((rl.of (g.ok.j1 a j)).text k (c+1) o.id),<-C]at p;unfold Ct at p;have E:=arR z;split at p<;>simp only[mc]at p<;>omega
def Oh (d w:World) (f:Nat) (F:Nat->Prop) (x r:Nat) (h:Value) (i:List PId) (j l:Nat->Prop) (N m:Nat) (P:gS) (n:Nat) (args:Array Value) (Q:Ending->World->World->Prop) (b:World):Prop:=
 b.heap[f]?=d.heap[f]?/\(∀k,k<w.heap.size->¬F k->b.heap[k]?=w.heap[k]?)/\w.heap.size<=b.heap.size/\
  ∀a,J b a->O n args a λe c=>Q e a c/\(∃g,gT c f g x r h i j l N m P/\dp F g d c/\∀k,g k->F k)/\∀k,d.heap.size<=k->k<a.heap.size->c.heap[k]?=a.heap[k]?
theorem D1 {B:World} (o:gT b f d h a i j e m c n k) (C:J b l) {D:Nat} {args:Array Value} {Q:Ending->World->World->Prop} (u:J l B)
  (F:∀q d L I v,c3 q a d L I c k.S v->O D args q λp w=>Q p q w/\J q w):Oh b l f d h a i j e m c n k D args Q B:=by
 have E:=(o.ak C).fB;obtain⟨⟨M,N,P⟩,x⟩:=afr o C (E.hA u.size λg r=>u.block g (E.lt g r)) (dp.cL u);refine⟨M,N,P,λq R=> ?_⟩;obtain⟨U,W,y⟩:=x q (Loc.cL R);obtain⟨z,X,Y,v,hm,_⟩:=id y;refine(F q z X Y v hm).mono λp w s=>⟨s.1,?_,λg dK dx=>s.2.block g dx⟩
 obtain⟨z,x,cP,gi⟩:=o.both U W (dp.cL s.2) (y.ak s.2.size λg r=>s.2.block g (y.lt g r)) o.rel;refine⟨z,x,cP,λg r=> ?_⟩;rcases gi g r with t|t|t
 .exact t
 .exact o.F0 g t
 exact o.cc g t
theorem arV (g:gT l h d c f i j e m a n k) (v:J l b) (z:Pow b) (C:Int):
  O 28 #[Z c,A C] b λo w=>∃s q,o=ad (.tuple #[.string s,A q])/\Oh l b h d c f i j e m a n k 103 #[Z f,A C] (λo _ _=>o=ad (.tuple #[.string s,A q])) w:=by
 obtain⟨D,E,F,t,I,_⟩:=(g.ak v).fB;by_cases y:0<=C/\C<a
 .obtain⟨p,rfl⟩:∃p:Nat,C=p:=⟨C.toNat,by omega⟩;have u:p<a:=by omega
  refine(anL t z g.rel.tK u).mono λo w r=>⟨_,_,r.1,D1 g v r.2 λB _ _ _ _ x=> ?_⟩
  refine(ain (x.cm.A5 (g.rel.own t u)).toShown (t.arU u g.rel.tK)).mono λo L r=>⟨?_,r.2⟩
  rw[r.1];rw[<-((rl.of (t.ok.j1 p u)).text (t.tK g.rel.tK u) 4 (0,0))];rfl
 exact(aob t.m.j6 C y).mono λo w r=>⟨_,_,r.1,D1 g v r.2 λB _ _ _ _ x=>aim x.cm.bN C y⟩
theorem arW (p:gT l h d f c i j e m a n k) (E:J l b) (C u w:Int):
  O 29 #[Z f,A C,.agg #[A u,A w]] b λg F=>∃v r,∃q:List PId,g=ad (.tuple #[v,A r])/\hR b.heap.size F v q/\Oh l b h d f c i j e m a n k 104 #[Z c,A C,.agg #[A u,A w]] (λg _ M=>∃Q,g=ad (.tuple #[Q,A r])/\fu M Q q/\q.length<=240) F:=by
 obtain⟨oc,od,jG,N,dH,_⟩:=(p.ak E).fB;by_cases R:0<=C/\C<a
 .obtain⟨o,rfl⟩:∃o:Nat,C=o:=⟨C.toNat,by omega⟩;have U:o<a:=by omega
  refine(anm N U u w).mono λg F t=> ?_
  have W:=λB d L I D (y:c3 B c d L I a k.S D)=>aik (y.cm.A5 (p.rel.own N U)).toShown u w
  obtain⟨X,⟨r,x,rfl⟩|⟨v,q,x,_,rfl,al⟩⟩:=t
  .refine⟨_,_,[],rfl,hg _ _ _ _,D1 p E X λB d L I D y=>(W B d L I D y).mono λg M t=> ?_⟩;obtain⟨P,⟨m2,_,z,rfl⟩|⟨v2,db,z,Y,rfl,js⟩⟩:=t
   .rw[show jU (c1 (k.s.ar o)) (u,w)=_ from z]at x;cases x;exact⟨⟨_,rfl,hg _ _ _ _,by simp⟩,P⟩
   rw[show jU (c1 (k.s.ar o)) (u,w)=_ from z]at x;cases x
  refine⟨_,_,q,rfl,al,D1 p E X λB d L I D y=>(W B d L I D y).mono λg M t=> ?_⟩;obtain⟨P,⟨m2,_,z,rfl⟩|⟨v2,db,z,Y,rfl,js⟩⟩:=t
  .rw[show jU (c1 (k.s.ar o)) (u,w)=_ from z]at x;cases x
  rw[show jU (c1 (k.s.ar o)) (u,w)=_ from z]at x;cases x;exact⟨⟨_,rfl,ii js (b6 _),Y⟩,P⟩
 exact(an9 N.m.j6 C R u w).mono λg F t=>⟨_,_,[],t.1,hg _ _ _ _,D1 p E t.2 λB _ _ _ _ y=>(ail y.cm.bN C u w R).mono λg M t=>⟨⟨_,t.1,hg _ _ _ _,by simp⟩,t.2⟩⟩
theorem arX (t:gT l h d f c i j e m a n k) (P:J l b) (C z B:Int) (x:ByteArray) (er:x.size<=maxLen):
  O 24 #[Z f,A C,.agg #[A z,A B],.string x] b λq D=>∃v g,∃p:List eP,q=ad (.tuple #[v,A g])/\qQ b.heap.size D v p/\Oh l b h d f c i j e m a n k 107 #[Z c,A C,.agg #[A z,A B],.string x] (λq _ Q=>∃v',q=ad (.tuple #[v',A g])/\Iu Q v' p/\p.length<=240) D:=by
 obtain⟨oc,od,jG,M,dH,_⟩:=(t.ak P).fB;by_cases hc:0<=C/\C<a
 .obtain⟨r,rfl⟩:∃r:Nat,C=r:=⟨C.toNat,by omega⟩;have R:r<a:=by omega
  refine(apo M R z B x er).mono λq D y=> ?_
  obtain⟨ah,y⟩:=y;obtain⟨g,p,U,w⟩:∃g p,(∃v,q=ad (.tuple #[v,A g])/\qQ b.heap.size D v p)/\((x5 (c1 (k.s.ar r)) (z,B) x=.error g/\p=[])\/(x5 (c1 (k.s.ar r)) (z,B) x=.ok p/\g=0)):=by
   rcases y with⟨g,W,E⟩|⟨o,u,aK,al,b3,W,E,au,aE,hu⟩
   .exact⟨g,[],⟨_,E,hg _ _ _ _⟩,.inl ⟨arQ W,rfl⟩⟩
   exact⟨0,_,⟨u,E,hu⟩,.inr ⟨M.arT R al b3 W au aE,rfl⟩⟩
  obtain⟨v,E,U⟩:=U;refine⟨v,g,p,E,U,D1 t P ah λN d L I X F=>((λN d L I X (F:c3 N c d L I a k.S X)=>aip (F.cm.A5 (t.rel.own M R)).toShown z B x er) N d L I X F).mono λq Q y=> ?_⟩;obtain⟨k7,⟨m2,_,Y,rfl⟩|⟨v2,db,Y,eb,rfl,js⟩⟩:=y
  .rw[show x5 (c1 (k.s.ar r)) (z,B) x=_ from Y]at w;rcases w with⟨w,rfl⟩|⟨w,_⟩
   .cases w;exact⟨⟨_,rfl,hg _ _ _ _,by simp⟩,k7⟩
   cases w
  rw[show x5 (c1 (k.s.ar r)) (z,B) x=_ from Y]at w;rcases w with⟨w,_⟩|⟨w,rfl⟩
  .cases w
  cases w;exact⟨⟨_,rfl,ii js (b6 _),eb⟩,k7⟩
 exact(aoa M.m.j6 C hc z B x).mono λq D y=>⟨_,_,[],y.1,hg _ _ _ _,D1 t P y.2 λN _ _ _ _ F=>(aiq F.cm.bN C z B x hc).mono λq Q y=>⟨⟨_,y.1,hg _ _ _ _,by simp⟩,y.2⟩⟩
theorem arY (p:gT l h d c f i j e m a n k) (x:J l b) (C:Int):
  O 25 #[Z c,A C] b λg w=>∃v r,∃q:List Int,g=ad (.tuple #[v,A r])/\sL b.heap.size w v q/\Oh l b h d c f i j e m a n k 110 #[Z f,A C] (λg _ y=>∃E,g=ad (.tuple #[E,A r])/\sL 0 y E q/\q.length<=240) w:=by
 obtain⟨U,W,X,z,Y,_⟩:=(p.ak x).fB;by_cases F:0<=C/\C<a
 .obtain⟨o,rfl⟩:∃o:Nat,C=o:=⟨C.toNat,by omega⟩;have B:o<a:=by omega
  have hN:=z.m.hN;refine(amA z.m o B).mono λg w t=> ?_
  obtain⟨u,rfl,M,N⟩:=t;refine⟨u,0,_,rfl,M,D1 p x N λP d L I kn D=>(apv D.cm.bN o B).mono λg y t=> ?_⟩;obtain⟨u2,rfl,Q,R⟩:=t;refine⟨⟨u2,rfl,?_,by rw[rW];omega⟩,R⟩;exact arS (ii Q (b6 _)) λs S=>p.rel.rel.ai o B s S
 exact(aoc z.m.j6 C F).mono λg w t=>⟨_,_,[],t.1,hg _ _ _ _,D1 p x t.2 λP _ _ _ _ D=>(apu D.cm.bN C F).mono λg y t=>⟨⟨_,t.1,hg _ _ _ _,by simp⟩,by rw[t.2];exact ca _ _⟩⟩
theorem arZ {w:World} {m:Nat} {dA cq dw cf:Value} {d:List Nat} {a:Option Addr} {n c:Nat} (aG:w.heap[m]?=some (.cells #[dA,cq,dw,cf] 84)) (pb:d.length<2000000000000) (hn:n<2000000000000) (aE:w.ownsRow 0 140 1 dw d.length (d.flatMap ml)) (hl:Shape 57 3 w (.slice a n c) n):
  O 109 #[.pointer (some ⟨m,1,none⟩),.slice a n c] w λe w'=>e=.returned (.tuple #[])/\DV 57 53 140 3 #[.int .i64 (-7070-(d.length:Int)),.int .i64 0,.int .i64 0] w m (.slice a n c) dw d n (λx=> #[dA,cq,x,cf]) w':=by
 obtain⟨D,ac,rfl,pb,vX,wi⟩:=bz aE;have y1:w.cell? ⟨m,2,none⟩=some (.slice D d.length ac):=by simp[World.cell?,aG]
 have Fi:IntKind.i64.wrap (-7070-(d.length:Int))= -7070-(d.length:Int):=mN _ (by omega);have R:=ag hl;have yT:=ag hl;have iA:=ag aG;have dS:=ag aE;clear aG aE wi;have wj:=ag (show ∀q,w.heap.size<=q->¬((Value.slice a n c).ownBlock=some q) from λq f B=>by have :=hl.lt q B;omega);have E:=ag (bZ w (.cells #[.int .i64 (-7070-(d.length:Int)),.int .i64 0,.int .i64 0] 57));clear hl;go_enter func109,ntmps109;go_wp2_with fail
 go_cut [5] (λp wc=>∃l,p=.slice (some ⟨l,0,none⟩) 4 4/\∃U,Nm 57 53 3 #[.int .i64 (-7070-(d.length:Int)),.int .i64 0,.int .i64 0] w (.slice a n c) n l U wc)
 case first =>
  go_region_held3 (λW=>W.cell? ⟨w.heap.size,0,none⟩=some (.int .i64 (-7070-(d.length:Int)))/\W.cell? ⟨w.heap.size,1,none⟩=some (.int .i64 0)/\W.cell? ⟨w.heap.size,2,none⟩=some (.int .i64 0)) (first |exact Io (t:=57) (by(repeat(first |exact F.o|exact N.o|exact P.o|exact E.o|exact oI (by first |rfl|(simp;done)|(simp;omega))|refine(eX (by first |omega|(simp;done)|(simp;omega))).trans ?_|refine(I.o _ (by first |omega|(simp;done)|(simp;omega)) (by first |omega|(simp;done)|(simp;omega))).trans ?_|refine(L.o _ (by first |omega|(simp;done)|(simp;omega)) (by first |omega|(simp;done)|(simp;omega))).trans ?_|refine(M.o _ (by first |omega|(simp;done)|(simp;omega)) (by first |omega|(simp;done)|(simp;omega))).trans ?_))))
   (first
    |(refine KO 3 24 53 57 (.agg #[.int .i64 0,.int .i64 0,.int .i64 0]) (by kernel_rfl) underlying53 rfl (by omega) (by rfl) (.tmp 16) (.tmp 18) (by rfl) (.slice a n c) n (by rfl) (R.o.same (cA.s (by(repeat(first |exact S.o|exact X.o|exact cA.refl _ _ _|refine cA.alloc ?_ _|refine cA.drew ?_)):cA 57 (.slice a n c) w _))) _ 1 1 (by omega) (by rfl) (cs:= #[.int .i64 (-7070-(d.length:Int)),.int .i64 0,.int .i64 0]) (by(repeat(first |exact F.o|exact N.o|exact P.o|exact E.o|exact oI (by first |rfl|(simp;done)|(simp;omega))|refine(eX (by first |omega|(simp;done)|(simp;omega))).trans ?_|refine(I.o _ (by first |omega|(simp;done)|(simp;omega)) (by first |omega|(simp;done)|(simp;omega))).trans ?_|refine(L.o _ (by first |omega|(simp;done)|(simp;omega)) (by first |omega|(simp;done)|(simp;omega))).trans ?_|refine(M.o _ (by first |omega|(simp;done)|(simp;omega)) (by first |omega|(simp;done)|(simp;omega))).trans ?_))) (by rfl) (by simp[Value.oneCell']) (by omega) (by unfold maxLen;omega) ?_;intro ck bm w1 hG ie aA;have hz1:=ie.t.size;(try simp at hz1);have iQ:=ag hG;have X:=ag (cA.trans (by(repeat(first |exact S.o|exact X.o|exact cA.refl _ _ _|refine cA.alloc ?_ _|refine cA.drew ?_)):cA 57 (.slice a n c) w _) ie);have M:=ag (λq f (jb:w.heap.size<=q)=>ie.t.other q f (wj.o q jb));have P:=ag (show w1.heap[w.heap.size]?=some (.cells #[.int .i64 (-7070-(d.length:Int)),.int .i64 0,.int .i64 0] 57) from(M.o _ (by first |omega|(simp;done)|(simp;omega)) (bW _)).trans (by(repeat(first |exact F.o|exact N.o|exact P.o|exact E.o|exact oI (by first |rfl|(simp;done)|(simp;omega))|refine(eX (by first |omega|(simp;done)|(simp;omega))).trans ?_|refine(I.o _ (by first |omega|(simp;done)|(simp;omega)) (by first |omega|(simp;done)|(simp;omega))).trans ?_|refine(L.o _ (by first |omega|(simp;done)|(simp;omega)) (by first |omega|(simp;done)|(simp;omega))).trans ?_|refine(M.o _ (by first |omega|(simp;done)|(simp;omega)) (by first |omega|(simp;done)|(simp;omega))).trans ?_))));have fb:(Value.slice a n c).ownBlock=some ck\/w.heap.size<ck:=(aA.imp id (λB=>by(try simp at B);omega));clear hG ie aA)
    |(refine KO 3 24 53 57 (.agg #[.int .i64 0,.int .i64 0,.int .i64 0]) (by kernel_rfl) underlying53 rfl (by omega) (by rfl) (.tmp 20) (.tmp 23) (by rfl) (.slice a n c) n (by rfl) (R.o.same (cA.s (by(repeat(first |exact S.o|exact X.o|exact cA.refl _ _ _|refine cA.alloc ?_ _|refine cA.drew ?_)):cA 57 (.slice a n c) w _))) _ 2 2 (by omega) (by rfl) (cs:= #[.int .i64 (-7070-(d.length:Int)),.int .i64 0,.int .i64 0,.int .i64 (-7070-(d.length:Int)),.int .i64 0,.int .i64 0]) (by(repeat(first |exact F.o|exact N.o|exact P.o|exact E.o|exact oI (by first |rfl|(simp;done)|(simp;omega))|refine(eX (by first |omega|(simp;done)|(simp;omega))).trans ?_|refine(I.o _ (by first |omega|(simp;done)|(simp;omega)) (by first |omega|(simp;done)|(simp;omega))).trans ?_|refine(L.o _ (by first |omega|(simp;done)|(simp;omega)) (by first |omega|(simp;done)|(simp;omega))).trans ?_|refine(M.o _ (by first |omega|(simp;done)|(simp;omega)) (by first |omega|(simp;done)|(simp;omega))).trans ?_))) (by rfl) (by simp[Value.oneCell']) (by omega) (by unfold maxLen;omega) ?_;intro a2 bq w2 gx iW bo;have hz2:=iW.t.size;(try simp at hz2);replace iQ:=ag (iQ.o.same ((cA.s (by(repeat(first |exact cA.refl _ _ _|refine cA.alloc ?_ _|refine cA.drew ?_)):cA 57 (.slice a n c) w1 _)).trans iW.s));have xv:=ag gx;have S:=ag (cA.trans (by(repeat(first |exact S.o|exact X.o|exact cA.refl _ _ _|refine cA.alloc ?_ _|refine cA.drew ?_)):cA 57 (.slice a n c) w _) iW);have L:=ag (λq f (jb:w.heap.size<=q)=>iW.t.other q f (wj.o q jb));have N:=ag (show w2.heap[w.heap.size]?=some (.cells #[.int .i64 (-7070-(d.length:Int)),.int .i64 0,.int .i64 0] 57) from(L.o _ (by first |omega|(simp;done)|(simp;omega)) (bW _)).trans (by(repeat(first |exact F.o|exact N.o|exact P.o|exact E.o|exact oI (by first |rfl|(simp;done)|(simp;omega))|refine(eX (by first |omega|(simp;done)|(simp;omega))).trans ?_|refine(I.o _ (by first |omega|(simp;done)|(simp;omega)) (by first |omega|(simp;done)|(simp;omega))).trans ?_|refine(L.o _ (by first |omega|(simp;done)|(simp;omega)) (by first |omega|(simp;done)|(simp;omega))).trans ?_|refine(M.o _ (by first |omega|(simp;done)|(simp;omega)) (by first |omega|(simp;done)|(simp;omega))).trans ?_))));have kM:(Value.slice a n c).ownBlock=some a2\/w.heap.size<a2:=(bo.imp id (λB=>by(try simp at B);omega));clear gx iW bo)
    |(refine KO 3 24 53 57 (.agg #[.int .i64 0,.int .i64 0,.int .i64 0]) (by kernel_rfl) underlying53 rfl (by omega) (by rfl) (.tmp 25) (.tmp 29) (by rfl) (.slice a n c) n (by rfl) (R.o.same (cA.s (by(repeat(first |exact S.o|exact X.o|exact cA.refl _ _ _|refine cA.alloc ?_ _|refine cA.drew ?_)):cA 57 (.slice a n c) w _))) _ 3 3 (by omega) (by rfl) (cs:= #[.int .i64 (-7070-(d.length:Int)),.int .i64 0,.int .i64 0,.int .i64 (-7070-(d.length:Int)),.int .i64 0,.int .i64 0,.int .i64 (-7070-(d.length:Int)),.int .i64 0,.int .i64 0]) (by(repeat(first |exact F.o|exact N.o|exact P.o|exact E.o|exact oI (by first |rfl|(simp;done)|(simp;omega))|refine(eX (by first |omega|(simp;done)|(simp;omega))).trans ?_|refine(I.o _ (by first |omega|(simp;done)|(simp;omega)) (by first |omega|(simp;done)|(simp;omega))).trans ?_|refine(L.o _ (by first |omega|(simp;done)|(simp;omega)) (by first |omega|(simp;done)|(simp;omega))).trans ?_|refine(M.o _ (by first |omega|(simp;done)|(simp;omega)) (by first |omega|(simp;done)|(simp;omega))).trans ?_))) (by rfl) (by simp[Value.oneCell']) (by omega) (by unfold maxLen;omega) ?_;intro a3 ce w3 pA Y bu;have ox:=Y.t.size;(try simp at ox);replace iQ:=ag (iQ.o.same ((cA.s (by(repeat(first |exact cA.refl _ _ _|refine cA.alloc ?_ _|refine cA.drew ?_)):cA 57 (.slice a n c) w2 _)).trans Y.s));replace xv:=ag (xv.o.same ((cA.s (by(repeat(first |exact cA.refl _ _ _|refine cA.alloc ?_ _|refine cA.drew ?_)):cA 57 (.slice a n c) w2 _)).trans Y.s));have gE:=ag pA;have iZ:=ag (cA.trans (by(repeat(first |exact S.o|exact X.o|exact cA.refl _ _ _|refine cA.alloc ?_ _|refine cA.drew ?_)):cA 57 (.slice a n c) w _) Y);have I:=ag (λq f (jb:w.heap.size<=q)=>Y.t.other q f (wj.o q jb));have F:=ag (show w3.heap[w.heap.size]?=some (.cells #[.int .i64 (-7070-(d.length:Int)),.int .i64 0,.int .i64 0] 57) from(I.o _ (by first |omega|(simp;done)|(simp;omega)) (bW _)).trans (by(repeat(first |exact F.o|exact N.o|exact P.o|exact E.o|exact oI (by first |rfl|(simp;done)|(simp;omega))|refine(eX (by first |omega|(simp;done)|(simp;omega))).trans ?_|refine(I.o _ (by first |omega|(simp;done)|(simp;omega)) (by first |omega|(simp;done)|(simp;omega))).trans ?_|refine(L.o _ (by first |omega|(simp;done)|(simp;omega)) (by first |omega|(simp;done)|(simp;omega))).trans ?_|refine(M.o _ (by first |omega|(simp;done)|(simp;omega)) (by first |omega|(simp;done)|(simp;omega))).trans ?_))));have jC:(Value.slice a n c).ownBlock=some a3\/w.heap.size<a3:=(bu.imp id (λB=>by(try simp at B);omega));clear pA Y bu))
  all_goals(go_wp2_with fail;go_meet)
  all_goals exact⟨_,rfl,Yj (bZ w3 _) ((eX (by omega)).trans F.o) (R.o.same (iZ.o.alloc _).s) (iQ.o.same ((cA.refl 57 (.slice a n c) w3).alloc _).s) (xv.o.same ((cA.refl 57 (.slice a n c) w3).alloc _).s) (gE.o.same ((cA.refl 57 (.slice a n c) w3).alloc _).s) fb kM jC (iZ.o.alloc _).t (by omega)⟩
 case rest=>
  obtain⟨l,rfl,U,yn⟩:=hcut;have F1:=ag R.o.lt;clear E wj R;go_wp2;go_loopw [6] (λi wr=>∃k:Nat,k<=4/\i=.int .i64 k/\yW 57 53 3 #[.int .i64 (-7070-(d.length:Int)),.int .i64 0,.int .i64 0] w (.slice a n c) n l U k 0 wr) (λi _=>4-(intOf i).toNat)
  case atStart=>exact⟨0,by omega,rfl,yn,λmH h=>absurd h (xK _),lq.zero _ _ _ _⟩
  case round=>
   obtain⟨k,hk,rfl,pc⟩:=hrel;obtain⟨r,zM⟩:∃r,r=wr:=⟨_,rfl⟩;subst zM;by_cases aL:k<4
   .obtain⟨Oa,Is,hu,kf⟩:=pc.hC.form aL;have ul:=ag kf;clear kf;have Ob:=ag pc;clear pc yn;have jY:(0:Int)<=(k:Int):=kG _;have tA:(k:Int)<4:=by omega
    go_wp2;go_loopw [7] (λi iJ=>∃j:Nat,j<=n+k/\i=.int .i64 j/\yW 57 53 3 #[.int .i64 (-7070-(d.length:Int)),.int .i64 0,.int .i64 0] w (.slice a n c) n l U k j iJ) (λi _=>n+k-(intOf i).toNat)
    case atStart=>exact⟨0,b6 _,rfl,Ob.o⟩
    case round=>
     obtain⟨j,aB,rfl,f⟩:=hrel;have fm:=f.hC.cell aL;rw[hu]at fm;by_cases iV:j<n+k
     .obtain⟨g,rfl⟩:=ul.o j iV;have Q:=f.hC.s k aL;rw[hu]at Q;obtain⟨u0,t0⟩:=Q.cell (q:=0) iV (by omega);obtain⟨u1,t1⟩:=Q.cell (q:=1) iV (by omega);obtain⟨u2,t2⟩:=Q.cell (q:=2) iV (by omega);have avC:=Q.Cn;obtain⟨z0,z1,z2⟩:=Io f.hC.z;have DT:w.heap.size≠g:=λv=>by
       rcases f.hC.b k aL g (by rw[hu];rfl) with h1|h1
       .have :=F1.o _ h1;omega
       omega
      have j9:=ag f;clear f;simp only[r9]at t0;have Ej:(0:Int)<=(j:Int):=kG _;have uG:(j:Int)<((n+k:Nat):Int):=by omega
      have n1:l≠g:=λv=>by subst v;obtain⟨cur,C⟩:=Q.type rfl;exact absurd (cQ j9.o.hC.row C) (by decide)
      clear Q;go_wp2_with fail
      go_region_held3 (λW=>W.cell? ⟨l,k,none⟩=some (.slice (some ⟨g,0,none⟩) (n+k) Is)/\W.cell? ⟨w.heap.size,0,none⟩=some (.int .i64 (-7070-(d.length:Int)))/\W.cell? ⟨w.heap.size,1,none⟩=some (.int .i64 0)/\W.cell? ⟨w.heap.size,2,none⟩=some (.int .i64 0)) (first |exact⟨fm,z0,z1,z2⟩|exact⟨(wo (DU [.int .i64 (-7070-(d.length:Int)),.int .i64 0,.int .i64 0] (j*3) wr l n1)).trans fm,(wo (DU [.int .i64 (-7070-(d.length:Int)),.int .i64 0,.int .i64 0] (j*3) wr w.heap.size DT)).trans z0,(wo (DU [.int .i64 (-7070-(d.length:Int)),.int .i64 0,.int .i64 0] (j*3) wr w.heap.size DT)).trans z1,(wo (DU [.int .i64 (-7070-(d.length:Int)),.int .i64 0,.int .i64 0] (j*3) wr w.heap.size DT)).trans z2⟩) (fail)
      all_goals go_wp2
      all_goals go_roundw
      case rel=>exact⟨j+1,by omega,by go_num,(j9.o.next F1.o (by decide) rfl aL hu iV).drew⟩
      case measure=>simp[intOf];omega
     have tx:j=n+k:=by omega
     subst tx;go_wp2;go_roundw
     case rel=>
      refine⟨k+1,by omega,by go_num,f.hC,λmH ff=> ?_,lq.zero _ _ _ _⟩;by_cases zG:mH=k
      .subst zG;exact f.part
      exact f.full mH (by omega)
     case measure=>simp[intOf];omega
   have tA:k=4:=by omega
   subst tA;have y:=ag pc.hC;have qz:=ag (show ∀i,i<4->lq 3 #[.int .i64 (-7070-(d.length:Int)),.int .i64 0,.int .i64 0].toList r (U i) (n+i) from pc.full);clear pc;have AG:¬((Value.slice a n c).ownBlock=some m):=λB=>by obtain⟨cur,C⟩:=yT.o.type B;exact absurd (cQ C iA.o) (by decide)
   have eD:=ag ((y.o.t.other m (aU iA.o) AG).trans iA.o);have Ik:∀q,(Value.slice D d.length ac).ownBlock=some q->¬((Value.slice a n c).ownBlock=some q):=λq h1 h2=>by obtain⟨cur,C⟩:=b0 dS.o h1;obtain⟨Oc,gP⟩:=yT.o.type h2;exact absurd (cQ C gP) (by decide)
   have jf:=ag (cu dS.o (w':=r) λq f=>y.o.t.other q (cX dS.o q f).2 (Ik q f));have avD:r.cell? ⟨m,2,none⟩=some (.slice D d.length ac):=by simp[World.cell?,eD.o]
   have dG:=aU eD.o;have li:=ag (show(r.alloc (.cells #[.slice (some ⟨l,0,none⟩) 4 4] 140)).ownsRow 0 140 1 (.slice D d.length ac) d.length (d.flatMap ml) from dI jf.o (by go_grown));have th:=ag (show ∀j u,(ml l)[j]?=some u->(r.alloc (.cells #[.slice (some ⟨l,0,none⟩) 4 4] 140)).cell? ⟨r.heap.size,j,none⟩=some u from one_cell (by simp[go_sem]));have r2:=ag (show some m≠(Value.slice D d.length ac).ownBlock from λv=>by exact iX jf.o v.symm eD.o (by decide))
   go_wp2_with (first
    |(at_builtin;refine CV ml 1 24 79 140 (.slice none 0 0) (by kernel_rfl) underlying79 rfl (by omega) (λ_=>rfl) rfl (.tmp 58) (.tmp 60) rfl 0 (.slice D d.length ac) d rfl li.o r.heap.size 1 l rfl th.o (by simp[ml,Value.oneCell']) (by omega) (by unfold maxLen;omega) (b6 _) ?_;intro v4 w4 hM eF iu;have fU:=ag hM;have mE:=ag eF;have ny:=ag iu;have hr:=ag ((eF.block m (by simp;omega) r2.o).trans ((eX (by omega)).trans eD.o));clear hM eF iu;obtain⟨a4,lo,rfl,xg,yo,yp⟩:=bz fU.o;clear xg yo yp;have bq:w4.cell? ⟨m,2,none⟩=some (.slice D d.length ac):=(by simp[World.cell?,hr.o]);have xX:=cV hr.o 2))
   have vG:(Value.slice a4 (d.length+1) lo).ownBlock≠some m:=λv=>by exact iX fU.o v hr.o (by decide)
   have k3:∀(q:Nat) (cur:Array Value) (t:TypeId),r.heap[q]?=some (.cells cur t)->t≠140->t≠84->(w4.setCell ⟨m,2,none⟩ (.slice a4 (d.length+1) lo)).heap[q]?=r.heap[q]?:=λq cur t f h1 h2=>by
    have Od:q≠m:=λv=>by subst v;exact h2 (cQ f eD.o)
    have HN:some q≠(Value.slice D d.length ac).ownBlock:=λv=>by obtain⟨Oc,C⟩:=b0 jf.o v.symm;exact h1 (cQ f C)
    have Df:=aU f;exact(dE Od).trans ((mE.o.block q (by simp;omega) HN).trans (eX (by omega)))
   go_end0
   refine⟨rfl,.slice a4 (d.length+1) lo,l,U,T4 hr.o,kd fU.o vG _,?_,?_,?_,y.o.gl,y.o.b⟩
   .exact(y.o.t.mono λq f=>.inr (.inl f)).trans ((aR.cL (aV r _)).trans ((aR.up mE.o λq f=>.inr (.inr f)).trans (aR.it _ (.inl rfl))))
   .exact ny.o.mono (cd y.o.t.size (by simp))
   refine wh.ak ⟨y.o.row,y.o.s,qz.o⟩ (k3 l _ 53 y.o.row (by decide) (by decide)) λi hi g aq=> ?_
   obtain⟨cur,C⟩:=(y.o.s i hi).type aq;exact k3 g _ 57 C (by decide) (by decide)
end
section
attribute [local go_sem ↓] Go.wp_at_zero Go.wp_at_succ
variable {a d e:Nat}{b:Nat->Prop}{c:World}
theorem ar0 {w:World} {F:Nat->Prop} {l:Nat} (h:lN w e F l) {gy:Nat} (o:kU) (v:o.aM=9) (y:Pow w):
  O 69 #[Z gy,Z e,.agg #[A o.aM,A o.r,A o.c,A o.d,A o.i1,A o.i2,A o.bJ,.string o.key,A o.a,A o.b,.bool o.yes]] w λf n=>f=ad (.bool true)/\∃g,lN n e g l/\dp F g w n/\∀k,g k->F k:=by
 obtain⟨x,r,z,B,C,D,N,E,P,I,h⟩:=h;rw[v];have p:=aV w (.cells #[A 9,A o.r,A o.c,A o.d,A o.i1,A o.i2,A o.bJ,.string o.key,A o.a,A o.b,.bool o.yes] 87);have j:=bZ w (.cells #[A 9,A o.r,A o.c,A o.d,A o.i1,A o.i2,A o.bJ,.string o.key,A o.a,A o.b,.bool o.yes] 87);have L:=bB h.bb p;have dG:=h.lt _ h.gK;go_enter func69,ntmps69;go_wp2_with fail
 go_region_held3 (λW=>W.cell? (H e)=some (Z x)/\W.cell? (K e 1)=some (Z r)/\W.cell? (V w 0)=some (A 9)/\W.cell? (V w 2)=some (A o.c)/\W.cell? (V w 4)=some (A o.i1)/\W.cell? (V w 5)=some (A o.i2)/\W.cell? (V w 7)=some (.string o.key)/\W.cell? (V w 8)=some (A o.a)/\W.cell? (V w 9)=some (A o.b)/\W.cell? (V w 10)=some (.bool o.yes)) (first |exact fg L j|exact fg q.o i.o)
  (first |(go_at_call 28;refine((λW (t:J w W)=>arV h t (y.ak t) o.c) _ p.drew).mono ?_;rintro f M ⟨s,m,rfl,Q,R,hG,S⟩;have q:=ag (Q.trans h.bb);have i:=ag ((R w.heap.size (aU j) ((show ∀k,w.heap.size<=k->¬F k from λk hk hF=>by have :=h.lt k hF;omega) _ (bW _))).trans j)))
 go_wp2_with fail
 go_region_held3 (λW=>W.cell? (H e)=some (Z x)/\W.cell? (K e 1)=some (Z r)/\W.cell? (V w 0)=some (A 9)/\W.cell? (V w 2)=some (A o.c)/\W.cell? (V w 4)=some (A o.i1)/\W.cell? (V w 5)=some (A o.i2)/\W.cell? (V w 7)=some (.string o.key)/\W.cell? (V w 8)=some (A o.a)/\W.cell? (V w 9)=some (A o.b)/\W.cell? (V w 10)=some (.bool o.yes)) (first |exact fg q.o i.o|exact fg U.o X.o)
  (first |(go_at_call 103;refine(S _ ((gb M))).mono ?_;rintro f w2 ⟨rfl,⟨g,u,Y,gx⟩,iN⟩;have U:=ag u.bb;have X:=ag ((iN w.heap.size (bW _) (aU i.o)).trans i.o)))
 go_wp2;go_ret
 exact⟨rfl,g,⟨x,r,z,B,C,D,N,E,P,I,u⟩,Y,gx⟩
theorem ar1 {w:World} {i:Nat} {F:Nat->Prop} {I:Nat} (h:lN w i F I) (o:kU) (fq:o.aM=10) {L t M Q:Value} {j:List Nat} (z:w.heap[e]?=some (.cells #[L,t,M,Q] 84)) (Oi:¬F e) (pb:j.length<2000000000000) (R:w.ownsRow 0 138 1 t j.length (j.flatMap ml)) (Oj:∀k,(t).ownBlock=some k->¬F k):
  O 69 #[Z e,Z i,.agg #[A o.aM,A o.r,A o.c,A o.d,A o.i1,A o.i2,A o.bJ,.string o.key,A o.a,A o.b,.bool o.yes]] w λf w'=>f=ad (.bool true)/\∃wm v n p,lN wm i p I/\dp F p w wm/\(∀k,p k->F k)/\(∀k,v.ownBlock=some k->w.heap.size<=k)/\wm.heap[e]?=w.heap[e]?/\DV 36 65 138 2 #[A (-7070),A j.length] wm e v t j n (λx=> #[L,x,M,Q]) w':=by
 obtain⟨x,r,bG,bv,cJ,cU,N,sp,P,jS,h⟩:=h;rw[fq];have S:=aV w (.cells #[A 10,A o.r,A o.c,A o.d,A o.i1,A o.i2,A o.bJ,.string o.key,A o.a,A o.b,.bool o.yes] 87);have B:=bZ w (.cells #[A 10,A o.r,A o.c,A o.d,A o.i1,A o.i2,A o.bJ,.string o.key,A o.a,A o.b,.bool o.yes] 87);have iL:=bB h.bb S;have dG:=h.lt _ h.gK;go_enter func69,ntmps69;go_wp2_with fail
 go_region_held3 (λW=>W.cell? (H i)=some (Z x)/\W.cell? (K i 1)=some (Z r)/\W.cell? (V w 0)=some (A 10)/\W.cell? (V w 2)=some (A o.c)/\W.cell? (V w 4)=some (A o.i1)/\W.cell? (V w 5)=some (A o.i2)/\W.cell? (V w 7)=some (.string o.key)/\W.cell? (V w 8)=some (A o.a)/\W.cell? (V w 9)=some (A o.b)/\W.cell? (V w 10)=some (.bool o.yes)) (first |exact fg iL B|exact fg U.o u.o)
  (first |(go_at_call 29;refine((λW (ah:J w W)=>arW h ah o.c o.i1 o.i2) _ S.drew).mono ?_;rintro f w1 ⟨v,m,l,rfl,mg,e9,dK,hG,ie⟩;have U:=ag (e9.trans h.bb);have u:=ag ((dK w.heap.size (aU B) ((show ∀k,w.heap.size<=k->¬F k from λk X hF=>by have :=h.lt k hF;omega) _ (bW _))).trans B);have y:=ii mg (show w.heap.size<=_ by first |omega|(simp;done)|(simp;omega));obtain⟨dQ,dL,rfl,Ew,zd,Cs⟩:=bz y))
 go_wp2_with fail
 go_region_held3 (λW=>W.cell? (H i)=some (Z x)/\W.cell? (K i 1)=some (Z r)/\W.cell? (V w 0)=some (A 10)/\W.cell? (V w 2)=some (A o.c)/\W.cell? (V w 4)=some (A o.i1)/\W.cell? (V w 5)=some (A o.i2)/\W.cell? (V w 7)=some (.string o.key)/\W.cell? (V w 8)=some (A o.a)/\W.cell? (V w 9)=some (A o.b)/\W.cell? (V w 10)=some (.bool o.yes)) (first |exact fg U.o u.o|exact fg ev.o c7.o)
  (first |(go_at_call 104;refine(ie _ ((gb w1))).mono ?_;rintro f w2 ⟨⟨v2,rfl,Y,eb⟩,⟨p,iI,C,gx⟩,iN⟩;have ev:=ag iI.bb;have c7:=ag ((iN w.heap.size (bW _) (aU u.o)).trans u.o);have D:=cu y (λq s=>iN q (cX y q s).1 (cX y q s).2);obtain⟨a2,bq,rfl,afw,afx,afy⟩:=bz Y))
 have E:=(C.other e (aU z) Oi).trans z;go_wp2_with (first
  |(go_at_call 105;refine(arN (ii D (b6 _)) Y).mono ?_;rintro f w3 ⟨rfl,g⟩)
  |(go_at_call 106;refine((λky (g:J w2 ky)=>art (bB E g) pb (show l.length<2000000000000 by omega) (dI (cu R λq s=>C.other q (cX R q s).2 (Oj q s)) g) ⟨_,dI (ii D (b6 _)) g⟩) w3 g).mono ?_;rintro f w4 ⟨rfl,iu⟩))
 go_ret
 exact⟨rfl,w3,_,_,p,⟨x,r,bG,bv,cJ,cU,N,sp,P,jS,iI.ak g⟩,C.after g,gx,λk X=>(cX D k X).1,(g.block e (aU E)).trans (E.trans z.symm),iu⟩
theorem ar2 {w:World} {i:Nat} {F:Nat->Prop} {I:Nat} (h:lN w i F I) (o:kU) (fq:o.aM=11) {L M t Q:Value} {j:List Nat} (z:w.heap[e]?=some (.cells #[L,M,t,Q] 84)) (Oi:¬F e) (pb:j.length<2000000000000) (R:w.ownsRow 0 140 1 t j.length (j.flatMap ml)) (Oj:∀k,(t).ownBlock=some k->¬F k) (er:o.key.size<=maxLen):
  O 69 #[Z e,Z i,.agg #[A o.aM,A o.r,A o.c,A o.d,A o.i1,A o.i2,A o.bJ,.string o.key,A o.a,A o.b,.bool o.yes]] w λf w'=>f=ad (.bool true)/\∃wm v n p,lN wm i p I/\dp F p w wm/\(∀k,p k->F k)/\(∀k,v.ownBlock=some k->w.heap.size<=k)/\wm.heap[e]?=w.heap[e]?/\DV 57 53 140 3 #[A (-7070-(j.length:Int)),A 0,A 0] wm e v t j n (λx=> #[L,M,x,Q]) w':=by
 obtain⟨x,r,bG,bv,cJ,cU,N,sp,P,jS,h⟩:=h;rw[fq];have S:=aV w (.cells #[A 11,A o.r,A o.c,A o.d,A o.i1,A o.i2,A o.bJ,.string o.key,A o.a,A o.b,.bool o.yes] 87);have B:=bZ w (.cells #[A 11,A o.r,A o.c,A o.d,A o.i1,A o.i2,A o.bJ,.string o.key,A o.a,A o.b,.bool o.yes] 87);have iL:=bB h.bb S;have dG:=h.lt _ h.gK;go_enter func69,ntmps69;go_wp2_with fail
 go_region_held3 (λW=>W.cell? (H i)=some (Z x)/\W.cell? (K i 1)=some (Z r)/\W.cell? (V w 0)=some (A 11)/\W.cell? (V w 2)=some (A o.c)/\W.cell? (V w 4)=some (A o.i1)/\W.cell? (V w 5)=some (A o.i2)/\W.cell? (V w 7)=some (.string o.key)/\W.cell? (V w 8)=some (A o.a)/\W.cell? (V w 9)=some (A o.b)/\W.cell? (V w 10)=some (.bool o.yes)) (first |exact fg iL B|exact fg U.o u.o)
  (first |(go_at_call 24;refine((λW (ah:J w W)=>arX h ah o.c o.i1 o.i2 o.key er) _ S.drew).mono ?_;rintro f w1 ⟨v,m,l,rfl,mg,e9,dK,hG,ie⟩;have U:=ag (e9.trans h.bb);have u:=ag ((dK w.heap.size (aU B) ((show ∀k,w.heap.size<=k->¬F k from λk X hF=>by have :=h.lt k hF;omega) _ (bW _))).trans B);have y:=ii mg (show w.heap.size<=_ by first |omega|(simp;done)|(simp;omega));obtain⟨dQ,dL,rfl,Ew,zd,Cs⟩:=bz y))
 go_wp2_with fail
 go_region_held3 (λW=>W.cell? (H i)=some (Z x)/\W.cell? (K i 1)=some (Z r)/\W.cell? (V w 0)=some (A 11)/\W.cell? (V w 2)=some (A o.c)/\W.cell? (V w 4)=some (A o.i1)/\W.cell? (V w 5)=some (A o.i2)/\W.cell? (V w 7)=some (.string o.key)/\W.cell? (V w 8)=some (A o.a)/\W.cell? (V w 9)=some (A o.b)/\W.cell? (V w 10)=some (.bool o.yes)) (first |exact fg U.o u.o|exact fg ev.o c7.o)
  (first |(go_at_call 107;refine(ie _ ((gb w1))).mono ?_;rintro f w2 ⟨⟨v2,rfl,Y,eb⟩,⟨p,iI,C,gx⟩,iN⟩;have ev:=ag iI.bb;have c7:=ag ((iN w.heap.size (bW _) (aU u.o)).trans u.o);have D:=cu y (λq s=>iN q (cX y q s).1 (cX y q s).2);obtain⟨a2,bq,rfl,afw,afx,afy⟩:=bz Y))
 have E:=(C.other e (aU z) Oi).trans z;go_wp2_with (first
  |(go_at_call 108;refine(arP (ii D (b6 _)) Y).mono ?_;rintro f w3 ⟨rfl,g⟩)
  |(go_at_call 109;refine((λky (g:J w2 ky)=>arZ (bB E g) pb (show l.length<2000000000000 by omega) (dI (cu R λq s=>C.other q (cX R q s).2 (Oj q s)) g) ⟨_,dI (ii D (b6 _)) g⟩) w3 g).mono ?_;rintro f w4 ⟨rfl,iu⟩))
 go_ret
 exact⟨rfl,w3,_,_,p,⟨x,r,bG,bv,cJ,cU,N,sp,P,jS,iI.ak g⟩,C.after g,gx,λk X=>(cX D k X).1,(g.block e (aU E)).trans (E.trans z.symm),iu⟩
end
theorem Yt (size bytes:Nat) (t e:TypeId) (z:Value) (p:(prog.info? e).map (λi=>(i.zero,i.size,i.bytes))=some (some z,size,bytes)) (q:prog.underlying t=some (.slice e)) (r:z.cells.size=size) (y:0<size)
  {l:Array Oper} {rest:List Oper} {o:Oper} {a:Act} {Q:Exit->Act->World->Prop} {w:World} (B:o.guard=none) (s x:Operand) (C:o.op=.call {callee:=.builtin .append,args:= #[s,x],argTypes:= #[t,t]}) (v:Value) (n:Nat) (D:a.eval s=v)
  (E:Shape e size w v n) (g m c:Nat) (F:0<m) (I:a.eval x=aa g m c) (f:Array Value) (L:w.heap[g]?=some (.cells f e)) (hl:f.size=m*size)
  (M:∀u∈f.toList,u.oneCell'=true) (N:(n+m)*bytes<=140737488355328) (R:n+m<=maxLen)
  (h:∀b k d,Shape e size d (aa b (n+m) k) (n+m)->cA e v w d->(v.ownBlock=some b\/w.heap.size<=b)->wpList prog l Q rest (a.put o.dst (aa b (n+m) k)) d):wpList prog l Q (o::rest) a w:=by
 obtain⟨i,S,U,W,X⟩:=qH p;obtain⟨b,k,d,Y,h2,ax,a8⟩:=afi (P:=prog) w t o.type e i z size bytes q S U W X r y v n E (H g) m c F f.toList (by omega)
  (λj u hu=>by
   have :((H g):Addr).add j=(K g j):=by unfold Addr.add;split <;>simp_all
   rw[this,zb w g j f e (0,0) L];simpa using hu) M R N
 exact Lib.wpList_append_run w B s x t t C v _ D I _ d Y (h b k d h2 ax a8)
theorem ar3 {w:World} {l:Nat} {dA cq dw cf:Value} {d:List Nat} {a:Option Addr} {n c:Nat} (aG:w.heap[l]?=some (.cells #[dA,cq,dw,cf] 84)) (pb:d.length<2000000000000) (hn:n<2000000000000) (aE:w.ownsRow 0 141 1 cf d.length (d.flatMap ml)) (S:Shape 3 1 w (.slice a n c) n):
  O 112 #[.pointer (some (K l 1)),.slice a n c] w λe w'=>e=ad (.tuple #[])/\DV 3 24 141 1 #[A (-7070-(d.length:Int))] w l (.slice a n c) cf d n (λx=> #[dA,cq,dw,x]) w':=by
 obtain⟨C,ac,rfl,pb,vX,wi⟩:=bz aE;have y1:w.cell? (K l 3)=some (.slice C d.length ac):=by simp[World.cell?,aG]
 have Fi:IntKind.i64.wrap (-7070-(d.length:Int))= -7070-(d.length:Int):=mN _ (by omega);have D:=ag S;have yT:=ag S;have iA:=ag aG;have dS:=ag aE;clear aG aE wi;have W:=ag (show ∀q,w.heap.size<=q->¬((Value.slice a n c).ownBlock=some q) from λq f z=>by have :=S.lt q z;omega);clear S;go_enter func112,ntmps112;go_upto_region 1 with fail
 go_cut [5] (λp wc=>∃m,p=aa m 4 4/\∃U,Nm 3 24 1 #[A (-7070-(d.length:Int))] w (.slice a n c) n m U wc)
 case first =>
  go_wp2_with (first
   |(at_builtin;refine Yt 1 8 24 3 (A 0) (by rfl) underlying24 rfl (by omega) rfl (.tmp 15) (.tmp 17) rfl (.slice a n c) n rfl (D.o.same ((cA.refl 3 (.slice a n c) w).alloc _).s) _ 1 1 (by omega) rfl #[A (-7070-(d.length:Int))] (bZ w _) rfl (by simp[Value.oneCell']) (by omega) (by unfold maxLen;omega) ?_;intro ck bm w1 hG X aA;have hz1:=X.t.size;(try simp at hz1);have I:=ag hG;have l2:=ag (((cA.refl 3 (.slice a n c) w).alloc _).trans X);have rh:=ag (show w1.heap[w.heap.size]?=some (.cells #[A (-7070-(d.length:Int))] 3) from(X.t.other _ (by simp) (W.o _ (bW _))).trans (bZ w _));have fb:(Value.slice a n c).ownBlock=some ck\/w.heap.size<ck:=(aA.imp id (λz=>by(try simp at z);omega));clear hG X aA)
   |(at_builtin;refine Yt 1 8 24 3 (A 0) (by rfl) underlying24 rfl (by omega) rfl (.tmp 19) (.tmp 22) rfl (.slice a n c) n rfl (D.o.same (l2.o.alloc _).s) _ 2 2 (by omega) rfl #[A (-7070-(d.length:Int)),A (-7070-(d.length:Int))] (bZ w1 _) rfl (by simp[Value.oneCell']) (by omega) (by unfold maxLen;omega) ?_;intro a2 bq Y gx L bo;have hz2:=L.t.size;(try simp at hz2);have xv:=ag gx;have gh:=ag ((l2.o.alloc _).trans L);have pg:=ag (show Y.heap[w.heap.size]?=some (.cells #[A (-7070-(d.length:Int))] 3) from(L.t.other _ (by first |omega|(simp;done)|(simp;omega)) (W.o _ (bW _))).trans ((eX (by omega)).trans rh.o));have kM:(Value.slice a n c).ownBlock=some a2\/w.heap.size<a2:=(bo.imp id (λz=>by(try simp at z);omega));replace I:=ag (I.o.same (((cA.refl 3 (.slice a n c) w1).alloc _).s.trans L.s));clear gx L bo)
   |(at_builtin;refine Yt 1 8 24 3 (A 0) (by rfl) underlying24 rfl (by omega) rfl (.tmp 24) (.tmp 28) rfl (.slice a n c) n rfl (D.o.same (gh.o.alloc _).s) _ 3 3 (by omega) rfl #[A (-7070-(d.length:Int)),A (-7070-(d.length:Int)),A (-7070-(d.length:Int))] (bZ Y _) rfl (by simp[Value.oneCell']) (by omega) (by unfold maxLen;omega) ?_;intro a3 ce M pA N bu;have ox:=N.t.size;(try simp at ox);have gE:=ag pA;have iZ:=ag ((gh.o.alloc _).trans N);have ru:=show M.heap[w.heap.size]?=some (.cells #[A (-7070-(d.length:Int))] 3) from(N.t.other _ (by first |omega|(simp;done)|(simp;omega)) (W.o _ (bW _))).trans ((eX (by omega)).trans pg.o);have jC:(Value.slice a n c).ownBlock=some a3\/w.heap.size<a3:=(bu.imp id (λz=>by(try simp at z);omega));replace I:=ag (I.o.same (((cA.refl 3 (.slice a n c) Y).alloc _).s.trans N.s));replace xv:=ag (xv.o.same (((cA.refl 3 (.slice a n c) Y).alloc _).s.trans N.s))))
  all_goals go_meet
  all_goals exact⟨_,rfl,Yj (bZ M _) ((eX (by omega)).trans ru) (D.o.same (iZ.o.alloc _).s) (I.o.same ((cA.refl 3 (.slice a n c) M).alloc _).s) (xv.o.same ((cA.refl 3 (.slice a n c) M).alloc _).s) (gE.o.same ((cA.refl 3 (.slice a n c) M).alloc _).s) fb kM jC (iZ.o.alloc _).t (by omega)⟩
 case rest=>
  obtain⟨m,rfl,U,yn⟩:=hcut;have F1:=ag D.o.lt;clear W D;go_wp2;go_loopw [6] (λi wr=>∃k:Nat,k<=4/\i=A k/\yW 3 24 1 #[A (-7070-(d.length:Int))] w (.slice a n c) n m U k 0 wr) (λi _=>4-(intOf i).toNat)
  case atStart=>exact⟨0,by omega,rfl,yn,λmH h=>absurd h (xK _),lq.zero _ _ _ _⟩
  case round=>
   obtain⟨k,hk,rfl,P⟩:=hrel;obtain⟨r,zM⟩:∃r,r=wr:=⟨_,rfl⟩;subst zM;by_cases Q:k<4
   .obtain⟨Oa,Is,hu,kf⟩:=P.hC.form Q;have ul:=ag kf;clear kf;have Ob:=ag P;clear P yn;have jY:(0:Int)<=(k:Int):=kG _;have tA:(k:Int)<4:=by omega
    go_wp2;go_loopw [7] (λi iJ=>∃j:Nat,j<=n+k/\i=A j/\yW 3 24 1 #[A (-7070-(d.length:Int))] w (.slice a n c) n m U k j iJ) (λi _=>n+k-(intOf i).toNat)
    case atStart=>exact⟨0,b6 _,rfl,Ob.o⟩
    case round=>
     obtain⟨j,aB,rfl,f⟩:=hrel;have fm:=f.hC.cell Q;rw[hu]at fm;by_cases iV:j<n+k
     .obtain⟨g,rfl⟩:=ul.o j iV;have fp:=f.hC.s k Q;rw[hu]at fp;obtain⟨u0,t0⟩:=fp.cell (q:=0) iV (by omega);have avC:=fp.Cn;have DT:w.heap.size≠g:=λv=>by
       rcases f.hC.b k Q g (by rw[hu];rfl) with E|E
       .have :=F1.o _ E;omega
       omega
      have j9:=f;simp only[r9,xO]at t0;have Ej:(0:Int)<=(j:Int):=kG _;have uG:(j:Int)<((n+k:Nat):Int):=by omega
      have n1:m≠g:=λv=>by subst v;obtain⟨F,B⟩:=fp.type rfl;exact absurd (cQ j9.hC.row B) (by decide)
      go_wp2;go_roundw
      case rel=>exact⟨j+1,by omega,by go_num,by have az:=j9.next F1.o (by decide) rfl Q hu iV;rw[xO]at az;exact az⟩
      case measure=>simp[intOf];omega
     have tx:j=n+k:=by omega
     subst tx;go_wp2;go_roundw
     case rel=>
      refine⟨k+1,by omega,by go_num,f.hC,λmH ff=> ?_,lq.zero _ _ _ _⟩;by_cases zG:mH=k
      .subst zG;exact f.part
      exact f.full mH (by omega)
     case measure=>simp[intOf];omega
   have tA:k=4:=by omega
   subst tA;have y:=P.hC;have qz:=show ∀i,i<4->lq 1 #[A (-7070-(d.length:Int))].toList r (U i) (n+i) from P.full
   have AG:¬((Value.slice a n c).ownBlock=some l):=λz=>by obtain⟨F,B⟩:=yT.o.type z;exact absurd (cQ B iA.o) (by decide)
   have R:=(y.t.other l (aU iA.o) AG).trans iA.o;have Ik:∀q,(Value.slice C d.length ac).ownBlock=some q->¬((Value.slice a n c).ownBlock=some q):=λq E h2=>by obtain⟨F,B⟩:=b0 dS.o E;obtain⟨Oc,gP⟩:=yT.o.type h2;exact absurd (cQ B gP) (by decide)
   have jf:=cu dS.o (w':=r) λq f=>y.t.other q (cX dS.o q f).2 (Ik q f)
   have avD:r.cell? (K l 3)=some (.slice C d.length ac):=by simp[World.cell?,R]
   have dG:=aU R;have li:=ag (show(r.alloc (.cells #[aa m 4 4] 141)).ownsRow 0 141 1 (.slice C d.length ac) d.length (d.flatMap ml) from dI jf (by go_grown));have th:=ag (show ∀j u,(ml m)[j]?=some u->(r.alloc (.cells #[aa m 4 4] 141)).cell? (V r j)=some u from one_cell (by simp[go_sem]));have r2:=ag (show some l≠(Value.slice C d.length ac).ownBlock from λv=>by exact iX jf v.symm R (by decide))
   go_wp2_with (first
    |(at_builtin;refine CV ml 1 24 80 141 (.slice none 0 0) (by kernel_rfl) underlying80 rfl (by omega) (λ_=>rfl) rfl (.tmp 57) (.tmp 59) rfl 0 (.slice C d.length ac) d rfl li.o r.heap.size 1 m rfl th.o (by simp[ml,Value.oneCell']) (by omega) (by unfold maxLen;omega) (b6 _) ?_;intro v4 w4 hM eF iu;have fU:=ag hM;have mE:=ag eF;have ny:=ag iu;have hr:=ag ((eF.block l (by simp;omega) r2.o).trans ((eX (by omega)).trans R));obtain⟨a4,lo,rfl,xg,yo,yp⟩:=bz fU.o;have bq:w4.cell? (K l 3)=some (.slice C d.length ac):=(by simp[World.cell?,hr.o]);have xX:=cV hr.o 3))
   have vG:(Value.slice a4 (d.length+1) lo).ownBlock≠some l:=λv=>by exact iX fU.o v hr.o (by decide)
   have k3:∀(q:Nat) (F:Array Value) (t:TypeId),r.heap[q]?=some (.cells F t)->t≠141->t≠84->(w4.setCell (K l 3) (.slice a4 (d.length+1) lo)).heap[q]?=r.heap[q]?:=λq F t f E h2=>by
    have Od:q≠l:=λv=>by subst v;exact h2 (cQ f R)
    have HN:some q≠(Value.slice C d.length ac).ownBlock:=λv=>by obtain⟨Oc,B⟩:=b0 jf v.symm;exact E (cQ f B)
    have Df:=aU f;exact(dE Od).trans ((mE.o.block q (by simp;omega) HN).trans (eX (by omega)))
   go_end0
   refine⟨rfl,.slice a4 (d.length+1) lo,m,U,PH hr.o,kd fU.o vG _,?_,?_,?_,y.gl,y.b⟩
   .exact(y.t.mono λq f=>.inr (.inl f)).trans ((aR.cL (aV r _)).trans ((aR.up mE.o λq f=>.inr (.inr f)).trans (aR.it _ (.inl rfl))))
   .exact ny.o.mono (cd y.t.size (by simp))
   refine wh.ak ⟨y.row,y.s,qz⟩ (k3 m _ 24 y.row (by decide) (by decide)) λi hi g aq=> ?_
   obtain⟨F,B⟩:=(y.s i hi).type aq;exact k3 g _ 3 B (by decide) (by decide)
section
attribute [local go_sem ↓] Go.wp_at_zero Go.wp_at_succ
variable {a:World}{b c e:Nat}{d:Nat->Prop}
theorem afz{l}(h:sL 0 a (aa b c e) l)(d:c=l.length)(i:Nat)(g:i<l.length):a.cell? (K b i)=some (A l[i]):=by subst d;have :=jl (f:=BB) (k:=1) (λ_=>rfl) h rfl i g 0 (by omega);simpa[BB]using this
theorem ar4 {c b:Value} {l:List Int} (j:sL 0 a c l) (m:sL 0 a b l):
  O 111 #[c,b] a λe n=>e=ad (.bool true)/\J a n:=by
 obtain⟨s,ac,rfl,t,o,p⟩:=bz j;obtain⟨u,v,rfl,w,q,r⟩:=bz m;unfold maxLen at o q;go_enter func111,ntmps111;go_wp2;go_loopw [5] (λi wr=>∃k:Nat,k<=l.length/\i=A k/\J a wr) (λi _=>l.length-(intOf i).toNat)
 case atStart=>exact⟨0,b6 _,rfl,ca _ _⟩
 case round=>
  obtain⟨k,x,rfl,d⟩:=hrel;by_cases f:k<l.length
  .obtain⟨g,rfl⟩:=p k f;obtain⟨y,rfl⟩:=r k f;have z:=ak d (afz j (by simp) k f);have B:=ak d (afz m (by simp) k f);go_wp2;go_region
   all_goals(go_wp2;go_roundw)
   case rel=>exact⟨k+1,by omega,by go_num,d.drew⟩
   case measure=>simp[intOf];omega
  go_wp2;go_ret
  exact⟨rfl,d⟩
theorem ar5 {w:World} {i:Nat} {F:Nat->Prop} {I:Nat} (h:lN w i F I) (o:kU) (fq:o.aM=12) {L M Q t:Value} {j:List Nat} (z:w.heap[e]?=some (.cells #[L,M,Q,t] 84)) (Oi:¬F e) (pb:j.length<2000000000000) (R:w.ownsRow 0 141 1 t j.length (j.flatMap ml)) (Oj:∀k,(t).ownBlock=some k->¬F k):
  O 69 #[Z e,Z i,.agg #[A o.aM,A o.r,A o.c,A o.d,A o.i1,A o.i2,A o.bJ,.string o.key,A o.a,A o.b,.bool o.yes]] w λf w'=>f=ad (.bool true)/\∃wm v n p,lN wm i p I/\dp F p w wm/\(∀k,p k->F k)/\(∀k,v.ownBlock=some k->w.heap.size<=k)/\wm.heap[e]?=w.heap[e]?/\DV 3 24 141 1 #[A (-7070-(j.length:Int))] wm e v t j n (λx=> #[L,M,Q,x]) w':=by
 obtain⟨x,r,bG,bv,cJ,cU,N,sp,P,jS,h⟩:=h;rw[fq];have S:=aV w (.cells #[A 12,A o.r,A o.c,A o.d,A o.i1,A o.i2,A o.bJ,.string o.key,A o.a,A o.b,.bool o.yes] 87);have B:=bZ w (.cells #[A 12,A o.r,A o.c,A o.d,A o.i1,A o.i2,A o.bJ,.string o.key,A o.a,A o.b,.bool o.yes] 87);have iL:=bB h.bb S;have dG:=h.lt _ h.gK;go_enter func69,ntmps69;go_wp2_with fail
 go_region_held3 (λW=>W.cell? (H i)=some (Z x)/\W.cell? (K i 1)=some (Z r)/\W.cell? (V w 0)=some (A 12)/\W.cell? (V w 2)=some (A o.c)/\W.cell? (V w 4)=some (A o.i1)/\W.cell? (V w 5)=some (A o.i2)/\W.cell? (V w 7)=some (.string o.key)/\W.cell? (V w 8)=some (A o.a)/\W.cell? (V w 9)=some (A o.b)/\W.cell? (V w 10)=some (.bool o.yes)) (first |exact fg iL B|exact fg U.o u.o)
  (first |(go_at_call 25;refine((λW (ah:J w W)=>arY h ah o.c) _ S.drew).mono ?_;rintro f w1 ⟨v,m,l,rfl,mg,e9,dK,hG,ie⟩;have U:=ag (e9.trans h.bb);have u:=ag ((dK w.heap.size (aU B) ((show ∀k,w.heap.size<=k->¬F k from λk X hF=>by have :=h.lt k hF;omega) _ (bW _))).trans B);have y:=ii mg (show w.heap.size<=_ by first |omega|(simp;done)|(simp;omega));obtain⟨dQ,dL,rfl,Ew,zd,Cs⟩:=bz y))
 go_wp2_with fail
 go_region_held3 (λW=>W.cell? (H i)=some (Z x)/\W.cell? (K i 1)=some (Z r)/\W.cell? (V w 0)=some (A 12)/\W.cell? (V w 2)=some (A o.c)/\W.cell? (V w 4)=some (A o.i1)/\W.cell? (V w 5)=some (A o.i2)/\W.cell? (V w 7)=some (.string o.key)/\W.cell? (V w 8)=some (A o.a)/\W.cell? (V w 9)=some (A o.b)/\W.cell? (V w 10)=some (.bool o.yes)) (first |exact fg U.o u.o|exact fg ev.o c7.o)
  (first |(go_at_call 110;refine(ie _ ((gb w1))).mono ?_;rintro f w2 ⟨⟨v2,rfl,Y,eb⟩,⟨p,iI,C,gx⟩,iN⟩;have ev:=ag iI.bb;have c7:=ag ((iN w.heap.size (bW _) (aU u.o)).trans u.o);have D:=cu y (λq s=>iN q (cX y q s).1 (cX y q s).2);obtain⟨a2,bq,rfl,afw,afx,afy⟩:=bz Y))
 have E:=(C.other e (aU z) Oi).trans z;go_wp2_with (first
  |(go_at_call 111;refine(ar4 (ii D (b6 _)) Y).mono ?_;rintro f w3 ⟨rfl,g⟩)
  |(go_at_call 112;refine((λky (g:J w2 ky)=>ar3 (bB E g) pb (show l.length<2000000000000 by omega) (dI (cu R λq s=>C.other q (cX R q s).2 (Oj q s)) g) ⟨_,dI (ii D (b6 _)) g⟩) w3 g).mono ?_;rintro f w4 ⟨rfl,iu⟩))
 go_ret
 exact⟨rfl,w3,_,_,p,⟨x,r,bG,bv,cJ,cU,N,sp,P,jS,iI.ak g⟩,C.after g,gx,λk X=>(cX D k X).1,(g.block e (aU E)).trans (E.trans z.symm),iu⟩
theorem ar6 {w:World} {F:Nat->Prop} {Q:Nat} (h:lN w e F Q) (o:kU) (l:r5 o) (fq:o.aM=3) (oJ:Q<2000000000000):
  O 68 #[Z e,.agg #[A o.aM,A o.r,A o.c,A o.d,A o.i1,A o.i2,A o.bJ,.string o.key,A o.a,A o.b,.bool o.yes]] w λf w'=>f=ad (.bool true)/\yX w e F (Q+1) w':=by
 obtain⟨x,r,B,C,cJ,cU,N,D,P,jS,h⟩:=h;rw[fq];have bf:=ag (aV w (.cells #[A 3,A o.r,A o.c,A o.d,A o.i1,A o.i2,A o.bJ,.string o.key,A o.a,A o.b,.bool o.yes] 87));have z:=ag (bZ w (.cells #[A 3,A o.r,A o.c,A o.d,A o.i1,A o.i2,A o.bJ,.string o.key,A o.a,A o.b,.bool o.yes] 87));have R:=ag (bB h.bb bf.o);have fs:=ag (λW (ah:J w W)=>arG h ah o.c o.i1 o.i2 o.key l.key o.yes);have S:=ag h.lt;have U:=ag h.gK;have X:=ag (show ∀k,w.heap.size<=k->¬F k from λk l hF=>by have :=h.lt k hF;omega);have dG:=h.lt _ h.gK;have Y:=ag h.bb;clear h l;go_enter func68,ntmps68;go_wp2_with fail
 go_cut [7,8] (λp q wc=>∃E i j m,p=Z E/\q=A m/\KQ w e F x r B C N D 95 #[Z r,A o.c,.agg #[A o.i1,A o.i2],.string o.key,.bool o.yes] (.cells #[A 3,A o.r,A o.c,A o.d,A o.i1,A o.i2,A o.bJ,.string o.key,A o.a,A o.b,.bool o.yes] 87) E i j m wc)
 case first =>
  go_region_held3 (λW=>W.cell? (H e)=some (Z x)/\W.cell? (K e 1)=some (Z r)/\W.cell? (V w 0)=some (A 3)/\W.cell? (V w 2)=some (A o.c)/\W.cell? (V w 4)=some (A o.i1)/\W.cell? (V w 5)=some (A o.i2)/\W.cell? (V w 7)=some (.string o.key)/\W.cell? (V w 8)=some (A o.a)/\W.cell? (V w 9)=some (A o.b)/\W.cell? (V w 10)=some (.bool o.yes)) (first |exact fg n.o s.o|exact fg ((dE (by omega)).trans ((dE (by omega)).trans n.o)) ((dE (by omega)).trans ((dE (by omega)).trans s.o))|exact fg ((eX (by omega)).trans n.o) ((eX (by omega)).trans s.o)|exact fg R.o z.o|exact fg ((eX (by simp;omega)).trans R.o) ((eX (by simp)).trans z.o))
   (first |(go_at_call 38;refine(fs.o _ (by go_grown)).mono ?_;rintro f w1 ⟨i,j,m,rfl,u⟩;have jw:=ag u;have n:=ag (u.1.trans Y.o);have s:=ag (show w1.heap[w.heap.size]?=some (.cells #[A 3,A o.r,A o.c,A o.d,A o.i1,A o.i2,A o.bJ,.string o.key,A o.a,A o.b,.bool o.yes] 87) from by(rw[u.2.1 w.heap.size (by first |(simp;done)|(simp;omega)) (X.o _ (bW _))];first |exact z.o|exact(eX (by simp)).trans z.o));have hz1:=u.2.2.1;(try simp at hz1);(try(have t:=ag (show w1.heap[w.heap.size+1]?=some (af 0 0) from by(rw[u.2.1 (w.heap.size+1) (by simp) (X.o _ (by omega))];exact oI (by simp)));have z0:=(bD t.o).1;have z1:=(bD t.o).2;have HU:=cV t.o));clear u))
  all_goals(go_wp2_with fail;go_meet)
  all_goals first
   |exact⟨_,i,j,m,rfl,rfl,Yo S.o U.o jw.o⟩
   |exact⟨_,i,j,m,rfl,rfl,Yp S.o U.o jw.o⟩
 case rest=>
  obtain⟨E,i,j,m,rfl,rfl,v⟩:=hcut;have n:=ag (v.g.trans Y.o);have s:=ag v.b;have fF:=ag v;have Ol:=aU v.a;have sk:=aU v.b;clear v;go_wp2_with fail
  go_cut [9,10] (λp q FR=>∃ln,p=Z ln/\q=A m/\Og w e F x r B C N D E ln i j FR)
  case first =>
   go_region_held3 (λW=>W.cell? (H e)=some (Z x)/\W.cell? (K e 1)=some (Z r)/\W.cell? (V w 0)=some (A 3)/\W.cell? (V w 2)=some (A o.c)/\W.cell? (V w 4)=some (A o.i1)/\W.cell? (V w 5)=some (A o.i2)/\W.cell? (V w 7)=some (.string o.key)/\W.cell? (V w 8)=some (A o.a)/\W.cell? (V w 9)=some (A o.b)/\W.cell? (V w 10)=some (.bool o.yes)) (first |exact fg I.o L.o|exact fg ((dE (by omega)).trans ((dE (by omega)).trans I.o)) ((dE (by omega)).trans ((dE (by omega)).trans L.o))|exact fg ((eX (by omega)).trans I.o) ((eX (by omega)).trans L.o)|exact fg n.o s.o|exact fg ((eX (by omega)).trans n.o) ((eX (by omega)).trans s.o))
    (first |(go_at_call 95;refine(fF.o.next _ (by go_grown)).mono ?_;rintro f w2 ⟨rfl,hex,vT,h8,iN⟩;have dv:=ag hex;have L:=ag h8;have I:=ag (show w2.heap[e]?=some (.cells #[Z x,Z r,B] 135) from by(obtain⟨aY,fC,hf,P',y,_⟩:=hex;exact y.bb));have By:=ag vT;have zB:=ag iN;have hz2:=aU I.o;have ox:=aU L.o;(try(have t:=ag (show w2.heap[wc.heap.size]?=some (af 0 0) from by(rw[iN wc.heap.size (bW _) (by simp)];exact oI (by simp)));have z0:=(bD t.o).1;have z1:=(bD t.o).2;have HU:=cV t.o));clear hex vT h8 iN))
   all_goals(go_wp2_with fail;go_meet)
   all_goals first
    |exact⟨_,rfl,rfl,Yq (by omega) Ol dv.o By.o zB.o⟩
    |exact⟨_,rfl,rfl,Yr dv.o By.o⟩
  case rest=>
   obtain⟨ln,rfl,rfl,M⟩:=hcut;obtain⟨a0,ck⟩:=bD M.a;obtain⟨c4,bK⟩:=bD M.b;obtain⟨aY,fC,hf,P',y,l⟩:=M.pair;clear M fF n s fs bf z R Y X S U;by_cases hm:m=0
   .subst hm;have gY:=ag (Yf y i j (by omega));have kZ:=ag l;clear l y;go_wp2_with (first |(go_at_call 96;refine gY.o.mono ?_;rintro f w3 ⟨rfl,ut,Om,ps,jp⟩;have jW:=ag ps;have sP:=ag (kZ.o.trans jp);clear ps jp))
    go_ret
    exact⟨rfl,ut,⟨x,r,Om,C++[(i,j)],fC,hf,N,D,P',by simp;omega,jW.o⟩,sP.o⟩
   have gY:=ag (λW=>Ye W e i j m hm);have kZ:=ag l;have ew:=ag y;clear l y;go_wp2_with (first |(go_at_call 96;refine(gY.o _).mono ?_;rintro f w3 ⟨rfl,bu⟩;have jW:=ag (ew.o.ak bu);have sP:=ag (kZ.o.after bu);clear bu))
   go_ret
   exact⟨rfl,aY,⟨x,r,B,C,fC,hf,N,D,P',by omega,jW.o⟩,sP.o⟩
theorem ar7 {w:World} {F:Nat->Prop} {Q:Nat} (h:lN w e F Q) (o:kU) (l:r5 o) (fq:o.aM=5) (oJ:Q<2000000000000):
  O 68 #[Z e,.agg #[A o.aM,A o.r,A o.c,A o.d,A o.i1,A o.i2,A o.bJ,.string o.key,A o.a,A o.b,.bool o.yes]] w λf w'=>f=ad (.bool true)/\yX w e F (Q+1) w':=by
 obtain⟨x,r,B,C,cJ,cU,N,D,P,jS,h⟩:=h;rw[fq];have bf:=ag (aV w (.cells #[A 5,A o.r,A o.c,A o.d,A o.i1,A o.i2,A o.bJ,.string o.key,A o.a,A o.b,.bool o.yes] 87));have z:=ag (bZ w (.cells #[A 5,A o.r,A o.c,A o.d,A o.i1,A o.i2,A o.bJ,.string o.key,A o.a,A o.b,.bool o.yes] 87));have R:=ag (bB h.bb bf.o);have fs:=ag (λW (ah:J w W)=>arH h ah o.c o.i1 o.i2 o.a o.b l.b);have S:=ag h.lt;have U:=ag h.gK;have X:=ag (show ∀k,w.heap.size<=k->¬F k from λk l hF=>by have :=h.lt k hF;omega);have dG:=h.lt _ h.gK;have Y:=ag h.bb;clear h l;go_enter func68,ntmps68;go_wp2_with fail
 go_cut [13,14] (λp q wc=>∃E i j m,p=Z E/\q=A m/\KQ w e F x r B C N D 98 #[Z r,A o.c,.agg #[A o.i1,A o.i2],A o.a,A o.b] (.cells #[A 5,A o.r,A o.c,A o.d,A o.i1,A o.i2,A o.bJ,.string o.key,A o.a,A o.b,.bool o.yes] 87) E i j m wc)
 case first =>
  go_region_held3 (λW=>W.cell? (H e)=some (Z x)/\W.cell? (K e 1)=some (Z r)/\W.cell? (V w 0)=some (A 5)/\W.cell? (V w 2)=some (A o.c)/\W.cell? (V w 4)=some (A o.i1)/\W.cell? (V w 5)=some (A o.i2)/\W.cell? (V w 7)=some (.string o.key)/\W.cell? (V w 8)=some (A o.a)/\W.cell? (V w 9)=some (A o.b)/\W.cell? (V w 10)=some (.bool o.yes)) (first |exact fg n.o s.o|exact fg ((dE (by omega)).trans ((dE (by omega)).trans n.o)) ((dE (by omega)).trans ((dE (by omega)).trans s.o))|exact fg ((eX (by omega)).trans n.o) ((eX (by omega)).trans s.o)|exact fg R.o z.o|exact fg ((eX (by simp;omega)).trans R.o) ((eX (by simp)).trans z.o))
   (first |(go_at_call 32;refine(fs.o _ (by go_grown)).mono ?_;rintro f w1 ⟨i,j,m,rfl,u⟩;have jw:=ag u;have n:=ag (u.1.trans Y.o);have s:=ag (show w1.heap[w.heap.size]?=some (.cells #[A 5,A o.r,A o.c,A o.d,A o.i1,A o.i2,A o.bJ,.string o.key,A o.a,A o.b,.bool o.yes] 87) from by(rw[u.2.1 w.heap.size (by first |(simp;done)|(simp;omega)) (X.o _ (bW _))];first |exact z.o|exact(eX (by simp)).trans z.o));have hz1:=u.2.2.1;(try simp at hz1);(try(have t:=ag (show w1.heap[w.heap.size+1]?=some (af 0 0) from by(rw[u.2.1 (w.heap.size+1) (by simp) (X.o _ (by omega))];exact oI (by simp)));have z0:=(bD t.o).1;have z1:=(bD t.o).2;have HU:=cV t.o));clear u))
  all_goals(go_wp2_with fail;go_meet)
  all_goals first
   |exact⟨_,i,j,m,rfl,rfl,Yo S.o U.o jw.o⟩
   |exact⟨_,i,j,m,rfl,rfl,Yp S.o U.o jw.o⟩
 case rest=>
  obtain⟨E,i,j,m,rfl,rfl,v⟩:=hcut;have n:=ag (v.g.trans Y.o);have s:=ag v.b;have fF:=ag v;have Ol:=aU v.a;have sk:=aU v.b;clear v;go_wp2_with fail
  go_cut [15,16] (λp q FR=>∃ln,p=Z ln/\q=A m/\Og w e F x r B C N D E ln i j FR)
  case first =>
   go_region_held3 (λW=>W.cell? (H e)=some (Z x)/\W.cell? (K e 1)=some (Z r)/\W.cell? (V w 0)=some (A 5)/\W.cell? (V w 2)=some (A o.c)/\W.cell? (V w 4)=some (A o.i1)/\W.cell? (V w 5)=some (A o.i2)/\W.cell? (V w 7)=some (.string o.key)/\W.cell? (V w 8)=some (A o.a)/\W.cell? (V w 9)=some (A o.b)/\W.cell? (V w 10)=some (.bool o.yes)) (first |exact fg I.o L.o|exact fg ((dE (by omega)).trans ((dE (by omega)).trans I.o)) ((dE (by omega)).trans ((dE (by omega)).trans L.o))|exact fg ((eX (by omega)).trans I.o) ((eX (by omega)).trans L.o)|exact fg n.o s.o|exact fg ((eX (by omega)).trans n.o) ((eX (by omega)).trans s.o))
    (first |(go_at_call 98;refine(fF.o.next _ (by go_grown)).mono ?_;rintro f w2 ⟨rfl,hex,vT,h8,iN⟩;have dv:=ag hex;have L:=ag h8;have I:=ag (show w2.heap[e]?=some (.cells #[Z x,Z r,B] 135) from by(obtain⟨aY,fC,hf,P',y,_⟩:=hex;exact y.bb));have By:=ag vT;have zB:=ag iN;have hz2:=aU I.o;have ox:=aU L.o;(try(have t:=ag (show w2.heap[wc.heap.size]?=some (af 0 0) from by(rw[iN wc.heap.size (bW _) (by simp)];exact oI (by simp)));have z0:=(bD t.o).1;have z1:=(bD t.o).2;have HU:=cV t.o));clear hex vT h8 iN))
   all_goals(go_wp2_with fail;go_meet)
   all_goals first
    |exact⟨_,rfl,rfl,Yq (by omega) Ol dv.o By.o zB.o⟩
    |exact⟨_,rfl,rfl,Yr dv.o By.o⟩
  case rest=>
   obtain⟨ln,rfl,rfl,M⟩:=hcut;obtain⟨a0,ck⟩:=bD M.a;obtain⟨c4,bK⟩:=bD M.b;obtain⟨aY,fC,hf,P',y,l⟩:=M.pair;clear M fF n s fs bf z R Y X S U;by_cases hm:m=0
   .subst hm;have gY:=ag (Yf y i j (by omega));have kZ:=ag l;clear l y;go_wp2_with (first |(go_at_call 96;refine gY.o.mono ?_;rintro f w3 ⟨rfl,ut,Om,ps,jp⟩;have jW:=ag ps;have sP:=ag (kZ.o.trans jp);clear ps jp))
    go_ret
    exact⟨rfl,ut,⟨x,r,Om,C++[(i,j)],fC,hf,N,D,P',by simp;omega,jW.o⟩,sP.o⟩
   have gY:=ag (λW=>Ye W e i j m hm);have kZ:=ag l;have ew:=ag y;clear l y;go_wp2_with (first |(go_at_call 96;refine(gY.o _).mono ?_;rintro f w3 ⟨rfl,bu⟩;have jW:=ag (ew.o.ak bu);have sP:=ag (kZ.o.after bu);clear bu))
   go_ret
   exact⟨rfl,aY,⟨x,r,B,C,fC,hf,N,D,P',by omega,jW.o⟩,sP.o⟩
theorem ar8 {w:World} {F:Nat->Prop} {Q:Nat} (h:lN w e F Q) (o:kU) (fq:o.aM=6) (oJ:Q<2000000000000):
  O 68 #[Z e,.agg #[A o.aM,A o.r,A o.c,A o.d,A o.i1,A o.i2,A o.bJ,.string o.key,A o.a,A o.b,.bool o.yes]] w λf w'=>f=ad (.bool true)/\yX w e F (Q+1) w':=by
 obtain⟨x,r,B,C,cJ,cU,N,D,P,jS,h⟩:=h;rw[fq];have bf:=ag (aV w (.cells #[A 6,A o.r,A o.c,A o.d,A o.i1,A o.i2,A o.bJ,.string o.key,A o.a,A o.b,.bool o.yes] 87));have y:=ag (bZ w (.cells #[A 6,A o.r,A o.c,A o.d,A o.i1,A o.i2,A o.bJ,.string o.key,A o.a,A o.b,.bool o.yes] 87));have R:=ag (bB h.bb bf.o);have fs:=ag (λW (ah:J w W)=>arI h ah o.c o.i1 o.i2 o.a o.yes);have S:=ag h.lt;have U:=ag h.gK;have X:=ag (show ∀k,w.heap.size<=k->¬F k from λk z hF=>by have :=h.lt k hF;omega);have dG:=h.lt _ h.gK;have Y:=ag h.bb;clear h;go_enter func68,ntmps68;go_wp2_with fail
 go_cut [17,18] (λp q wc=>∃E i j m,p=Z E/\q=A m/\KQ w e F x r B C N D 100 #[Z r,A o.c,.agg #[A o.i1,A o.i2],A o.a,.bool o.yes] (.cells #[A 6,A o.r,A o.c,A o.d,A o.i1,A o.i2,A o.bJ,.string o.key,A o.a,A o.b,.bool o.yes] 87) E i j m wc)
 case first =>
  go_region_held3 (λW=>W.cell? (H e)=some (Z x)/\W.cell? (K e 1)=some (Z r)/\W.cell? (V w 0)=some (A 6)/\W.cell? (V w 2)=some (A o.c)/\W.cell? (V w 4)=some (A o.i1)/\W.cell? (V w 5)=some (A o.i2)/\W.cell? (V w 7)=some (.string o.key)/\W.cell? (V w 8)=some (A o.a)/\W.cell? (V w 9)=some (A o.b)/\W.cell? (V w 10)=some (.bool o.yes)) (first |exact fg l.o n.o|exact fg ((dE (by omega)).trans ((dE (by omega)).trans l.o)) ((dE (by omega)).trans ((dE (by omega)).trans n.o))|exact fg ((eX (by omega)).trans l.o) ((eX (by omega)).trans n.o)|exact fg R.o y.o|exact fg ((eX (by simp;omega)).trans R.o) ((eX (by simp)).trans y.o))
   (first |(go_at_call 99;refine(fs.o _ (by go_grown)).mono ?_;rintro f w1 ⟨i,j,m,rfl,t⟩;have jw:=ag t;have l:=ag (t.1.trans Y.o);have n:=ag (show w1.heap[w.heap.size]?=some (.cells #[A 6,A o.r,A o.c,A o.d,A o.i1,A o.i2,A o.bJ,.string o.key,A o.a,A o.b,.bool o.yes] 87) from by(rw[t.2.1 w.heap.size (by first |(simp;done)|(simp;omega)) (X.o _ (bW _))];first |exact y.o|exact(eX (by simp)).trans y.o));have hz1:=t.2.2.1;(try simp at hz1);(try(have s:=ag (show w1.heap[w.heap.size+1]?=some (af 0 0) from by(rw[t.2.1 (w.heap.size+1) (by simp) (X.o _ (by omega))];exact oI (by simp)));have z0:=(bD s.o).1;have z1:=(bD s.o).2;have HU:=cV s.o));clear t))
  all_goals(go_wp2_with fail;go_meet)
  all_goals first
   |exact⟨_,i,j,m,rfl,rfl,Yo S.o U.o jw.o⟩
   |exact⟨_,i,j,m,rfl,rfl,Yp S.o U.o jw.o⟩
 case rest=>
  obtain⟨E,i,j,m,rfl,rfl,u⟩:=hcut;have l:=ag (u.g.trans Y.o);have n:=ag u.b;have fF:=ag u;have Ol:=aU u.a;have sk:=aU u.b;clear u;go_wp2_with fail
  go_cut [19,20] (λp q FR=>∃ln,p=Z ln/\q=A m/\Og w e F x r B C N D E ln i j FR)
  case first =>
   go_region_held3 (λW=>W.cell? (H e)=some (Z x)/\W.cell? (K e 1)=some (Z r)/\W.cell? (V w 0)=some (A 6)/\W.cell? (V w 2)=some (A o.c)/\W.cell? (V w 4)=some (A o.i1)/\W.cell? (V w 5)=some (A o.i2)/\W.cell? (V w 7)=some (.string o.key)/\W.cell? (V w 8)=some (A o.a)/\W.cell? (V w 9)=some (A o.b)/\W.cell? (V w 10)=some (.bool o.yes)) (first |exact fg I.o L.o|exact fg ((dE (by omega)).trans ((dE (by omega)).trans I.o)) ((dE (by omega)).trans ((dE (by omega)).trans L.o))|exact fg ((eX (by omega)).trans I.o) ((eX (by omega)).trans L.o)|exact fg l.o n.o|exact fg ((eX (by omega)).trans l.o) ((eX (by omega)).trans n.o))
    (first |(go_at_call 100;refine(fF.o.next _ (by go_grown)).mono ?_;rintro f w2 ⟨rfl,hex,vT,h8,iN⟩;have dv:=ag hex;have L:=ag h8;have I:=ag (show w2.heap[e]?=some (.cells #[Z x,Z r,B] 135) from by(obtain⟨aY,fC,hf,P',v,_⟩:=hex;exact v.bb));have By:=ag vT;have zB:=ag iN;have hz2:=aU I.o;have ox:=aU L.o;(try(have s:=ag (show w2.heap[wc.heap.size]?=some (af 0 0) from by(rw[iN wc.heap.size (bW _) (by simp)];exact oI (by simp)));have z0:=(bD s.o).1;have z1:=(bD s.o).2;have HU:=cV s.o));clear hex vT h8 iN))
   all_goals(go_wp2_with fail;go_meet)
   all_goals first
    |exact⟨_,rfl,rfl,Yq (by omega) Ol dv.o By.o zB.o⟩
    |exact⟨_,rfl,rfl,Yr dv.o By.o⟩
  case rest=>
   obtain⟨ln,rfl,rfl,M⟩:=hcut;obtain⟨a0,ck⟩:=bD M.a;obtain⟨c4,bK⟩:=bD M.b;obtain⟨aY,fC,hf,P',v,z⟩:=M.pair;clear M fF l n fs bf y R Y X S U;by_cases hm:m=0
   .subst hm;have gY:=ag (Yf v i j (by omega));have kZ:=ag z;clear z v;go_wp2_with (first |(go_at_call 96;refine gY.o.mono ?_;rintro f w3 ⟨rfl,ut,Om,ps,jp⟩;have jW:=ag ps;have sP:=ag (kZ.o.trans jp);clear ps jp))
    go_ret
    exact⟨rfl,ut,⟨x,r,Om,C++[(i,j)],fC,hf,N,D,P',by simp;omega,jW.o⟩,sP.o⟩
   have gY:=ag (λW=>Ye W e i j m hm);have kZ:=ag z;have ew:=ag v;clear z v;go_wp2_with (first |(go_at_call 96;refine(gY.o _).mono ?_;rintro f w3 ⟨rfl,bu⟩;have jW:=ag (ew.o.ak bu);have sP:=ag (kZ.o.after bu);clear bu))
   go_ret
   exact⟨rfl,aY,⟨x,r,B,C,fC,hf,N,D,P',by omega,jW.o⟩,sP.o⟩
end
section
variable {a w:Nat->Prop}{b i k m:List Nat}{c e r:Nat}{d q:World}{f:Nat->Nat->Prop}{h j l n v:Value}{s:Nat->Array Value}{u:TypeId}
theorem lN.hA{w b F c}{a:World}(h:lN w b F c)(d:w.heap.size<=a.heap.size)(e:∀k,F k->a.heap[k]?=w.heap[k]?):lN a b F c:=by obtain⟨x,r,f,g,i,j,N,sp,P,l,h⟩:=h;exact⟨x,r,f,g,i,j,N,sp,P,l,h.hA d e⟩
theorem lN.more(h:lN d c a e)(f:e<=r):lN d c a r:=by obtain⟨x,b,g,i,j,k,N,l,P,m,h⟩:=h;exact⟨x,b,g,i,j,k,N,l,P,cd m f,h⟩
theorem lN.lt{w a F b}(h:lN w a F b):∀k,F k->k<w.heap.size:=by obtain⟨x,r,c,d,e,f,N,sp,P,g,h⟩:=h;exact h.lt
def wk (e b:TypeId) (k:Nat) (c:Nat->Array Value) (a:List Nat) (R:Nat->Prop) (w:World):Prop:=∀i (d:i<a.length),∃n U,wh e b k (c i) n a[i] U w/\R a[i]/\∀j,j<4->∀g,(U j).ownBlock=some g->R g
theorem wk.nK{e}(h:wk u e c s b a d):Sr u e c s b d:=λi f=>by obtain⟨n,U,g,_⟩:=h i f;exact⟨n,U,g⟩
theorem wk.ak{e a k c d R w}{w':World}(h:wk e a k c d R w)(f:∀q l t,R q->w.heap[q]?=some (.cells l t)->t=e\/t=a->w'.heap[q]?=w.heap[q]?):wk e a k c d R w':=λi u=>by obtain⟨n,U,b,m,o⟩:=h i u;refine⟨n,U,b.ak (f _ _ _ m b.row (.inr rfl)) λj p g r=> ?_,m,o⟩;obtain⟨l,v⟩:=(b.s j p).type r;exact f _ _ _ (o j p g r) v (.inl rfl)
theorem wk.mono{e k R w}(h:wk e u k s b R w)(c:∀q,R q->a q):wk e u k s b a w:=λi d=>by obtain⟨n,U,f,l,m⟩:=h i d;exact⟨n,U,f,c _ l,λj o g p=>c _ (m j o g p)⟩
theorem wk.add{e w d U}(h:wk e u r s b a w)(k:wh e u r (s b.length) c d U w)(l:a d)(m:∀j,j<4->∀g,(U j).ownBlock=some g->a g):wk e u r s (b++[d]) a w:=λi n=>by
 by_cases f:i<b.length
 .obtain⟨c,U,h⟩:=h i f;refine⟨c,U,?_⟩;rw[Cf f];exact h
 have :i=b.length:=by simp at n;omega
 subst this;refine⟨c,U,?_⟩;simp;exact⟨k,l,m⟩
structure kV (base gy:Nat) (dA cq dw cf:Value) (cn bh lb lc:List Nat) (et:Nat->Nat->Prop) (R:Nat->Prop) (b2:Nat) (w:World):Prop where
 y:w.heap[gy]?=some (.cells #[dA,cq,dw,cf] 84)
 bH:w.ownsRow 0 132 1 dA cn.length (cn.flatMap iM)
 a:w.ownsRow 0 138 1 cq bh.length (bh.flatMap ml)
 b:w.ownsRow 0 140 1 dw lb.length (lb.flatMap ml)
 c:w.ownsRow 0 141 1 cf lc.length (lc.flatMap ml)
 fB:∀i (hi:i<cn.length),lN w cn[i] (et i) b2
 kD:∀i j k,i<cn.length->j<cn.length->i≠j->et i k->¬et j k
 qv:∀i k,i<cn.length->et i k->base<=k
 cc:∀i k,i<cn.length->et i k->¬R k
 bd:∀k,R k->base<=k/\k<w.heap.size
 nH:R gy
 uS:∀k,dA.ownBlock=some k->R k
 cm:∀k,cq.ownBlock=some k->R k
 uT:∀k,dw.ownBlock=some k->R k
 rc:∀k,cf.ownBlock=some k->R k
 pS:wk 36 65 2 afl bh R w
 Am:wk 57 53 3 afn lb R w
 fG:wk 3 24 1 afm lc R w
 yY:cn.length<=b2
 nE:bh.length<=b2
 rY:lb.length<=b2
 nF:lc.length<=b2
 bs:base<=w.heap.size
theorem kV.frame{base B}(o:kV base e h j l n i k m B f w r d)(u:∀p,w p->q.heap[p]?=d.heap[p]?)(E:∀s p,s<i.length->f s p->q.heap[p]?=d.heap[p]?)(z:d.heap.size<=q.heap.size):kV base e h j l n i k m B f w r q:=
 ⟨(u e o.nH).trans o.y,cu o.bH λg v=>u g (o.uS g v),cu o.a λg v=>u g (o.cm g v),cu o.b λg v=>u g (o.uT g v),cu o.c λg v=>u g (o.rc g v),
  λs C=>(o.fB s C).hA z λp hF=>E s p C hF,o.kD,o.qv,o.cc,λp D=>⟨(o.bd p D).1,c0 (o.bd p D).2 z⟩,o.nH,o.uS,o.cm,o.uT,o.rc,
  o.pS.ak λt _ _ x _ _=>u t x,o.Am.ak λt _ _ x _ _=>u t x,o.fG.ak λt _ _ x _ _=>u t x,o.yY,o.nE,o.rY,o.nF,cd o.bs z⟩
theorem kV.dn{base q w}(o:kV base c h j l n b k m q f a e w)(p:J w d):kV base c h j l n b k m q f a e d:=
 o.frame (λg r=>p.block g (o.bd g r).2) (λi g s hF=>p.block g ((o.fB i s).lt g hF)) p.size
theorem kV.more{base gy b c d e f g j k l R m w}(h:kV base gy b c d e f g j k l R m w){n:Nat}(a:m<=n):kV base gy b c d e f g j k l R n w:=
 {h with fB:=λi o=>(h.fB i o).more a,yY:=cd h.yY a,nE:=cd h.nE a,rY:=cd h.rY a,nF:=cd h.nF a}
theorem kV.bN {base gy:Nat} {U:List Nat} {R:Nat->Prop} (o:kV base gy h l n v i k m U f R r q) (W:e<i.length) (X:lN d i[e] w r) (C:dp (f e) w q d):kV base gy h l n v i k m U (λj=>if j=e then w else f j) R r d:=by
 have u:=λp u=>C.other p (o.bd p u).2 λhF=>o.cc e p W hF u
 refine⟨(u gy o.nH).trans o.y,cu o.bH λg D=>u g (o.uS g D),cu o.a λg D=>u g (o.cm g D),cu o.b λg D=>u g (o.uT g D),cu o.c λg D=>u g (o.rc g D),
  λj x=> ?_,λF E p L M N=> ?_,λj p x=> ?_,λj p x=> ?_,λp u=>⟨(o.bd p u).1,c0 (o.bd p u).2 C.size⟩,o.nH,o.uS,o.cm,o.uT,o.rc,
  o.pS.ak λs _ _ I _ _=>u s I,o.Am.ak λs _ _ I _ _=>u s I,o.fG.ak λs _ _ I _ _=>u s I,o.yY,o.nE,o.rY,o.nF,cd o.bs C.size⟩
 .by_cases B:j=e
  .simp_all
  simp only[a7 B];exact(o.fB j x).hA C.size λp hF=>(λj p x B hF=>C.other p ((o.fB j x).lt p hF) (o.kD j e p x W B hF)) j p x B hF
 .by_cases P:F=e
  .have Q:E≠e:=λt=>N (P.trans t.symm)
   subst P;simp only[hQ,a7 Q];intro hF S;rcases C.sub p hF with z|z
   .exact o.kD F E p L M N z S
   have :=(o.fB E M).lt p S;omega
  by_cases Q:E=e
  .subst Q;simp only[hQ,a7 P];intro hF S;rcases C.sub p S with z|z
   .exact o.kD F E p L M N hF z
   have :=(o.fB F L).lt p hF;omega
  simp only[a7 P,a7 Q];exact o.kD F E p L M N
 .by_cases B:j=e
  .subst B;simp only[hQ];intro hF;rcases C.sub p hF with z|z
   .exact o.qv j p x z
   have :=o.bs;omega
  simp only[a7 B];exact o.qv j p x
 by_cases B:j=e
 .subst B;simp only[hQ];intro hF u;rcases C.sub p hF with z|z
  .exact o.cc j p x z u
  have :=(o.bd p u).2;omega
 simp only[a7 B];exact o.cc j p x
theorem kV.q2{base gy}(g:kV base gy h j l n b i k m f a e d)(r:c<b.length)(p:dp (f c) w d q):Below base d q:=
 ⟨p.os,p.tape,p.output,p.size,λo s=>p.other o (c0 s g.bs) λhF=>by have :=g.qv c o r hF;omega⟩
def ko (base gy b:Nat) (w a:World):Prop:=∃c d e f g h i j k R,kV base gy c d e f g h i j k R b a/\Below base w a
theorem kV.ar9 {base:Nat} {lc:List Nat} (p:kV base c j v l n k i m lc f w r d) (hN:DV 36 65 138 2 #[A (-7070),A i.length] d c h v i e (λx=> #[j,x,l,n]) q) (yr:∀o,h.ownBlock=some o->∀B,B<k.length->¬f B o) (Y:∀o,h.ownBlock=some o->¬w o/\base<=o):ko base c (r+1) d q:=by
 obtain⟨ni,cT,U,hO,oh,L,dJ,W,n1,On⟩:=hN;have Q:∀{D:TypeId} {o e:Nat} {u:Value} {xs:List Value},d.ownsRow 0 D o u e xs->∀{z:Nat},u.ownBlock=some z->d.heap[z]?=some (.cells ((match d.heap[z]? with |some (.cells E _ _)=>E|_=> #[])) D):=λal z F=>by obtain⟨R,cH⟩:=b0 al F;rw[cH]
 have S:∀(z:Nat) (R:Array Value) (t:TypeId),w z->d.heap[z]?=some (.cells R t)->t≠84->t≠138->q.heap[z]?=d.heap[z]?:=λz R t F tQ X h2=>L.other z (aU tQ) λM=>by
  rcases M with rfl|M|M
  .exact X (cQ tQ p.y)
  .exact(Y z M).1 F
  obtain⟨bq,gP⟩:=b0 p.a M;exact h2 (cQ tQ gP)
 have Iv:=λB o N hF=>L.other o ((p.fB B N).lt o hF) λM=>by
  rcases M with rfl|M|M
  .exact p.cc B _ N hF p.nH
  .exact yr o M B N hF
  exact p.cc B o N hF (p.cm o M)
 have Oo:∀o,ni.ownBlock=some o->w o\/(h.ownBlock=some o/\o<q.heap.size)\/(d.heap.size<=o/\o<q.heap.size):=λo P=>by
  rcases dJ with hn|hn
  .rw[hn]at P;exact .inl (p.cm o P)
  exact .inr (.inr ⟨hn o P,(cX oh o P).2⟩)
 have Oq:∀C,C<4->∀g,(U C).ownBlock=some g->w g\/(h.ownBlock=some g/\g<q.heap.size)\/(d.heap.size<=g/\g<q.heap.size):=λC aB g aq=>by
  rcases On C aB g aq with X|X
  .exact .inr (.inl ⟨X,(W.s C aB).lt g aq⟩)
  exact .inr (.inr ⟨by omega,(W.s C aB).lt g aq⟩)
 have hlen:i.length+1=(i++[cT]).length:=by simp
 rw[hlen]at oh;refine⟨j,ni,l,n,k,i++[cT],m,lc,f,λo=>w o\/(h.ownBlock=some o/\o<q.heap.size)\/(d.heap.size<=o/\o<q.heap.size),⟨hO,cu p.bH λz F=>S z _ _ (p.uS z F) (Q p.bH F) (by decide) (by decide),oh,cu p.b λz F=>S z _ _ (p.uT z F) (Q p.b F) (by decide) (by decide),cu p.c λz F=>S z _ _ (p.rc z F) (Q p.c F) (by decide) (by decide),λB N=>((p.fB B N).hA L.size λo hF=>Iv B o N hF).more (oe _),p.kD,p.qv,λB o N hF I=> ?_,λo I=> ?_,.inl p.nH,λz F=>.inl (p.uS z F),Oo,λz F=>.inl (p.uT z F),λz F=>.inl (p.rc z F),((p.pS.ak λz R t F Q L=>S z R t F Q (by rcases L with rfl|rfl<;>decide) (by rcases L with rfl|rfl<;>decide)).mono (λz F=>Or.inl F)).add W (.inr (.inr ⟨by omega,aU W.row⟩)) Oq,(p.Am.ak λz R t F Q L=>S z R t F Q (by rcases L with rfl|rfl<;>decide) (by rcases L with rfl|rfl<;>decide)).mono (λz F=>Or.inl F),(p.fG.ak λz R t F Q L=>S z R t F Q (by rcases L with rfl|rfl<;>decide) (by rcases L with rfl|rfl<;>decide)).mono (λz F=>Or.inl F),cd p.yY (oe _),by simp;have :=p.nE;omega,cd p.rY (oe _),cd p.nF (oe _),cd p.bs L.size⟩,?_⟩
 .rcases I with I|I|I
  .exact p.cc B o N hF I
  .exact yr o I.1 B N hF
  have :=(p.fB B N).lt o hF;omega
 .rcases I with I|I|I
  .exact⟨(p.bd o I).1,c0 (p.bd o I).2 L.size⟩
  .exact⟨(Y o I.1).2,I.2⟩
  have :=p.bs;exact⟨by omega,I.2⟩
 refine L.q2 (λo P=> ?_) p.bs;rcases P with rfl|P|P
 .exact(p.bd _ p.nH).1
 .exact(Y o P).2
 exact(p.bd o (p.cm o P)).1
theorem kV.asa {base:Nat} {lc:List Nat} (p:kV base c j l v n k m i lc f w r d) (hN:DV 57 53 140 3 #[A (-7070-(i.length:Int)),A 0,A 0] d c h v i e (λx=> #[j,l,x,n]) q) (yr:∀o,h.ownBlock=some o->∀B,B<k.length->¬f B o) (Y:∀o,h.ownBlock=some o->¬w o/\base<=o):ko base c (r+1) d q:=by
 obtain⟨ni,cT,U,hO,oh,L,dJ,W,n1,On⟩:=hN;have Q:∀{D:TypeId} {o e:Nat} {u:Value} {xs:List Value},d.ownsRow 0 D o u e xs->∀{z:Nat},u.ownBlock=some z->d.heap[z]?=some (.cells ((match d.heap[z]? with |some (.cells E _ _)=>E|_=> #[])) D):=λal z F=>by obtain⟨R,cH⟩:=b0 al F;rw[cH]
 have S:∀(z:Nat) (R:Array Value) (t:TypeId),w z->d.heap[z]?=some (.cells R t)->t≠84->t≠140->q.heap[z]?=d.heap[z]?:=λz R t F tQ X h2=>L.other z (aU tQ) λM=>by
  rcases M with rfl|M|M
  .exact X (cQ tQ p.y)
  .exact(Y z M).1 F
  obtain⟨bq,gP⟩:=b0 p.b M;exact h2 (cQ tQ gP)
 have Iv:=λB o N hF=>L.other o ((p.fB B N).lt o hF) λM=>by
  rcases M with rfl|M|M
  .exact p.cc B _ N hF p.nH
  .exact yr o M B N hF
  exact p.cc B o N hF (p.uT o M)
 have Oo:∀o,ni.ownBlock=some o->w o\/(h.ownBlock=some o/\o<q.heap.size)\/(d.heap.size<=o/\o<q.heap.size):=λo P=>by
  rcases dJ with hn|hn
  .rw[hn]at P;exact .inl (p.uT o P)
  exact .inr (.inr ⟨hn o P,(cX oh o P).2⟩)
 have Oq:∀C,C<4->∀g,(U C).ownBlock=some g->w g\/(h.ownBlock=some g/\g<q.heap.size)\/(d.heap.size<=g/\g<q.heap.size):=λC aB g aq=>by
  rcases On C aB g aq with X|X
  .exact .inr (.inl ⟨X,(W.s C aB).lt g aq⟩)
  exact .inr (.inr ⟨by omega,(W.s C aB).lt g aq⟩)
 have hlen:i.length+1=(i++[cT]).length:=by simp
 rw[hlen]at oh;refine⟨j,l,ni,n,k,m,i++[cT],lc,f,λo=>w o\/(h.ownBlock=some o/\o<q.heap.size)\/(d.heap.size<=o/\o<q.heap.size),⟨hO,cu p.bH λz F=>S z _ _ (p.uS z F) (Q p.bH F) (by decide) (by decide),cu p.a λz F=>S z _ _ (p.cm z F) (Q p.a F) (by decide) (by decide),oh,cu p.c λz F=>S z _ _ (p.rc z F) (Q p.c F) (by decide) (by decide),λB N=>((p.fB B N).hA L.size λo hF=>Iv B o N hF).more (oe _),p.kD,p.qv,λB o N hF I=> ?_,λo I=> ?_,.inl p.nH,λz F=>.inl (p.uS z F),λz F=>.inl (p.cm z F),Oo,λz F=>.inl (p.rc z F),(p.pS.ak λz R t F Q L=>S z R t F Q (by rcases L with rfl|rfl<;>decide) (by rcases L with rfl|rfl<;>decide)).mono (λz F=>Or.inl F),((p.Am.ak λz R t F Q L=>S z R t F Q (by rcases L with rfl|rfl<;>decide) (by rcases L with rfl|rfl<;>decide)).mono (λz F=>Or.inl F)).add W (.inr (.inr ⟨by omega,aU W.row⟩)) Oq,(p.fG.ak λz R t F Q L=>S z R t F Q (by rcases L with rfl|rfl<;>decide) (by rcases L with rfl|rfl<;>decide)).mono (λz F=>Or.inl F),cd p.yY (oe _),cd p.nE (oe _),by simp;have :=p.rY;omega,cd p.nF (oe _),cd p.bs L.size⟩,?_⟩
 .rcases I with I|I|I
  .exact p.cc B o N hF I
  .exact yr o I.1 B N hF
  have :=(p.fB B N).lt o hF;omega
 .rcases I with I|I|I
  .exact⟨(p.bd o I).1,c0 (p.bd o I).2 L.size⟩
  .exact⟨(Y o I.1).2,I.2⟩
  have :=p.bs;exact⟨by omega,I.2⟩
 refine L.q2 (λo P=> ?_) p.bs;rcases P with rfl|P|P
 .exact(p.bd _ p.nH).1
 .exact(Y o P).2
 exact(p.bd o (p.uT o P)).1
theorem kV.asb {base:Nat} {lb:List Nat} (p:kV base c j l n v k m lb i f w r d) (hN:DV 3 24 141 1 #[A (-7070-(i.length:Int))] d c h v i e (λx=> #[j,l,n,x]) q) (yr:∀o,h.ownBlock=some o->∀B,B<k.length->¬f B o) (Y:∀o,h.ownBlock=some o->¬w o/\base<=o):ko base c (r+1) d q:=by
 obtain⟨ni,cT,U,hO,oh,L,dJ,W,n1,On⟩:=hN;have Q:∀{D:TypeId} {o e:Nat} {u:Value} {xs:List Value},d.ownsRow 0 D o u e xs->∀{z:Nat},u.ownBlock=some z->d.heap[z]?=some (.cells ((match d.heap[z]? with |some (.cells E _ _)=>E|_=> #[])) D):=λal z F=>by obtain⟨R,cH⟩:=b0 al F;rw[cH]
 have S:∀(z:Nat) (R:Array Value) (t:TypeId),w z->d.heap[z]?=some (.cells R t)->t≠84->t≠141->q.heap[z]?=d.heap[z]?:=λz R t F tQ X h2=>L.other z (aU tQ) λM=>by
  rcases M with rfl|M|M
  .exact X (cQ tQ p.y)
  .exact(Y z M).1 F
  obtain⟨bq,gP⟩:=b0 p.c M;exact h2 (cQ tQ gP)
 have Iv:=λB o N hF=>L.other o ((p.fB B N).lt o hF) λM=>by
  rcases M with rfl|M|M
  .exact p.cc B _ N hF p.nH
  .exact yr o M B N hF
  exact p.cc B o N hF (p.rc o M)
 have Oo:∀o,ni.ownBlock=some o->w o\/(h.ownBlock=some o/\o<q.heap.size)\/(d.heap.size<=o/\o<q.heap.size):=λo P=>by
  rcases dJ with hn|hn
  .rw[hn]at P;exact .inl (p.rc o P)
  exact .inr (.inr ⟨hn o P,(cX oh o P).2⟩)
 have Oq:∀C,C<4->∀g,(U C).ownBlock=some g->w g\/(h.ownBlock=some g/\g<q.heap.size)\/(d.heap.size<=g/\g<q.heap.size):=λC aB g aq=>by
  rcases On C aB g aq with X|X
  .exact .inr (.inl ⟨X,(W.s C aB).lt g aq⟩)
  exact .inr (.inr ⟨by omega,(W.s C aB).lt g aq⟩)
 have hlen:i.length+1=(i++[cT]).length:=by simp
 rw[hlen]at oh;refine⟨j,l,n,ni,k,m,lb,i++[cT],f,λo=>w o\/(h.ownBlock=some o/\o<q.heap.size)\/(d.heap.size<=o/\o<q.heap.size),⟨hO,cu p.bH λz F=>S z _ _ (p.uS z F) (Q p.bH F) (by decide) (by decide),cu p.a λz F=>S z _ _ (p.cm z F) (Q p.a F) (by decide) (by decide),cu p.b λz F=>S z _ _ (p.uT z F) (Q p.b F) (by decide) (by decide),oh,λB N=>((p.fB B N).hA L.size λo hF=>Iv B o N hF).more (oe _),p.kD,p.qv,λB o N hF I=> ?_,λo I=> ?_,.inl p.nH,λz F=>.inl (p.uS z F),λz F=>.inl (p.cm z F),λz F=>.inl (p.uT z F),Oo,(p.pS.ak λz R t F Q L=>S z R t F Q (by rcases L with rfl|rfl<;>decide) (by rcases L with rfl|rfl<;>decide)).mono (λz F=>Or.inl F),(p.Am.ak λz R t F Q L=>S z R t F Q (by rcases L with rfl|rfl<;>decide) (by rcases L with rfl|rfl<;>decide)).mono (λz F=>Or.inl F),((p.fG.ak λz R t F Q L=>S z R t F Q (by rcases L with rfl|rfl<;>decide) (by rcases L with rfl|rfl<;>decide)).mono (λz F=>Or.inl F)).add W (.inr (.inr ⟨by omega,aU W.row⟩)) Oq,cd p.yY (oe _),cd p.nE (oe _),cd p.rY (oe _),by simp;have :=p.nF;omega,cd p.bs L.size⟩,?_⟩
 .rcases I with I|I|I
  .exact p.cc B o N hF I
  .exact yr o I.1 B N hF
  have :=(p.fB B N).lt o hF;omega
 .rcases I with I|I|I
  .exact⟨(p.bd o I).1,c0 (p.bd o I).2 L.size⟩
  .exact⟨(Y o I.1).2,I.2⟩
  have :=p.bs;exact⟨by omega,I.2⟩
 refine L.q2 (λo P=> ?_) p.bs;rcases P with rfl|P|P
 .exact(p.bd _ p.nH).1
 .exact(Y o P).2
 exact(p.bd o (p.rc o P)).1
end
