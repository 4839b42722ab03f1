/- Our own text. -/
import Derived.Test.YtnkpogjiiohapaaGreatDoorA28
set_option linter.unusedSimpArgs false
set_option linter.unusedVariables false
set_option maxRecDepth 1000000
set_option maxHeartbeats 8000000
namespace Go.Proofs.YtnkpogjiiohapaaGreatDoor
open Go.RowKit Tryz
section
variable {a l q:Nat}{b d e f r:Value}{c:World}{h k m n:List Nat}{i:Nat->Nat->Prop}{j:Nat->Prop}
def va:gS:=⟨λ_=>[],s0,X2⟩
theorem asc(N:Nat):KM N va:=
 ⟨⟨λ_ _=>rfl,λ_ _ _ _=>rfl,λ_ _=>rfl,λ_ _ i n _ _=>⟨λh=>(by cases h),λh=>(by cases h)⟩,λ_ _ _ _ _=>trivial,λ_ _ _ _ _=>rfl,λ_ _ _ _ _ _ _=>rfl,λ_ _ _ _ _ _=>b6 _⟩,ig.new N,λ_ _ o a=>(by cases a),λ_ _ _ _=>rfl,λ_ _ _ _ _ _ _=>b6 _⟩
theorem asd{t:TypeId}(h:c.heap[a]?=some (.cells #[r,b,d,e] t)):(c.setCell (H a) f).heap[a]?=some (.cells #[f,b,d,e] t):=by simp[World.setCell,D4,h]
theorem kV.opened {base:Nat} {cf:Value} {b2:Nat} {w:World} (p:kV base l e f r cf h k m n i j b2 w) {Q L:World} {z N sp:Nat} (aA:J w Q) (au:xI Q q (λg=>w.heap.size<=g/\g<Q.heap.size) N sp va) (Y:J Q c)
  (aP:wg c z (λg=>Q.heap.size<=g/\g<c.heap.size) N va) (al:L.ownsRow 0 132 1 d (h.length+1) ((h++[c.heap.size]).flatMap iM))
  (aq:((c.alloc (.cells #[Z q,Z z,.slice none 0 0] 135)).alloc (.cells #[Z c.heap.size] 132)).grownBy L e.ownBlock)
  (hn:lB ((c.alloc (.cells #[Z q,Z z,.slice none 0 0] 135)).alloc (.cells #[Z c.heap.size] 132)) e d):ko base l (b2+1) w (L.setCell (H l) d):=by
 have hz1:=aA.size;have hz2:=Y.size;have xb:=aq.size;simp at xb;have hgy:=(p.bd l p.nH).2;have mP:=λg E=>(p.bd g (p.uS g E)).2
 have H5:(L.setCell (H l) d).heap.size=L.heap.size:=by simp
 have qm:∀g,g<=c.heap.size->g≠l->e.ownBlock≠some g->(L.setCell (H l) d).heap[g]?=(c.alloc (.cells #[Z q,Z z,.slice none 0 0] 135)).heap[g]?:=λg E I P=>
  (dE I).trans ((aq.block g (by simp;omega) (eE P)).trans (eX (by simp;omega)))
 have jt:∀g,g<w.heap.size->g≠l->e.ownBlock≠some g->(L.setCell (H l) d).heap[g]?=w.heap[g]?:=λg E I P=>
  (qm g (by omega) I P).trans ((eX (by omega)).trans ((Y.block g (by omega)).trans (aA.block g E)))
 have h1k:∀g,w.heap.size<=g->g<Q.heap.size->(L.setCell (H l) d).heap[g]?=Q.heap[g]?:=λg E dx=>
  (qm g (by omega) (by omega) (λv=>by have :=mP g v;omega)).trans ((eX (by omega)).trans (Y.block g dx))
 have h2k:∀g,Q.heap.size<=g->g<c.heap.size->(L.setCell (H l) d).heap[g]?=c.heap[g]?:=λg E dx=>
  (qm g (by omega) (by omega) (λv=>by have :=mP g v;omega)).trans (eX (by omega))
 have vy:(L.setCell (H l) d).heap[c.heap.size]?=some (.cells #[Z q,Z z,.slice none 0 0] 135):=
  (qm _ (bW _) (by omega) (λv=>by have :=mP _ v;omega)).trans (bZ c _)
 have zX:L.heap[l]?=some (.cells #[e,f,r,cf] 84):=by refine(aq.block l (by simp;omega) λv=> ?_).trans ((eX (by simp;omega)).trans ((eX (by omega)).trans ((Y.block l (by omega)).trans ((aA.block l hgy).trans p.y))));exact iX p.bH v.symm p.y (by decide)
 have bI:d.ownBlock≠some l:=λv=>by exact iX al v zX (by decide)
 have yu:=kd al bI (o:=0) d;have X:∀(s:Nat) (S:Array Value) (t:TypeId),j s->w.heap[s]?=some (.cells S t)->t≠84->t≠132->(L.setCell (H l) d).heap[s]?=w.heap[s]?:=λs S t F tQ I P=>jt s (aU tQ) (λv=>by subst v;exact I (cQ tQ p.y)) λv=>by obtain⟨bq,gP⟩:=b0 p.bH v;exact P (cQ tQ gP)
 have Iv:∀x g,x<h.length->i x g->(L.setCell (H l) d).heap[g]?=w.heap[g]?:=λx g U hF=>jt g ((p.fB x U).lt g hF) (λv=>p.cc x g U hF (v▸p.nH)) λv=>p.cc x g U hF (p.uS g v)
 have W:∀{v:TypeId} {g C:Nat} {u:Value} {xs:List Value},w.ownsRow 0 v g u C xs->∀{s:Nat},u.ownBlock=some s->w.heap[s]?=some (.cells ((match w.heap[s]? with |some (.cells D _ _)=>D|_=> #[])) v):=λal s F=>by obtain⟨S,cH⟩:=b0 al F;rw[cH]
 have oz:gT (L.setCell (H l) d) c.heap.size (λg=>w.heap.size<=g/\g<=c.heap.size) q z (.slice none 0 0) [] (λg=>w.heap.size<=g/\g<Q.heap.size) (λg=>Q.heap.size<=g/\g<c.heap.size) N sp va:=by exact⟨vy,hg _ _ _ _,au.hA (by omega) λg E=>h1k g E.1 E.2,aP.ak (by omega) λg E=>h2k g E.1 E.2,asc N,λg E=>⟨E.1,by omega⟩,λg E=>⟨by omega,by omega⟩,⟨by omega,bW _⟩,λg E=>by simp[Value.ownBlock]at E,λg I P=>by omega,λI=>by omega,λI=>by omega,λg E=>by simp[Value.ownBlock]at E,λg E=>by simp[Value.ownBlock]at E,λg E=>by omega⟩
 have hlen:h.length+1=(h++[c.heap.size]).length:=by simp
 rw[hlen]at yu;refine⟨d,f,r,cf,h++[c.heap.size],k,m,n,λB=>if B=h.length then(λg=>w.heap.size<=g/\g<=c.heap.size) else i B,λg=>j g\/(c.heap.size<g/\g<L.heap.size),⟨asd zX,yu,cu p.a λs F=>X s _ _ (p.cm s F) (W p.a F) (by decide) (by decide),cu p.b λs F=>X s _ _ (p.uT s F) (W p.b F) (by decide) (by decide),cu p.c λs F=>X s _ _ (p.rc s F) (W p.c F) (by decide) (by decide),λx U=> ?_,λlI jg g uG Aj aB=> ?_,λx g U=> ?_,λx g U=> ?_,λg M=> ?_,.inl p.nH,λg E=> ?_,λs F=>.inl (p.cm s F),λs F=>.inl (p.uT s F),λs F=>.inl (p.rc s F),
  (p.pS.ak λs S t F W R=>X s S t F W (by rcases R with rfl|rfl<;>decide) (by rcases R with rfl|rfl<;>decide)).mono (λs F=>Or.inl F),(p.Am.ak λs S t F W R=>X s S t F W (by rcases R with rfl|rfl<;>decide) (by rcases R with rfl|rfl<;>decide)).mono (λs F=>Or.inl F),(p.fG.ak λs S t F W R=>X s S t F W (by rcases R with rfl|rfl<;>decide) (by rcases R with rfl|rfl<;>decide)).mono (λs F=>Or.inl F),by simp;have :=p.yY;omega,cd p.nE (oe _),cd p.rY (oe _),cd p.nF (oe _),by have :=p.bs;omega⟩,?_⟩
 .by_cases hl:x<h.length
  .rw[Cf hl];simp only[a7 (show x≠h.length by omega)];exact((p.fB x hl).hA (by omega) λg hF=>Iv x g hl hF).more (oe _)
  have :x=h.length:=by simp at U;omega
  subst this;simp;exact⟨q,z,.slice none 0 0,[],_,_,N,sp,_,by simp,oz⟩
 .simp at uG Aj;by_cases I:lI=h.length
  .have P:jg≠h.length:=λv=>aB (I.trans v.symm)
   simp only[bn I,a7 P];intro hF yI;have :=(p.fB jg (by omega)).lt g yI;omega
  by_cases P:jg=h.length
  .simp only[bn P,a7 I];intro hF yI;have :=(p.fB lI (by omega)).lt g hF;omega
  simp only[a7 I,a7 P];exact p.kD lI jg g (by omega) (by omega) aB
 .simp at U;by_cases I:x=h.length
  .simp only[bn I];intro hF;have :=p.bs;omega
  simp only[a7 I];exact p.qv x g (by omega)
 .simp at U;by_cases I:x=h.length
  .simp only[bn I];intro hF M;rcases M with M|M
   .have :=(p.bd g M).2;omega
   omega
  simp only[a7 I];intro hF M;have :=(p.fB x (by omega)).lt g hF;rcases M with M|M
  .exact p.cc x g (by omega) hF M
  omega
 .rcases M with M|M
  .exact⟨(p.bd g M).1,by have :=(p.bd g M).2;omega⟩
  have :=p.bs;exact⟨by omega,by omega⟩
 .rcases hn with hn|hn
  .rw[hn]at E;exact .inl (p.uS g E)
  have I:=hn g E;simp at I;exact .inr ⟨by omega,by have :=(cX al g E).2;omega⟩
 have mU:=p.bs;have R:aR (λg=>g=l\/e.ownBlock=some g) w (L.setCell (H l) d):=
  (aR.cL (aA.trans (Y.mono hz1))).trans ((aR.cL ((aV c _).alloc (by simp) _)).trans ((aR.up aq λg E=>.inr E).trans (aR.it _ (.inl rfl))))
 refine R.q2 (λg E=> ?_) mU;rcases E with rfl|E
 .exact(p.bd _ p.nH).1
 exact(p.bd g (p.uS g E)).1
theorem ase (N s:Nat) (c:1<=N) (d:N<=4) (f:1<=s) (g:s<=50) (w:World):
  O 37 #[A N,A s] w λe a=>J w a/\∃x,e=ad (.tuple #[Z x,A 0])/\xI a x (λk=>w.heap.size<=k/\k<a.heap.size) N s va:=
 (apm N s c d f g w).mono λe a ⟨i,r,x,j,l⟩=>⟨i,r,j,_,_,x,l,λk b=>b.elim id λh=>h.elim,λk b=>b.2⟩
theorem asf (N s:Nat) (f:1<=N) (g:N<=4) (h:1<=s) (i:s<=50) (w:World):
  O 93 #[A N,A s] w λe b=>J w b/\∃r,e=ad (.tuple #[Z r,A 0])/\wg b r (λk=>w.heap.size<=k/\k<b.heap.size) N va:=
 (aqN N s f g h i w).mono λe b ⟨j,r,F,L,x,l,c,d⟩=>⟨j,r,l,F,L,_,x,c,λk a=>by
  rcases a with a|a|a
  .exact⟨d k (.inl a),c.cm.lt k a⟩
  .exact⟨d k (.inr a),c.lt k a⟩
  simp_all,λk a=>a.2⟩
theorem asg {base:Nat} (g:kV base a b d e f h k m n i j l c) (oJ:l<2000000000000) (p B:Int):
  O 66 #[Z a,A p,A B] c λq R=>q=ad (.bool true)/\ko base a (l+1) c R:=by
 by_cases S:1<=p/\p<=4/\1<=B/\B<=50
 .obtain⟨N,rfl⟩:∃N:Nat,p=N:=⟨p.toNat,by omega⟩;obtain⟨I,rfl⟩:∃N:Nat,B=N:=⟨B.toNat,by omega⟩;have C:=ag (ase N I (by omega) (by omega) (by omega) (by omega) c);have D:=ag (asf N I (by omega) (by omega) (by omega) (by omega));have FN:=g.yY;obtain⟨s,t,rfl,jT,gP,aH⟩:=bz g.bH;have dG:=(g.bd a g.nH).2;go_enter func66,ntmps66;go_wp2_with (first
   |(go_at_call 37;refine C.o.mono ?_;rintro q L ⟨U,x,rfl,W⟩;have E:=U;have X:=W)
   |(go_at_call 93;refine(D.o L).mono ?_;rintro q w ⟨Y,r,rfl,iW⟩;have F:=Y;have gh:=iW;have hz1:=E.size;have hz2:=F.size;have z:=ag ((g.dn E).dn F);have y0:w.cell? (H a)=some (.slice s h.length t):=(by simp[World.cell?,z.o.y]);have r2:=show some a≠(Value.slice s h.length t).ownBlock from λhP=>by(exact iX z.o.bH hP.symm z.o.y (by decide)))
   |(at_builtin;refine CV iM 1 8 77 132 (.pointer none) (by rfl) underlying77 rfl (by omega) (λ_=>rfl) rfl (.tmp 39) (.tmp 44) rfl 0 (.slice s h.length t) h rfl (show((w.alloc (.cells #[Z x,Z r,.slice none 0 0] 135)).alloc (.cells #[Z w.heap.size] 132)).ownsRow 0 132 1 (.slice s h.length t) h.length (h.flatMap iM) from dI z.o.bH (by go_grown)) (w.heap.size+1) 1 w.heap.size rfl (show ∀v u,(iM w.heap.size)[v]?=some u->((w.alloc (.cells #[Z x,Z r,.slice none 0 0] 135)).alloc (.cells #[Z w.heap.size] 132)).cell? (K (w.heap.size+1) v)=some u from UR (by simp)) (Qh _) (by omega) (by unfold maxLen;omega) (b6 _) ?_;intro v4 w4 M P iu;have Q:=(P.block a (by simp;omega) r2).trans ((eX (by simp;omega)).trans ((eX (by omega)).trans z.o.y));obtain⟨a4,lo,rfl,xg,yo,yp⟩:=bz M;have bq:w4.cell? (H a)=some (.slice s h.length t):=(by simp[World.cell?,Q]);have xX:=cV Q 0))
  go_ret
  exact⟨rfl,g.opened E X F gh M P iu⟩
 have C:=ag (apl p B S);have D:=ag (aiJ p B (by omega));have z:=ag (show ko base a (l+1) c c from⟨_,_,_,_,_,_,_,_,_,_,g.more (oe _),ca _ _⟩);go_enter func66,ntmps66;go_wp2_with (first
  |(go_at_call 37;refine(C.o c).mono ?_;rintro q L ⟨rfl,rfl⟩)
  |(go_at_call 93;refine(D.o _).mono ?_;rintro q w ⟨rfl,rfl⟩))
 go_ret
 exact⟨rfl,z.o⟩
def F2 (f:Int):Prop:=∀(w:World) (g:Nat) (F:Nat->Prop) (h:Nat),lN w g F h->∀o:kU,13<=o.aM->o.aM<=f->O 70 #[Z g,.agg #[A o.aM,A o.r,A o.c,A o.d,A o.i1,A o.i2,A o.bJ,.string o.key,A o.a,A o.b,.bool o.yes]] w λe i=>e=ad (.bool true)/\yX w g F (h+1) i
theorem afA {base x:Nat} {B C:Value} {w:World} (g:kV base x e f B C h k m n i j q w) (u:l<h.length) (o:kU) {p:Int} (D:F2 p) (v:13<=o.aM) (t:o.aM<=p):
  O 70 #[Z (h[l]),.agg #[A o.aM,A o.r,A o.c,A o.d,A o.i1,A o.i2,A o.bJ,.string o.key,A o.a,A o.b,.bool o.yes]] w λs y=>s=ad (.bool true)/\ko base x (q+1) w y:=by
 refine(D w h[l] (i l) q (g.fB l u) o v t).mono λs y z=>⟨z.1,?_⟩
 obtain⟨E,v,t⟩:=z.2;exact⟨_,_,_,_,_,_,_,_,_,_,(g.more (oe _)).bN u v t,g.q2 u t⟩
theorem afB {base z:Nat} {C D:Value} {w:World} (p:kV base z e f C D h k m n i j q w) (v:q<2000000000000) (x:l<h.length) (o:kU) (t:r5 o) (y:2<=o.aM) (R:o.aM<=8):
  O 68 #[Z (h[l]),.agg #[A o.aM,A o.r,A o.c,A o.d,A o.i1,A o.i2,A o.bJ,.string o.key,A o.a,A o.b,.bool o.yes]] w λg u=>g=ad (.bool true)/\ko base z (q+1) w u:=by
 have s:=p.fB l x;have E:O 68 #[Z (h[l]),.agg #[A o.aM,A o.r,A o.c,A o.d,A o.i1,A o.i2,A o.bJ,.string o.key,A o.a,A o.b,.bool o.yes]] w λg u=>g=ad (.bool true)/\yX w h[l] (i l) (q+1) u:=by
  by_cases F:o.aM=2
  .exact arJ s o t F
  by_cases I:o.aM=3
  .exact ar6 s o t I v
  by_cases L:o.aM=4
  .exact arK s o t L
  by_cases M:o.aM=5
  .exact ar7 s o t M v
  by_cases N:o.aM=6
  .exact ar8 s o N v
  by_cases P:o.aM=7
  .exact arL s o t P
  exact arM s o (by omega)
 refine E.mono λg u B=>⟨B.1,?_⟩
 obtain⟨S,Q,y⟩:=B.2;exact⟨_,_,_,_,_,_,_,_,_,_,(p.more (oe _)).bN x Q y,p.q2 x y⟩
theorem afC {base gy:Nat} {dw cf:Value} {w:World} (p:kV base gy e f dw cf h k m n i j q w) (oJ:q<2000000000000) (z:l<h.length) (o:kU) (x:r5 o) (p1:Pow w) (B:9<=o.aM) (xe:o.aM<=12):
  O 69 #[Z gy,Z (h[l]),.agg #[A o.aM,A o.r,A o.c,A o.d,A o.i1,A o.i2,A o.bJ,.string o.key,A o.a,A o.b,.bool o.yes]] w λt I=>t=ad (.bool true)/\ko base gy (q+1) w I:=by
 have U:=p.fB l z;have hna:=p.nE;have yj:=p.rY;have Ee:=p.nF;by_cases Sw:o.aM=9
 .refine(ar0 U (gy:=gy) o Sw p1).mono λt I C=>⟨C.1,?_⟩
  obtain⟨F,E,B,_⟩:=C.2;exact⟨_,_,_,_,_,_,_,_,_,_,(p.more (oe _)).bN z (E.more (oe _)) B,p.q2 z B⟩
 have W:∀{wm:World} {F:Nat->Prop} {v:Value},(∀g,F g->i l g)->(∀g,v.ownBlock=some g->w.heap.size<=g)->(∀g,v.ownBlock=some g->∀s,s<h.length->¬(if s=l then F else i s) g)/\(∀g,v.ownBlock=some g->¬j g):=λnz X=>by
  refine⟨λg x s aB hF=> ?_,λg x bO=>by have :=X g x;have :=(p.bd g bO).2;omega⟩;have ej:=X g x;by_cases Y:s=l
  .rw[bn Y]at hF;have :=(p.fB l z).lt g (nz g hF);omega
  rw[a7 Y]at hF;have :=(p.fB s aB).lt g hF;omega
 by_cases Sx:o.aM=10
 .refine(ar1 U o Sx p.y (λhF=>p.cc l _ z hF p.nH) (by omega) p.a (λg x hF=>p.cc l g z hF (p.cm g x))).mono λt I C=>⟨C.1,?_⟩
  obtain⟨wm,v,u,F,E,B,L,D,cP,M⟩:=C.2;have N:=p.bN z E B;obtain⟨P,Q⟩:=W (wm:=wm) L D;obtain⟨rx,ni,vb',xY,afD,la',lb',lc',FF',nr,R,S⟩:=N.ar9 M P λg x=>⟨Q g x,by have :=D g x;have :=p.bs;omega⟩
  exact⟨_,_,_,_,_,_,_,_,_,_,R,(p.q2 z B).trans S⟩
 by_cases e11:o.aM=11
 .refine(ar2 U o e11 p.y (λhF=>p.cc l _ z hF p.nH) (by omega) p.b (λg x hF=>p.cc l g z hF (p.uT g x)) x.key).mono λt I C=>⟨C.1,?_⟩
  obtain⟨wm,v,u,F,E,B,L,D,cP,M⟩:=C.2;have N:=p.bN z E B;obtain⟨P,Q⟩:=W (wm:=wm) L D;obtain⟨rx,ni,vb',xY,afD,la',lb',lc',FF',nr,R,S⟩:=N.asa M P λg x=>⟨Q g x,by have :=D g x;have :=p.bs;omega⟩
  exact⟨_,_,_,_,_,_,_,_,_,_,R,(p.q2 z B).trans S⟩
 refine(ar5 U o (by omega) p.y (λhF=>p.cc l _ z hF p.nH) (by omega) p.c (λg x hF=>p.cc l g z hF (p.rc g x))).mono λt I C=>⟨C.1,?_⟩
 obtain⟨wm,v,u,F,E,B,L,D,cP,M⟩:=C.2;have N:=p.bN z E B;obtain⟨P,Q⟩:=W (wm:=wm) L D;obtain⟨rx,ni,vb',xY,afD,la',lb',lc',FF',nr,R,S⟩:=N.asb M P λg x=>⟨Q g x,by have :=D g x;have :=p.bs;omega⟩
 exact⟨_,_,_,_,_,_,_,_,_,_,R,(p.q2 z B).trans S⟩
end
section
attribute [local go_sem ↓] Go.wp_at_zero Go.wp_at_succ
variable {a c r s:Nat}{b:World}{d i k m:List Nat}{e:Nat->Nat->Prop}{f:Nat->Prop}{h j l n u:Value}{q:Int}
theorem Ot{W:World}{b c d e f g h i:Int}{j:ByteArray}{yes:Bool}(k:W.heap[a]?=some (.cells #[A q,A b,A c,A d,A e,A f,A g,.string j,A h,A i,.bool yes] 87)):
  W.cell? (H a)=some (A q)/\W.cell? (K a 1)=some (A b)/\W.cell? (K a 2)=some (A c)/\W.cell? (K a 3)=some (A d)/\W.cell? (K a 4)=some (A e)/\W.cell? (K a 5)=some (A f)/\W.cell? (K a 6)=some (A g)/\W.cell? (K a 7)=some (.string j)/\W.cell? (K a 8)=some (A h)/\W.cell? (K a 9)=some (A i)/\W.cell? (K a 10)=some (.bool yes):=by
 refine⟨?_,?_,?_,?_,?_,?_,?_,?_,?_,?_,?_⟩<;>simp[World.cell?,k]
theorem afE{e:TypeId}(h:b.ownsRow 0 e 1 (aa c a r) a (d.flatMap iM))(g:a=d.length)(i:Nat)(j:i<d.length):b.cell? (K c i)=some (Z (d[i])):=by have :=jl (f:=iM) (k:=1) (λ_=>rfl) h g i j 0 (by omega);simpa[iM]using this
theorem ko.from{w'}{base:Nat}{w:World}(d:J w b)(e:base<=w.heap.size)(h:ko base a c b w'):ko base a c w w':=by obtain⟨f,g,i,j,k,l,m,n,o,R,p,q⟩:=h;exact⟨f,g,i,j,k,l,m,n,o,R,p,(d.mono e).trans q⟩
theorem ash {base:Nat} {u:List Nat} {q:Nat} {w:World} (g:kV base s h j l n i k m u e f q w) (v:q<2000000000000) (o:kU) (x:o.aM=1):
  O 35 #[Z s,.agg #[A o.aM,A o.r,A o.c,A o.d,A o.i1,A o.i2,A o.bJ,.string o.key,A o.a,A o.b,.bool o.yes]] w λp y=>p=ad (.bool true)/\ko base s (q+1) w y:=by
 rw[x];have t:=aV w (.cells #[A 1,A o.r,A o.c,A o.d,A o.i1,A o.i2,A o.bJ,.string o.key,A o.a,A o.b,.bool o.yes] 87);go_enter func35,ntmps35;go_wp2_with (first
  |(go_at_call 66;refine(asg (g.dn t) v o.a o.b).mono ?_;rintro p B ⟨rfl,z⟩))
 go_ret
 exact⟨rfl,z.from t g.bs⟩
theorem asi {base:Nat} {u:List Nat} {w:World} (g:kV base a h j l n i k m u e f c w) (o:kU) (z:2<=o.aM/\o.aM<=22) (v:i.length=0):
  O 35 #[Z a,.agg #[A o.aM,A o.r,A o.c,A o.d,A o.i1,A o.i2,A o.bJ,.string o.key,A o.a,A o.b,.bool o.yes]] w λp x=>p=ad (.bool true)/\ko base a (c+1) w x:=by
 have t:=aV w (.cells #[A o.aM,A o.r,A o.c,A o.d,A o.i1,A o.i2,A o.bJ,.string o.key,A o.a,A o.b,.bool o.yes] 87);obtain⟨q,s,rfl,B,C,D⟩:=bz g.bH;have E:(w.alloc (.cells #[A o.aM,A o.r,A o.c,A o.d,A o.i1,A o.i2,A o.bJ,.string o.key,A o.a,A o.b,.bool o.yes] 87)).cell? (H a)=some (.slice q 0 s):=by have :=(g.dn t).y;simp[World.cell?,this,v]
 have F:=(g.bd a g.nH).2;have I:a≠w.heap.size:=by omega
 have L:¬(o.aM=1):=by omega
 have M:¬(o.aM<2):=by omega
 have N:¬(22<o.aM):=by omega
 go_enter func35,ntmps35;go_wp2;go_ret
 exact⟨rfl,show ko base a (c+1) w (w.alloc (.cells #[A o.aM,A o.r,A o.c,A o.d,A o.i1,A o.i2,A o.bJ,.string o.key,A o.a,A o.b,.bool o.yes] 87)) from⟨_,_,_,_,_,_,_,_,_,_,(g.dn t).more (oe _),t.mono g.bs⟩⟩
theorem asj {base:Nat} {cf:Value} {lc:List Nat} {w:World} (h:kV base a l n u cf i k m lc e f c w) (oJ:c<2000000000000) (o:kU) (v:r5 o) (p1:Pow w) (cE:F2 q) (cy:q<=22) (fq:2<=o.aM/\o.aM<=q) (M:0<i.length) {B:List PId} (P:w.heap[i[Ap o.r i.length]'(DZ _ M)]?=some (.cells #[Z r,Z s,j] 135)) (fK:hR 0 w j B) (Q:0<o.bJ/\0<B.length):
  O 35 #[Z a,.agg #[A o.aM,A o.r,A o.c,A o.d,A o.i1,A o.i2,A o.bJ,.string o.key,A o.a,A o.b,.bool o.yes]] w λg w'=>g=ad (.bool true)/\ko base a (c+1) w w':=by
 have C:=aV w (.cells #[A o.aM,A o.r,A o.c,A o.d,A o.i1,A o.i2,A o.bJ,.string o.key,A o.a,A o.b,.bool o.yes] 87);have a1:=bZ w (.cells #[A o.aM,A o.r,A o.c,A o.d,A o.i1,A o.i2,A o.bJ,.string o.key,A o.a,A o.b,.bool o.yes] 87);have FN:=h.yY;have FA:=(h.bd a h.nH).2;have NK:a≠w.heap.size:=by omega
 have F:=DZ o.r M;have Sz:=Ys o.r i.length v.r.1 v.r.2 M (by omega);have ek:=λW (D:J w W) (x z:Int) (xe:o.aM<=8)=>afB (h.dn D) oJ F {o with i1:=x,i2:=z} ⟨v.r,v.bJ,v.a,v.b,v.key⟩ fq.1 xe
 have kc:=λW (D:J w W) (x z:Int) (vJ:9<=o.aM) (iE:o.aM<=12)=>afC (h.dn D) oJ F {o with i1:=x,i2:=z} ⟨v.r,v.bJ,v.a,v.b,v.key⟩ (p1.ak D) vJ iE
 have wU:=λW (D:J w W) (x z:Int) (Yv:13<=o.aM)=>afA (h.dn D) F {o with i1:=x,i2:=z} cE Yv fq.2
 obtain⟨t,p,rfl,jT,gP,aH⟩:=bz h.bH;obtain⟨R,rfl⟩:=aH _ F;have y0:w.cell? (H a)=some (aa R i.length p):=by simp[World.cell?,h.y]
 have fj:=afE h.bH rfl _ F;have ng:=ag P;have hz:=aU P;obtain⟨at',Yw,rfl,Uy,jD,Yx⟩:=bz fK;unfold maxLen at jD;have S:=(Io P).2.2;have SA:=ak C y0;have MA:=ak C fj;have t2':=ak C S;have uH:=ag y0;have xW:=ag fj;have aB:=DZ o.bJ Q.2;have zD:=Ys o.bJ B.length v.bJ.1 v.bJ.2 Q.2 (by omega);obtain⟨gt,rfl⟩:=Yx _ aB;obtain⟨U,q1⟩:=fu.cells fK rfl _ aB;have oT:=e7 w _ U;generalize hpj:Ap o.bJ B.length=E at *;generalize uG:(B[E]).1=x at *;generalize Aj:(B[E]).2=z at *;have avh:(0:Int)<=(E:Int):=by simp
 have avi:(E:Int)<(B.length:Int):=by omega
 have X:=(aV w (.cells #[A o.aM,A o.r,A o.c,A o.d,A x,A z,A o.bJ,.string o.key,A o.a,A o.b,.bool o.yes] 87)).drew.drew;have c7:=bZ w (.cells #[A o.aM,A o.r,A o.c,A o.d,A x,A z,A o.bJ,.string o.key,A o.a,A o.b,.bool o.yes] 87);have nu:=Q.1;have pf:(0:Int)<(B.length:Int):=by omega
 generalize i[Ap o.r i.length]'(DZ _ M)=aQ at *;generalize Ap o.r i.length=Y at *;have asl:(0:Int)<=(Y:Int):=by simp
 have asm:(Y:Int)<(i.length:Int):=by omega
 have hz0:¬((i.length:Int)=0):=by omega
 have hz1:¬(i.length=0):=by omega
 have dK:¬(o.aM=1):=by omega
 have dx:¬(o.aM<2):=by omega
 have jp:¬(22<o.aM):=by omega
 go_enter func35,ntmps35;go_wp2;go_region_held3 (λW=>W.cell? (H a)=some (aa R i.length p)/\W.cell? (V w 1)=some (A o.r)/\W.cell? (K R Y)=some (Z aQ)) (first |exact⟨SA,(Ot a1).2.1,MA⟩)
  (first |(go_at_call 67;refine(Sz _).mono ?_;rintro g N ⟨rfl,rfl⟩))
 go_wp2;go_region_held3 (λW=>W.cell? (K aQ 2)=some (aa gt B.length Yw)/\W.cell? (V w 6)=some (A o.bJ)/\W.cell? (K gt (E*2))=some (A x)/\W.cell? (K gt (E*2+1))=some (A z)) (first |exact⟨ak C.drew S,(Ot (W:=(w.alloc (.cells #[A o.aM,A o.r,A o.c,A o.d,A o.i1,A o.i2,A o.bJ,.string o.key,A o.a,A o.b,.bool o.yes] 87)).drew) a1).2.2.2.2.2.2.1,ak C.drew U,ak C.drew q1⟩|exact⟨ak X S,(Ot (W:=(w.alloc (.cells #[A o.aM,A o.r,A o.c,A o.d,A x,A z,A o.bJ,.string o.key,A o.a,A o.b,.bool o.yes] 87)).drew.drew) c7).2.2.2.2.2.2.1,ak X U,ak X q1⟩)
  (first |(go_at_call 67;refine(zD _).mono ?_;rintro g N ⟨rfl,rfl⟩))
 by_cases Ou:o.aM<=8
 .go_wp2_with (first
   |(go_at_call 68;refine(ek _ ((aV w _).drew.drew) x z Ou).mono ?_;rintro g N ⟨rfl,I⟩;have L:=ag I))
  go_ret
  exact⟨rfl,L.o.from ((aV w _).drew.drew) h.bs⟩
 by_cases Ov:o.aM<=12
 .go_wp2_with (first
   |(go_at_call 69;refine(kc _ ((aV w _).drew.drew) x z (by omega) Ov).mono ?_;rintro g N ⟨rfl,I⟩;have L:=ag I))
  go_ret
  exact⟨rfl,L.o.from ((aV w _).drew.drew) h.bs⟩
 go_wp2_with (first
  |(go_at_call 70;refine(wU _ ((aV w _).drew.drew) x z (by omega)).mono ?_;rintro g N ⟨rfl,I⟩;have L:=ag I))
 go_ret
 exact⟨rfl,L.o.from ((aV w _).drew.drew) h.bs⟩
theorem asn {base:Nat} {cf:Value} {lc:List Nat} {w:World} (h:kV base a l n u cf i k m lc e f c w) (X:c<2000000000000) (o:kU) (x:r5 o) (p1:Pow w) (cE:F2 q) (cy:q<=22) (Y:2<=o.aM/\o.aM<=q) (E:0<i.length) {F:List PId} (P:w.heap[i[Ap o.r i.length]'(DZ _ E)]?=some (.cells #[Z r,Z s,j] 135)) (fK:hR 0 w j F) (Sy:¬(0<o.bJ/\0<F.length)):
  O 35 #[Z a,.agg #[A o.aM,A o.r,A o.c,A o.d,A o.i1,A o.i2,A o.bJ,.string o.key,A o.a,A o.b,.bool o.yes]] w λg w'=>g=ad (.bool true)/\ko base a (c+1) w w':=by
 have R:=ag (aV w (.cells #[A o.aM,A o.r,A o.c,A o.d,A o.i1,A o.i2,A o.bJ,.string o.key,A o.a,A o.b,.bool o.yes] 87));have a1:=ag (bZ w (.cells #[A o.aM,A o.r,A o.c,A o.d,A o.i1,A o.i2,A o.bJ,.string o.key,A o.a,A o.b,.bool o.yes] 87));have C:=h.bs;have FN:=h.yY;have FA:=(h.bd a h.nH).2;have NK:a≠w.heap.size:=by omega
 have I:=DZ o.r E;have Sz:=ag (Ys o.r i.length x.r.1 x.r.2 E (by omega));have ek:=ag (λW (D:J w W) (L M:Int) (xe:o.aM<=8)=>afB (h.dn D) X I {o with i1:=L,i2:=M} ⟨x.r,x.bJ,x.a,x.b,x.key⟩ Y.1 xe);have kc:=ag (λW (D:J w W) (L M:Int) (vJ:9<=o.aM) (iE:o.aM<=12)=>afC (h.dn D) X I {o with i1:=L,i2:=M} ⟨x.r,x.bJ,x.a,x.b,x.key⟩ (p1.ak D) vJ iE);have wU:=ag (λW (D:J w W) (L M:Int) (Yv:13<=o.aM)=>afA (h.dn D) I {o with i1:=L,i2:=M} cE Yv Y.2);obtain⟨t,p,rfl,jT,gP,aH⟩:=bz h.bH;obtain⟨N,rfl⟩:=aH _ I;have y0:w.cell? (H a)=some (aa N i.length p):=by simp[World.cell?,h.y]
 have fj:=afE h.bH rfl _ I;have ng:=ag P;have hz:=aU P;obtain⟨at',Yw,rfl,Uy,jD,Yx⟩:=bz fK;unfold maxLen at jD;have t2:w.cell? (K (i[Ap o.r i.length]'(DZ _ E)) 2)=some (.slice at' F.length Yw):=(Io P).2.2;have SA:=ak R.o y0;have MA:=ak R.o fj;have t2':=ak R.o t2;have uH:=ag y0;have xW:=ag fj;have kz:=ag t2;generalize i[Ap o.r i.length]'(DZ _ E)=aQ at *;generalize Ap o.r i.length=Q at *;have asl:(0:Int)<=(Q:Int):=kG _;have asm:(Q:Int)<(i.length:Int):=by omega
 have hz0:¬((i.length:Int)=0):=by omega
 have hz1:¬(i.length=0):=by omega
 have dK:¬(o.aM=1):=by omega
 have dx:¬(o.aM<2):=by omega
 have jp:¬(22<o.aM):=by omega
 clear h aH fK Yx P x;by_cases nu:0<o.bJ
 .have pf:¬((0:Int)<(F.length:Int)):=by omega
  have nY:F.length=0:=by omega
  go_enter func35,ntmps35;go_wp2;go_region_held3 (λW=>W.cell? (H a)=some (aa N i.length p)/\W.cell? (V w 1)=some (A o.r)/\W.cell? (K N Q)=some (Z aQ)) (first |exact⟨SA,(Ot a1.o).2.1,MA⟩)
   (first |(go_at_call 67;refine(Sz.o _).mono ?_;rintro g B ⟨rfl,rfl⟩))
  by_cases S:o.aM<=8
  .go_wp2_with (first
    |(go_at_call 68;refine(ek.o _ ((aV w _).drew) o.i1 o.i2 S).mono ?_;rintro g B ⟨rfl,v⟩;have z:=ag v;clear v))
   go_ret
   exact⟨rfl,z.o.from ((aV w _).drew) C⟩
  by_cases U:o.aM<=12
  .go_wp2_with (first
    |(go_at_call 69;refine(kc.o _ ((aV w _).drew) o.i1 o.i2 (by omega) U).mono ?_;rintro g B ⟨rfl,v⟩;have z:=ag v;clear v))
   go_ret
   exact⟨rfl,z.o.from ((aV w _).drew) C⟩
  go_wp2_with (first
   |(go_at_call 70;refine(wU.o _ ((aV w _).drew) o.i1 o.i2 (by omega)).mono ?_;rintro g B ⟨rfl,v⟩;have z:=ag v;clear v))
  go_ret
  exact⟨rfl,z.o.from ((aV w _).drew) C⟩
 go_enter func35,ntmps35;go_wp2;go_region_held3 (λW=>W.cell? (H a)=some (aa N i.length p)/\W.cell? (V w 1)=some (A o.r)/\W.cell? (K N Q)=some (Z aQ)) (first |exact⟨SA,(Ot a1.o).2.1,MA⟩)
  (first |(go_at_call 67;refine(Sz.o _).mono ?_;rintro g B ⟨rfl,rfl⟩))
 by_cases S:o.aM<=8
 .go_wp2_with (first
   |(go_at_call 68;refine(ek.o _ ((aV w _).drew) o.i1 o.i2 S).mono ?_;rintro g B ⟨rfl,v⟩;have z:=ag v;clear v))
  go_ret
  exact⟨rfl,z.o.from ((aV w _).drew) C⟩
 by_cases U:o.aM<=12
 .go_wp2_with (first
   |(go_at_call 69;refine(kc.o _ ((aV w _).drew) o.i1 o.i2 (by omega) U).mono ?_;rintro g B ⟨rfl,v⟩;have z:=ag v;clear v))
  go_ret
  exact⟨rfl,z.o.from ((aV w _).drew) C⟩
 go_wp2_with (first
  |(go_at_call 70;refine(wU.o _ ((aV w _).drew) o.i1 o.i2 (by omega)).mono ?_;rintro g B ⟨rfl,v⟩;have z:=ag v;clear v))
 go_ret
 exact⟨rfl,z.o.from ((aV w _).drew) C⟩
end
theorem aso {base i:Nat} {v y z B:Value} {j C D E:List Nat} {F:Nat->Nat->Prop} {R:Nat->Prop} {k:Nat} {w:World} (h:kV base i v y z B j C D E F R k w) (l:k<2000000000000) (o:kU) (n:r5 o) (p:Pow w) {f:Int} (q:F2 f) (s:f<=22) (t:1<=o.aM/\o.aM<=f):
  O 35 #[Z i,.agg #[A o.aM,A o.r,A o.c,A o.d,A o.i1,A o.i2,A o.bJ,.string o.key,A o.a,A o.b,.bool o.yes]] w λe I=>e=ad (.bool true)/\ko base i (k+1) w I:=by
 by_cases L:o.aM=1
 .exact ash h l o L
 by_cases M:j.length=0
 .exact asi h o ⟨by omega,by omega⟩ M
 have m:0<j.length:=by omega
 obtain⟨x,r,S,Q,U,W,N,X,P,Y,g⟩:=h.fB _ (DZ o.r m);by_cases u:0<o.bJ/\0<Q.length
 .exact asj h l o n p q s ⟨by omega,t.2⟩ m g.bb g.bv u
 exact asn h l o n p q s ⟨by omega,t.2⟩ m g.bb g.bv u
