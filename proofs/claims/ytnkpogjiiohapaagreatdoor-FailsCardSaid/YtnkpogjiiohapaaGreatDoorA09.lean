/- Our own text. -/
import Derived.Deep.DeepCutAuto
import Derived.Test.YtnkpogjiiohapaaGreatDoorA06
set_option linter.unusedSimpArgs false
set_option linter.unusedVariables false
set_option maxRecDepth 1000000
set_option maxHeartbeats 1600000
namespace Go.Proofs.YtnkpogjiiohapaaGreatDoor
open Go.RowKit Tryz
variable {a f l w S:Nat}{b s B R U:World}{c d e m C:Value}{h I P:Nat->Nat->Nat}{i F N:Nat->List bE}{j:Nat->Nat->Value}{k L Q:Nat->Value}{n:List bH}{q:TypeId}{r:Nat×Nat}{u:List Value}{v M:PId}{z:Nat->Prop}{D:List bg}{E:Nat->List bH}
theorem aeg(n s:Int)(h:n<1\/4<n\/s<1\/50<s)(w:World):
  O 93 #[A n,A s] w fun e a=>e=.returned (.tuple #[.pointer none,A 1])/\a=w:=by
 by_cases b:n<1
 ·clear h;go_enter func93,ntmps93;go_wp2;go_ret2
  exact⟨rfl,rfl⟩
 by_cases c:4<n
 ·clear h;go_enter func93,ntmps93;go_wp2;go_ret2
  exact⟨rfl,rfl⟩
 by_cases d:s<1
 ·clear h;go_enter func93,ntmps93;go_wp2;go_ret2
  exact⟨rfl,rfl⟩
 have f:50<s:=by omega
 clear h;go_enter func93,ntmps93;go_wp2;go_ret2
 exact⟨rfl,rfl⟩
def pN (N:Nat):Array Value:=madeCells (A 0).cells (N*1)
theorem Pb(N:Nat)(f:N<=4)(W:World):(Instr.makeSlice 24 (.int .i64 (N:Int)) (.int .i64 (N:Int))).run prog W=.ok (.slice (some ⟨W.heap.size,0,none⟩) N N) (W.alloc (.cells (pN N) 3)):=by
 obtain⟨i,a,b,c,d⟩:=info_parts (P:=prog) (e:=3) (z:=.int .i64 0) (size:=1) (bytes:=8) (by kernel_rfl);have :=run_make (P:=prog) W 24 3 i (.int .i64 0) underlying24 a b .i64 .i64 N N (by omega) (ary _) (by rw[d];omega) (by omega);rw[c]at this;simpa[pN]using this
def zn (N:Nat):Array Value:=madeCells (Value.agg #[.bool false,.slice none 0 0]).cells (N*2)
theorem aeh(N:Nat)(f:N<=4)(W:World):(Instr.makeSlice 226 (.int .i64 (N:Int)) (.int .i64 (N:Int))).run prog W=.ok (.slice (some ⟨W.heap.size,0,none⟩) N N) (W.alloc (.cells (zn N) 249)):=by
 obtain⟨i,a,b,c,d⟩:=info_parts (P:=prog) (e:=249) (z:=.agg #[.bool false,.slice none 0 0]) (size:=2) (bytes:=32) (by kernel_rfl);have :=run_make (P:=prog) W 226 249 i (.agg #[.bool false,.slice none 0 0]) underlying226 a b .i64 .i64 N N (by omega) (ary _) (by rw[d];omega) (by omega);rw[c]at this;simpa[zn]using this
def one (v:Value):List Value:=[v]
theorem one_cell(h:b.cell? (H a)=some c):∀j u,(one c)[j]?=some u->b.cell? (K a j)=some u:=by
 intro j u d
 match j with
 |0=>simp[one]at d;rw[<-d];exact h
 |j+1=>simp[one]at d
theorem Vx{b:Option Addr}:∀u∈one (.slice b a f),u.oneCell'=true:=by
 intro u c;simp[one]at c;subst c;rfl
def xZ (B:Nat) (w:World) (e:TypeId) (v:Value) (l:List Value):Prop:=w.ownsRow B e 1 v l.length (l.flatMap one)
def zeros (B:Nat) (w:World) (v:Value) (N:Nat):Prop:=w.ownsRow B 3 1 v N ((List.range N).map fun _=>A 0)
theorem aei(h:b.ownsRow f 255 1 c a (madeCells (Value.slice none 0 0).cells (a*1)).toList):b.ownsRow f 255 1 c a ((List.range a).map fun _=>Value.slice none 0 0):=by
 have e:(madeCells (Value.slice none 0 0).cells (a*1)).toList=(List.range a).map fun _=>Value.slice none 0 0:=by
  show(madeCells #[Value.slice none 0 0] (a*1)).toList=_;rw[toList_madeCells_one,arn];apply aq9;intro j;by_cases d:j<a<;>simp[d]
 rw[<-e];exact h
theorem Pc(w:World)(a b c:Obj):(((w.alloc a).alloc b).alloc c).drew.heap[w.heap.size]?=some a:=mq (mq (bI w a))
theorem Pd(w:World)(a b c:Obj):(((w.alloc a).alloc b).alloc c).drew.heap[w.heap.size+1]?=some b:=by
 have h:=mq (o':=c) (bI (w.alloc a) b);have e:(w.alloc a).heap.size=w.heap.size+1:=by simp
 rw[e]at h;exact h
theorem Pe(w:World)(a b c:Obj):(((w.alloc a).alloc b).alloc c).drew.heap[w.heap.size+1+1]?=some c:=by
 have h:=bI ((w.alloc a).alloc b) c;have e:((w.alloc a).alloc b).heap.size=w.heap.size+1+1:=by simp
 rw[e]at h;exact h
theorem aej(w:World)(a b c:Obj):J w (((w.alloc a).alloc b).alloc c).drew:=((((apY _ w).alloc (apX _) _).alloc (by simp) _).alloc (by simp;omega) _).drew
theorem Pf(h:b.heap[f]?=some (.cells (pN a) 3 (0,0)))(c:l<=f)(g:a<=4):zeros l b (.slice (some (H f)) a a) a:=by
 have e:(pN a).toList=(List.range a).map fun _=>A 0:=by
  unfold pN;show(madeCells #[A 0] (a*1)).toList=_;rw[toList_madeCells_one,arn];apply aq9;intro j;by_cases d:j<a<;>simp[d]
 have i:(pN a).size=a:=by rw[<-asv,e];simp
 refine⟨by simp,.inr ⟨f,a,pN a,rfl,c,h,apX _,by unfold maxLen;omega,by omega,?_⟩⟩;rw[e,aql (by simp)]
theorem sR(h:b.heap[a]?=some (.cells #[d,e,m,c] q r)):b.cell? (K a 3)=some c:=by
 simp[World.cell?,h]
theorem Vy(h:b.heap[a]?=some (.cells #[d,e,c,m] q r)):b.cell? (K a 2)=some c:=by
 simp[World.cell?,h]
theorem vh(h:b.heap[a]?=some (.cells #[c,d,e,m] q r)):b.cell? (H a)=some c:=by
 simp[World.cell?,h]
theorem vi(h:b.heap[a]?=some (.cells #[d,c,e,m] q r)):b.cell? (K a 1)=some c:=by
 simp[World.cell?,h]
theorem x5(h:b.heap[a]?=some (.cells #[d,e,c,m] q r)):b.cell? (K a 2)=some c:=by
 simp[World.cell?,h]
theorem aek{e g h:Option Addr}{i:Nat}(j:c=.slice e a w)(k:d.oneCell'=true):∀u∈[c,.slice g f S,d,.slice h l i],u.oneCell'=true:=by
 intro u b;simp at b;rcases b with rfl|rfl|rfl|rfl
 ·rw[j];rfl
 ·rfl
 ·exact k
 rfl
theorem Ls(h:b.heap[a]?=some (.cells #[c,d,e,C] q (0,0))):(b.setCell (K a 3) m).heap[a]?=some (.cells #[c,d,e,m] q (0,0)):=by
 have f:=aN h;obtain⟨_,g⟩:=ap8.1 h;simp[World.setCell,f,aq5,g]
theorem Pg{u:Value}(h:b.heap[a]?=some (.cells #[c,d,m,e] q (0,0))):(b.setCell (K a 2) u).heap[a]?=some (.cells #[c,d,u,e] q (0,0)):=by
 have f:=aN h;obtain⟨_,g⟩:=ap8.1 h;simp[World.setCell,f,aq5,g]
structure x7 where
 a:Value
 b:Value
 c:Value
 d:Value
variable {y:List x7}
def ee (x:x7):List Value:=[x.a,x.b,x.c,x.d]
theorem ael{x:x7}(h:s.heap[f]?=some (.cells #[x.a,x.b,x.c,x.d] q r)):∀j u,(ee x)[j]?=some u->s.cell? (K f j)=some u:=by
 intro j u e;simp only[World.cell?,h];rw[<-e];simp[ee]
theorem ca{w':World}{base:Nat}{size:Nat}{v:Value}(h:b.ownsRow base q size v a u)(c:∀g,v.ownBlock=some g->w'.heap[g]?=b.heap[g]?):w'.ownsRow base q size v a u:=by
 refine⟨h.1,?_⟩;rcases h.2 with d|⟨g,e,f,rfl,i,j,rest⟩
 ·exact .inl d
 exact .inr ⟨g,e,f,rfl,i,by rw[c g rfl];exact j,rest⟩
structure sS (w wr:World) (N r:Nat) (aS aJ aU:Value) (cs:List x7) (gG:List Value):Prop where
 aH:wr.heap[r]?=some (.cells #[A N,aS,aJ,aU] 222 (0,0))
 hw:w.heap.size<=r
 hI:wr.ownsRow w.heap.size 255 1 aS N ((List.range N).map fun _=>Value.slice none 0 0)
 fF:wr.ownsRow w.heap.size 225 4 aJ cs.length (cs.flatMap ee)
 hH:∀x∈cs,zeros w.heap.size wr x.a N
 Ph:cs.Pairwise fun x y=>x.a.ownBlock≠y.a.ownBlock
 cv:xZ w.heap.size wr 226 aU gG
 below:J w wr
theorem sS.ae{w wr r}{W:World}(h:sS w wr a r c d e y u)(b:J wr W):sS w W a r c d e y u:=
 ⟨bj h.aH b,h.hw,c7 h.hI b,c7 h.fF b,fun x f=>c7 (h.hH x f) b,h.Ph,c7 h.cv b,h.below.trans (b.mono h.below.size)⟩
theorem sS.rest{w wr E}(h:sS w wr l a c d e y E)(q:J wr s){u:Value}{o:Nat}{F n:Nat}{I:List Value}(t:wr.ownsRow S f F m n I)(r:s.grownBy b m.ownBlock)(L:w.heap.size<=S):
  (∀{base i size:Nat} {v':Value} {v:Nat} {x:List Value},wr.ownsRow base i size v' v x->i≠f->i≠222->(b.setCell (K a o) u).ownsRow base i size v' v x)/\
  (f≠222->b.heap[a]?=some (.cells #[A l,c,d,e] 222 (0,0)))/\J w (b.setCell (K a o) u):=by
 have M:=aN h.aH;have U:=q.size;have W:=r.size;refine⟨fun{base i size v' v x} D j z=>ca D (fun g N=> ?_),fun j=> ?_,?_⟩
 ·obtain⟨X,B⟩:=bq D N;have P:=aN B;rw[aqr _ _ _ _ (show g≠a by intro p;subst p;exact z (bK B h.aH)),r.block g (by omega) (fun p=>by obtain⟨Q,C⟩:=bq t p.symm;exact j (bK B C)),q.block g P]
 ·rw[r.block a (by omega) (fun p=>by obtain⟨Q,C⟩:=bq t p.symm;exact j (bK C h.aH)),q.block a M];exact h.aH
 have j:J w s:=h.below.trans (q.mono h.below.size);have z:J w b:=j.grown r (by have :=h.below.size;omega) (fun k R=>ap0 L (ap1 t k R).1);exact z.setCell h.hw _
theorem sS.copy{wr k p}(h:sS s wr a f d e m k p)(l:J wr R){x:x7}(q:B.ownsRow s.heap.size 225 4 c (k.length+1) ((k++[x]).flatMap ee))(r:R.grownBy B e.ownBlock)(t:zeros s.heap.size wr x.a a)(v:∀y∈k,y.a.ownBlock≠x.a.ownBlock):sS s (B.setCell (K f 2) c) a f d c m (k++[x]) p:=by
 obtain⟨rows,n,w⟩:=h.rest (u:=c) (o:=2) l h.fF r (apX _);have n:=n (by decide);refine⟨Pg n,h.hw,rows h.hI (by decide) (by decide),?_,fun y j=> ?_,?_,rows h.cv (by decide) (by decide),w⟩
 ·rw[ap4];exact iV q (fun g=>by obtain⟨D,z⟩:=bq q g;exact absurd (bK z n) (by decide)) _
 ·rcases ap7.1 j with j|j
  ·exact rows (h.hH y j) (by decide) (by decide)
  simp at j;subst j;exact rows t (by decide) (by decide)
 rw[arc];refine⟨h.Ph,by simp,fun i C b l=> ?_⟩;simp at l;subst l;exact v i C
theorem sS.link{wr k i}(h:sS b wr f a d e m k i)(n:J wr B){y:Value}(l:s.ownsRow b.heap.size 226 1 c (i.length+1) ((i++[y]).flatMap one))(p:B.grownBy s m.ownBlock):
  sS b (s.setCell (K a 3) c) f a d e c k (i++[y]):=by
 obtain⟨rows,j,q⟩:=h.rest (u:=c) (o:=3) n h.cv p (apX _);have j:=j (by decide);refine⟨Ls j,h.hw,rows h.hI (by decide) (by decide),rows h.fF (by decide) (by decide),fun y r=>rows (h.hH y r) (by decide) (by decide),h.Ph,?_,q⟩;unfold xZ;rw[ap4];exact iV l (fun g=>by obtain⟨v,t⟩:=bq l g;exact absurd (bK t j) (by decide)) _
def tZ (t c:Int) (a:Bool):bH:=⟨(t,c),1,a,(0,0),⟨#[]⟩,(0,0),(0,0),0,(0,0),[]⟩
def ua (t c:Int) (x b:PId):bH:=⟨(t,c),2,false,x,⟨#[]⟩,(0,0),b,0,(0,0),[]⟩
def x8 (kind t c:Int) (x:PId) (a:ByteArray) (n:Int) (b:PId) (d:List PId):bH:=⟨(t,c),kind,false,x,a,(0,0),(0,0),n,b,d⟩
def sT (kind t c:Int) (x y:PId) (n:Int) (a:PId) (b:List PId):bH:=⟨(t,c),kind,false,x,⟨#[]⟩,y,(0,0),n,a,b⟩
def ub (D:List bg) (t:Int) (b:Nat) (c:Int) (x:PId) (a:ByteArray) (n:Int):Except Int (List bH):=
 match lS D x a with
 |.error m=>.error m
 |.ok d=>if b<60 then .ok [x8 3 (t+1) c x a n (0,0) (d.map (·.cQ))] else .error 8
def uc (D:List bg) (t:Int) (b:Nat) (c:Int) (x:PId) (a:ByteArray) (d:Bool):Except Int (List bH):=
 match lS D x a with
 |.error m=>.error m
 |.ok e=>if b<59 then .ok [tZ (t+1) c d,x8 3 (t+2) c x a 0 (t+1,c) (e.map (·.cQ))] else .error 8
def sU (D:List bg) (t:Int) (d:Nat) (c:Int) (x:PId) (a:ByteArray):Except Int (List bH):=
 match lS D x a with
 |.error m=>.error m
 |.ok b=>if b.length=0 then .error 6 else if d<60 then .ok [x8 4 (t+1) c x a 0 (0,0) (b.map (·.cQ))] else .error 8
def sV (D:List bg) (t:Int) (a:Nat) (c:Int) (x:PId) (i n:Int):Except Int (List bH):=
 match iF D x with
 |.error m=>.error m
 |.ok l=>match jN l i with
  |none=>.error 7
  |some b=>if a<59 then .ok [ua (t+1) c x b,sT 3 (t+2) c x (t+1,c) n (0,0) []] else .error 8
def sW (D:List bg) (t:Int) (a:Nat) (c:Int) (x:PId) (i:Int) (d:Bool):Except Int (List bH):=
 match iF D x with
 |.error m=>.error m
 |.ok l=>match jN l i with
  |none=>.error 7
  |some b=>if a<58 then .ok [tZ (t+1) c d,ua (t+2) c x b,sT 3 (t+3) c x (t+2,c) 0 (t+1,c) []] else .error 8
def Dk (D:List bg) (x y:PId):List PId:=
 match oQ D x true with
 |.error _=>[]
 |.ok k=>match D[k]? with |some o=>(hg o ⟨#[]⟩ y).map (·.cQ)|none=>[]
def kD (D:List bg) (t:Int) (a:Nat) (c:Int) (x:PId) (i:Int) (kind n:Int):Except Int (List bH):=
 match iF D x with
 |.error m=>.error m
 |.ok l=>if i<0\/(l.length:Int)<=i then .error 7 else if a<60 then .ok [sT kind (t+1) c x (l.getD i.toNat (0,0)) n (0,0) (Dk D x (l.getD i.toNat (0,0)))] else .error 8
theorem Fu(t:Int):t+1+1=t+2:=by omega
theorem aem(t:Int):t+1+1+1=t+3:=by omega
theorem VA{g q:bE}(t:mo b f l c d e k i j h w n)(x:J b B)(y:gN B R f l c d e k i j h w n [g] L F I)(z:J R U)(D:gN U s f l c d e L F j I w (n++[g].map bE.p) [q] Q N P)(E:s.heap[a]?=some (.cells #[m,C] 36 (0,0)))(M:b.heap.size<=a)(S:g.du.ownBlock≠some a)(W:q.du.ownBlock≠some a)(u v:Value):
  gN b ((s.setCell (H a) u).setCell (K a 1) v) f l c d e k i j h w n [g,q] Q N P:=by
 refine gN.res t (((y.before z).trans D).after x) E M (fun o r=> ?_) u v;simp at r;rcases r with rfl|rfl
 ·exact S
 omega
theorem aen{t y z D}{x:World}{g q r:bE}(M:mo b f l c d e k i j h w n)(S:J b B)(W:gN B R f l c d e k i j h w n [g] L F I)(X:J R U)(Y:gN U t f l c d e L F j I w (n++[g].map bE.p) [q] Q N P)(dp:J t x)(al:gN x s f l c d e Q N j P w (n++[g].map bE.p++[q].map bE.p) [r] y z D)(ag:s.heap[a]?=some (.cells #[m,C] 36 (0,0)))(zk:b.heap.size<=a)(cH:g.du.ownBlock≠some a)(b8:q.du.ownBlock≠some a)(oN:r.du.ownBlock≠some a)(u v:Value):
  gN b ((s.setCell (H a) u).setCell (K a 1) v) f l c d e k i j h w n [g,q,r] y z D:=by
 refine gN.res M (((W.before X).trans ((Y.before dp).trans al)).after S) ag zk (fun o E=> ?_) u v;simp at E;rcases E with rfl|rfl|rfl
 ·exact cH
 ·exact b8
 omega
theorem aeo(h:mo b l w c d e k i j I f n)(ab:bX n<900000)(t x q:Int)(y:ByteArray)(dW:y.size<=maxLen):
  O 94 #[Z l,A f,.agg #[A t,A x],.string y,A q] b fun g X=>
   (∃m,ub (n.foldl cc c4) (bX n) (i f).length f (t,x) y q=.error m/\g=.returned (A m)/\J b X)\/
   (∃Y,ub (n.foldl cc c4) (bX n) (i f).length f (t,x) y q=.ok Y/\g=.returned (A 0)/\∃r F L M,r.map bE.p=Y/\gN b X l w c d e k i j I f n r F L M):=by
 have z:=(apY b.heap.size b).alloc (apX _) (.cells #[A t,A x] 36);have kQ:=aa (K6 (h.toShown.ae z) t x y dW);have az:=h;generalize k6:n.foldl cc c4=mm;rw[k6]at kQ;go_enter func94,ntmps94;go_wp2_with fail
 refine kQ.o.mono ?_;rintro g w1 ⟨C,⟨m,hn,N,rfl⟩|⟨v,P,N,hl,rfl,ax⟩⟩
 ·have aP:=And.intro N C;have oR:¬m=0:=by omega
  go_wp2;go_ret
  exact .inl ⟨m,by unfold ub;rw[aP.1],rfl,z.trans (aP.2.mono z.size)⟩
 have H1:=N;have Q:=ae (a:=(V b 0)) (v:=A t) C (by simp);have bx:=ae (a:=(V b 1)) (v:=A x) C (by simp);have qc:=aqd w1 _ Q;have B:=z.trans (C.mono z.size);have oS:=ax;have R:=az.j3 B;have qs:=AY R.room f R.hc 1 (by omega);go_wp2_with fail
 refine qs.mono ?_;rintro g D ⟨rfl,hT⟩;subst hT;by_cases S:(i f).length<60
 ·have U:decide ((i f).length+1<=60)=true:=decide_eq_true (by omega);rw[U];obtain⟨bV,bQ,aF,_,_,_⟩:=bm oS;have dT:=aa aF;subst aF;have Hm:J D D.drew:=(apY _ D).drew;have mO:=Hm;have Pk:=show b.heap.size<=D.drew.heap.size from B.size
  go_wp2;go_region_with (first
   |(go_at_call 146;refine(Kz _ P _ ?av ?ab).mono ?_;(case av=>assumption);(case ab=>omega);rintro g w2 ⟨u,rfl,W,aY⟩;obtain⟨kE,kF,o0,_,_,_⟩:=bm W;rw[ap2]at o0;subst o0;have E:=mO.trans aY;replace Q:=ae E Q;replace bx:=ae E bx;have fZ:=R.j3 E;have gr:=W.ids;have Fv:=fun s hk=>ap0 Pk (ap1 W s hk).1;have bd:=B.trans (E.mono B.size))
   |(go_at_call 145;refine(xX bd fZ S rfl (by omega) 0 0 3 t x 0 0 0 0 q 0 0 false y _ (P.map (·.cQ)) gr Fv).mono ?_;rintro g w3 ⟨rfl,F,L,M,Fw⟩;have vj:=Fw))
  all_goals(try go_wp2)
  all_goals go_ret
  all_goals exact .inr ⟨[x8 3 (bX n+1) f (t,x) y q (0,0) (P.map (·.cQ))],by unfold ub;rw[H1];simp only[S,if_true],rfl,_,F,L,M,rfl,vj⟩
 have U:decide ((i f).length+1<=60)=false:=decide_eq_false (by omega);rw[U];go_wp2;go_ret
 exact .inl ⟨8,by unfold ub;rw[H1];simp only[S,if_false],rfl,B⟩
theorem aep(h:mo b l w c d e k i j I f n)(ab:bX n<900000)(s t:Int)(x:ByteArray)(dW:x.size<=maxLen):
  O 97 #[Z l,A f,.agg #[A s,A t],.string x] b fun g w'=>
   (∃m,sU (n.foldl cc c4) (bX n) (i f).length f (s,t) x=.error m/\g=.returned (A m)/\J b w')\/
   (∃bo,sU (n.foldl cc c4) (bX n) (i f).length f (s,t) x=.ok bo/\g=.returned (A 0)/\∃q M N P,q.map bE.p=bo/\gN b w' l w c d e k i j I f n q M N P):=by
 have B:=(apY b.heap.size b).alloc (apX _) (.cells #[A s,A t] 36);have kQ:=aa (K6 (h.toShown.ae B) s t x dW);have az:=h;generalize k6:n.foldl cc c4=mm;rw[k6]at kQ;go_enter func97,ntmps97;go_wp2_with fail
 refine kQ.o.mono ?_;rintro g w1 ⟨D,⟨m,hn,Q,rfl⟩|⟨v,C,Q,hl,rfl,ax⟩⟩
 ·have aP:=And.intro Q D;have oR:¬m=0:=by omega
  go_wp2;go_ret
  exact .inl ⟨m,by unfold sU;rw[aP.1],rfl,B.trans (aP.2.mono B.size)⟩
 have R:=Q;have S:=ae (a:=(V b 0)) (v:=A s) D (by simp);have bx:=ae (a:=(V b 1)) (v:=A t) D (by simp);have qc:b.heap.size<w1.heap.size:=aqd w1 _ S;have y:=B.trans (D.mono B.size);have U:=ax;have W:=az.j3 y;have qs:=AY W.room f W.hc 1 (by omega);go_wp2_with fail
 refine qs.mono ?_;rintro g E ⟨rfl,hT⟩;subst hT;by_cases F:C.length=0
 ·have cC:=arb F;subst cC;obtain⟨bV,bQ,z,_,_,_⟩:=bm U;subst z;generalize decide ((i f).length+1<=60)=Pl;go_wp2;go_ret
  exact .inl ⟨6,by unfold sU;rw[R];rfl,rfl,y⟩
 have kf:=aa (show C≠[] from fun g=>F (by rw[g];rfl));by_cases X:(i f).length<60
 ·have Y:decide ((i f).length+1<=60)=true:=decide_eq_true (by omega);rw[Y];obtain⟨bV,bQ,z,_,_,_⟩:=bm U;have dT:=aa z;subst z;have Hm:J E E.drew:=(apY _ E).drew;have mO:=Hm;have Pk:=show b.heap.size<=E.drew.heap.size from y.size
  go_wp2;go_region_with (first
   |(go_at_call 146;refine(Kz _ C _ ?av ?ab).mono ?_;(case av=>assumption);(case ab=>omega);rintro g w2 ⟨u,rfl,hu,aY⟩;obtain⟨kE,kF,o0,_,_,_⟩:=bm hu;rw[ap2]at o0;subst o0;have L:=mO.trans aY;replace S:=ae L S;replace bx:=ae L bx;have fZ:=W.j3 L;have gr:=hu.ids;have Fv:=fun r hk=>ap0 Pk (ap1 hu r hk).1;have bd:=y.trans (L.mono y.size))
   |(go_at_call 145;refine(xX bd fZ X rfl (by omega) 0 0 4 s t 0 0 0 0 0 0 0 false x _ (C.map (·.cQ)) gr Fv).mono ?_;rintro g w3 ⟨rfl,M,N,P,Fw⟩;have vj:=Fw))
  all_goals(try go_wp2)
  all_goals go_ret
  all_goals exact .inr ⟨[x8 4 (bX n+1) f (s,t) x 0 (0,0) (C.map (·.cQ))],by unfold sU;rw[R];simp only[F,X,if_true,if_false],rfl,_,M,N,P,rfl,vj⟩
 have Y:decide ((i f).length+1<=60)=false:=decide_eq_false (by omega);rw[Y];obtain⟨bV,bQ,z,_,_,_⟩:=bm U;subst z;go_wp2;go_ret
 exact .inl ⟨8,by unfold sU;rw[R];simp only[F,X,if_false],rfl,y⟩
theorem aeq(h:mo b l w c d e k i j I f n)(ab:bX n<900000)(t x:Int)(z:ByteArray)(dW:z.size<=maxLen)(C:Bool):
  O 95 #[Z l,A f,.agg #[A t,A x],.string z,.bool C] b fun g w'=>
   (∃m,uc (n.foldl cc c4) (bX n) (i f).length f (t,x) z C=.error m/\g=.returned (.tuple #[.agg #[A 0,A 0],A m])/\J b w')\/
   (∃bo,uc (n.foldl cc c4) (bX n) (i f).length f (t,x) z C=.ok bo/\g=.returned (.tuple #[.agg #[A (bX n+1),A f],A 0])/\∃r eh ei has',r.map bE.p=bo/\gN b w' l w c d e k i j I f n r eh ei has'):=by
 have Q:=aa (((apY b.heap.size b).alloc (apX _) (.cells #[A t,A x] 36)).alloc (by simp) (.cells #[A 0,A 0] 36));have kQ:=aa (K6 (h.toShown.ae Q.o) t x z dW);clear dW;have az:=aa h;clear h;generalize k6:n.foldl cc c4=mm;rw[k6]at kQ;clear k6;go_enter func95,ntmps95;go_wp2_with fail
 refine kQ.o.mono ?_;rintro g R ⟨B,⟨m,hn,F,rfl⟩|⟨v,D,F,hl,rfl,ax⟩⟩
 ·have S:=aa (And.intro F B);clear F B;have oR:¬m=0:=by omega
  clear hn;have fz:=ae (a:=(H (b.heap.size+1))) (v:=A 0) S.o.2 (by simp[go_sem]);have eP:=ae (a:=(K (b.heap.size+1) 1)) (v:=A 0) S.o.2 (by simp[go_sem]);have kR:∀q,R.frozen? (K (b.heap.size+1) q)=false:=fun q=>by rw[S.o.2.frozen (p:=(K (b.heap.size+1) q)) (by simp)];simp[go_sem]
  go_wp2;refine bodyPost_ret (v:=.tuple #[.agg #[A 0,A 0],A m]) (by simp[results,results95,go_sem,fz,eP]) rfl ?_;exact .inl ⟨m,by unfold uc;rw[S.o.1],rfl,((Q.o.trans (S.o.2.mono Q.o.size)).setCell (by simp) _).setCell (by simp) _⟩
 have H1:=aa F;clear F;have cy:=ae (a:=(V b 0)) (v:=A t) B (by simp[go_sem]);have bx:=ae (a:=(V b 1)) (v:=A x) B (by simp[go_sem]);have k5:=aa (show R.heap[b.heap.size]?=some (.cells #[A t,A x] 36 (0,0)) by rw[B.block b.heap.size (by simp;omega)];exact mq (bI _ _));have Y:=aa (show R.heap[b.heap.size+1]?=some (.cells #[A 0,A 0] 36 (0,0)) by rw[B.block (b.heap.size+1) (by simp)];exact(by simp :(b.alloc (.cells #[A t,A x] 36)).heap.size=b.heap.size+1)▸bI (b.alloc (.cells #[A t,A x] 36)) (.cells #[A 0,A 0] 36));have qc:b.heap.size<R.heap.size:=aqd R _ cy;have ay:=aa (Q.o.trans (B.mono Q.o.size));clear B;have oS:=aa ax;clear ax;have L:=aa (az.o.j3 ay.o);have qs:=aa (AY L.o.room f L.o.hc 2 (by omega));go_wp2_with fail
 refine qs.o.mono ?_;rintro g ou ⟨rfl,hT⟩;subst hT;by_cases aD:(i f).length<59
 ·have U:decide ((i f).length+2<=60)=true:=decide_eq_true (by omega);rw[U];clear U;obtain⟨bV,bQ,aF,_,_,_⟩:=bm oS.o;have dT:=aa aF;subst aF;go_wp2_with fail
  refine(xX (apY _ _) L.o (by omega) rfl (by omega) 0 0 1 0 0 0 0 0 0 0 0 0 C ⟨#[]⟩ (.slice none 0 0) [] (Fq _) (fun s hk=>by cases hk)).mono ?_;rintro g M ⟨rfl,wI,sP,wJ,N⟩;have sX:=aa (N.typed L.o k5.o (by decide) (by decide) (by decide));have ff:=aa (N.typed L.o Y.o (by decide) (by decide) (by decide));have W:=(bl sX.o).1;have X:=(bl sX.o).2;have adQ:=aN ff.o;have HI:=aa (show k1 M (.slice bV D.length bQ) D from N.row L.o oS.o (by decide) (by decide) (by decide));have sM:=aa (show(sP f).length<60 by have :=N.len;simp at this;omega);have Dl:=aa (show bX (n++List.map bE.p [⟨⟨(bX n+1,f),1,C,(0,0),⟨#[]⟩,(0,0),(0,0),0,(0,0),[]⟩,.slice none 0 0⟩])=bX n+1 from HE _ _ rfl);have rV:=aa N;clear N cy bx;go_wp2;obtain⟨y,Lw⟩:∃y,y=M.alloc (.cells #[A (bX n+1),A f] 36):=⟨_,rfl⟩;rw[<-Lw];have P:J M y:=by rw[Lw];exact(apY _ M).alloc (apX _) _
  have Fx:=aa (show y.heap[M.heap.size]?=some (.cells #[A (bX n+1),A f] 36 (0,0)) by rw[Lw];exact bI M _);have vk:=aa (rV.o.wr.j3 P);replace HI:=aa (HI.o.ae P);replace W:=ae P W;replace X:=ae P X;have gW:=(bl Fx.o).1;have bh:=(bl Fx.o).2;have bL:=aa P;clear P Lw;have mO:=aa (show J y y.drew from(apY _ y).drew);go_region_with (first
   |(go_at_call 146;refine(Kz _ D _ ?av ?ab).mono ?_;(case av=>exact HI.o.ae mO.o);(case ab=>omega);rintro g w3 ⟨u,rfl,hu,aY⟩;obtain⟨kE,kF,o0,_,_,_⟩:=bm hu;rw[ap2]at o0;subst o0;have E:J y w3:=mO.o.trans aY;replace W:=ae E W;replace X:=ae E X;replace gW:=ae E gW;replace bh:=ae E bh;have fZ:=aa (vk.o.j3 E);have gr:=aa hu.ids;have Fv:=aa (fun s hk=>(ap1 hu s hk).1);clear hu;have bd:=aa E;clear aY E)
   |(go_at_call 145;refine(xX bd.o fZ.o sM.o Dl.o (by omega) 0 0 3 t x 0 0 0 0 0 (bX n+1) f false z _ (D.map (·.cQ)) gr.o Fv.o).mono ?_;rintro g w4 ⟨rfl,x9,wM,ya,rW⟩;have A8:=aa rW;clear rW))
  all_goals(have eA:=aa (A8.o.typed vk.o Fx.o (by decide) (by decide) (by decide));have o1:=aa (A8.o.typed vk.o (bj ff.o bL.o) (by decide) (by decide) (by decide)))
  all_goals(have e7:=(bl eA.o).1;have gm:=(bl eA.o).2;have s0:=(bl o1.o).1;have s1:=(bl o1.o).2;have Lx:=cG o1.o;clear W X gW bh)
  all_goals go_wp2
  all_goals(refine bodyPost_ret (v:=.tuple #[.agg #[A (bX n+1),A f],A 0]) (by simp[results,results95,go_sem,s0,s1]) rfl ?_)
  all_goals(have VC:=aN (bj ff.o bL.o))
  all_goals exact .inr ⟨[tZ (bX n+1) f C,x8 3 (bX n+2) f (t,x) z 0 (bX n+1,f) (D.map (·.cQ))],by unfold uc;rw[H1.o];simp only[aD,if_true],rfl,
   [⟨tZ (bX n+1) f C,.slice none 0 0⟩,⟨x8 3 (bX n+1+1) f (t,x) z 0 (bX n+1,f) (D.map (·.cQ)),.slice kE D.length kF⟩],x9,wM,ya,by rw[<-Fu (bX n)];rfl,
   VA az.o ay.o rV.o bL.o A8.o o1.o (by omega) (fun g=>by cases g) (fun g=>by have F:y.heap.size<=_:=Fv.o _ g;omega) _ _⟩
 have U:decide ((i f).length+2<=60)=false:=decide_eq_false (by omega);rw[U];clear U;have fz:=(bl Y.o).1;have eP:=(bl Y.o).2;have kR:=cG Y.o;go_wp2;refine bodyPost_ret (v:=.tuple #[.agg #[A 0,A 0],A 8]) (by simp[results,results95,go_sem,fz,eP]) rfl ?_;exact .inl ⟨8,by unfold uc;rw[H1.o];simp only[aD,if_false],rfl,(ay.o.setCell (by simp) _).setCell (by simp) _⟩
theorem aer(t:mo b l w c d e k i j h f n)(ab:bX n<900000)(B C s q:Int):
  O 98 #[Z l,A f,.agg #[A B,A C],A s,A q] b fun g w'=>
   (∃m,sV (n.foldl cc c4) (bX n) (i f).length f (B,C) s q=.error m/\g=.returned (.tuple #[.agg #[A 0,A 0],A m])/\J b w')\/
   (∃bo,sV (n.foldl cc c4) (bX n) (i f).length f (B,C) s q=.ok bo/\g=.returned (.tuple #[.agg #[A (bX n+1),A f],A 0])/\∃y eh ei has',y.map bE.p=bo/\gN b w' l w c d e k i j h f n y eh ei has'):=by
 have X:=aa (((apY b.heap.size b).alloc (apX _) (.cells #[A B,A C] 36)).alloc (by simp) (.cells #[A 0,A 0] 36));have nT:=aa (Hu (t.toShown.ae X.o) B C true);have az:=aa t;clear t;generalize k6:n.foldl cc c4=mm;rw[k6]at nT;clear k6;go_enter func98,ntmps98;go_wp2_with fail
 refine nT.o.mono ?_;rintro g w1 (⟨m,Y,hn,rfl,I⟩|⟨r,z,go,cap,os,Y,rfl,dX⟩)
 ·have aP:=aa (And.intro Y I);clear Y I;have oR:¬m=0:=by omega
  clear hn;have fz:=ae (a:=(H (b.heap.size+1))) (v:=A 0) aP.o.2 (by simp[go_sem]);have eP:=ae (a:=(K (b.heap.size+1) 1)) (v:=A 0) aP.o.2 (by simp[go_sem]);have kR:∀x,w1.frozen? (K (b.heap.size+1) x)=false:=fun x=>by rw[aP.o.2.frozen (p:=(K (b.heap.size+1) x)) (by simp)];simp[go_sem]
  go_wp2;refine bodyPost_ret (v:=.tuple #[.agg #[A 0,A 0],A m]) (by simp[results,results98,go_sem,fz,eP]) rfl ?_;exact .inl ⟨m,by unfold sV iF;rw[aP.o.1],rfl,((X.o.trans (aP.o.2.mono X.o.size)).setCell (by simp) _).setCell (by simp) _⟩
 have H1:=aa Y;clear Y;have I:=dX.below;have k5:=aa (show w1.heap[b.heap.size]?=some (.cells #[A B,A C] 36 (0,0)) by rw[I.block b.heap.size (by simp;omega)];exact mq (bI _ _));have ue:=aa (show w1.heap[b.heap.size+1]?=some (.cells #[A 0,A 0] 36 (0,0)) by rw[I.block (b.heap.size+1) (by simp)];exact(by simp :(b.alloc (.cells #[A B,A C] 36)).heap.size=b.heap.size+1)▸bI (b.alloc (.cells #[A B,A C] 36)) (.cells #[A 0,A 0] 36));have ay:=aa (X.o.trans (I.mono X.o.size));clear I;have hJ:=aa dX;clear dX;have mj:=aa hJ.o.hr;have lB:=aa hJ.o.cell;have hle:=hJ.o.len;have qi:=aa hle;clear hle;have k4:=aa hJ.o.ss;have qX:=hJ.o.lt;generalize os[r]=W at *;have kO:=aa (show iF mm (B,C)=.ok (jI W.ss) by
   unfold iF;rw[H1.o];have :=k4.o;cases E:mm[r]? with
   |none=>rw[E]at this;cases this
   |some o=>
    rw[E]at this;simp at this;simp only[E,dB];rw[this,Lc])
 have vm:=aa (KA _ go (r*4) _ W.ss _ lB.o mj.o (by have :=qi.o.1;omega));have j5:=aa (show(jI W.ss).length<=240 by
  have :=G9 W.ss W.ss.length;rw[aql (apX _)]at this;have :=qi.o.1;omega)
 generalize jI W.ss=L at *;go_wp2_with fail
 refine vm.o.mono ?_;rintro g w2 ⟨u,rfl,hu,aY⟩;have M:=aa aY;clear aY;have gr:=aa hu.ids;clear hu;have gP:=aa (UZ u L s w2 gr.o);go_wp2_with fail
 refine gP.o.mono ?_;rintro g N ⟨P,⟨wz,rfl⟩|⟨⟨Q,R⟩,kh,rfl⟩⟩
 ·have S:=aa (ay.o.trans ((M.o.trans (P.mono M.o.size)).mono ay.o.size));have U:=aa (bj (bj ue.o M.o) P);have HJ:=aa wz;clear wz P;have D:=aa ((apY N.heap.size N).alloc (apX _) (.cells #[A 0,A 0] 36));have F:=aa ((az.o.j3 S.o).j3 D.o);have qs:=aa (AY F.o.room f F.o.hc 2 (by omega));have Pm:=aN U.o;have fz:=(bl (bj U.o D.o)).1;have eP:=(bl (bj U.o D.o)).2;have kR:=cG (bj U.o D.o);go_wp2_with fail
  refine qs.o.mono ?_;rintro g w4 ⟨rfl,gQ⟩;have fx:=aa (S.o.trans (D.o.mono S.o.size));clear F qs;generalize A9:N.alloc (.cells #[A 0,A 0] 36)=hf at *;subst gQ;clear A9;generalize decide ((i f).length+2<=60)=Pl;go_wp2;refine bodyPost_ret (v:=.tuple #[.agg #[A 0,A 0],A 7]) (by simp[results,results98,go_sem,fz,eP]) rfl ?_;exact .inl ⟨7,by unfold sV;rw[kO.o];simp only[HJ.o],rfl,(fx.o.setCell (by simp) _).setCell (by simp) _⟩
 have S:=aa (ay.o.trans ((M.o.trans (P.mono M.o.size)).mono ay.o.size));have Pn:=aa (bj (bj k5.o M.o) P);have U:=aa (bj (bj ue.o M.o) P);have vn:=aa kh;clear kh P;have D:=aa ((apY N.heap.size N).alloc (apX _) (.cells #[A Q,A R] 36));have fx:=aa (S.o.trans (D.o.mono S.o.size));have F:=aa ((az.o.j3 S.o).j3 D.o);have qs:=aa (AY F.o.room f F.o.hc 2 (by omega));have wN:=aa (bj Pn.o D.o);have o1:=aa (bj U.o D.o);have nt:=aa (bI N (.cells #[A Q,A R] 36));have Pm:=aN U.o;have aes:=aN nt.o;go_wp2_with fail
 refine qs.o.mono ?_;rintro g w4 ⟨rfl,gQ⟩;generalize A9:N.alloc (.cells #[A Q,A R] 36)=hf at *;subst gQ;clear A9;by_cases aD:(i f).length<59
 ·have E:decide ((i f).length+2<=60)=true:=decide_eq_true (by omega);rw[E];clear E;have bf:=(bl wN.o).1;have a6:=(bl wN.o).2;have y0:=(bl nt.o).1;have Po:=(bl nt.o).2;go_wp2_with fail
  refine(xX (apY _ _) F.o (by omega) rfl (by omega) 0 0 2 B C 0 0 Q R 0 0 0 false ⟨#[]⟩ (.slice none 0 0) [] (Fq _) (fun r hk=>by cases hk)).mono ?_;rintro g w5 ⟨rfl,wI,sP,wJ,k8⟩;have yb:=aa (k8.typed F.o wN.o (by decide) (by decide) (by decide));have HK:=aa (k8.typed F.o o1.o (by decide) (by decide) (by decide));have sM:=aa (show(sP f).length<60 by have :=k8.len;simp at this;omega);have Dl:=aa (show bX (n++List.map bE.p [⟨ua (bX n+1) f (B,C) (Q,R),.slice none 0 0⟩])=bX n+1 from HE _ _ rfl);have rV:=aa k8;clear k8 bf a6 y0 Po;have yc:=aa ((apY w5.heap.size w5).alloc (apX _) (.cells #[A (bX n+1),A f] 36));have rX:=aa (bI w5 (.cells #[A (bX n+1),A f] 36));have Fy:=aa (bj yb.o yc.o);have Pp:=aa (bj HK.o yc.o);have ov:=aa (rV.o.wr.j3 yc.o);have bf:=(bl Fy.o).1;have a6:=(bl Fy.o).2;have gW:=(bl rX.o).1;have bh:=(bl rX.o).2;have aet:=aN HK.o;have aeu:=aN yb.o;go_wp2_with fail
  refine(xX (apY _ _) ov.o sM.o Dl.o (by omega) 0 0 3 B C (bX n+1) f 0 0 q 0 0 false ⟨#[]⟩ (.slice none 0 0) [] (Fq _) (fun r hk=>by cases hk)).mono ?_;rintro g w7 ⟨rfl,x9,wM,ya,rW⟩;have HL:=aa (rW.typed ov.o rX.o (by decide) (by decide) (by decide));have Dm:=aa (rW.typed ov.o Pp.o (by decide) (by decide) (by decide));have A8:=aa rW;clear rW bf a6 gW bh;have e7:=(bl HL.o).1;have gm:=(bl HL.o).2;have s0:=(bl Dm.o).1;have s1:=(bl Dm.o).2;have Lx:=cG Dm.o;go_wp2;refine bodyPost_ret (v:=.tuple #[.agg #[A (bX n+1),A f],A 0]) (by simp[results,results98,go_sem,s0,s1]) rfl ?_;exact .inr ⟨[ua (bX n+1) f (B,C) (Q,R),sT 3 (bX n+2) f (B,C) (bX n+1,f) q (0,0) []],by unfold sV;rw[kO.o];simp only[vn.o,aD,if_true],rfl,
   [⟨ua (bX n+1) f (B,C) (Q,R),.slice none 0 0⟩,⟨sT 3 (bX n+1+1) f (B,C) (bX n+1,f) q (0,0) [],.slice none 0 0⟩],x9,wM,ya,by rw[<-Fu (bX n)];rfl,
   VA az.o fx.o rV.o yc.o A8.o Dm.o (by omega) (fun g=>by cases g) (fun g=>by cases g) _ _⟩
 have E:decide ((i f).length+2<=60)=false:=decide_eq_false (by omega);rw[E];clear E;have fz:=(bl o1.o).1;have eP:=(bl o1.o).2;have kR:=cG o1.o;go_wp2;refine bodyPost_ret (v:=.tuple #[.agg #[A 0,A 0],A 8]) (by simp[results,results98,go_sem,fz,eP]) rfl ?_;exact .inl ⟨8,by unfold sV;rw[kO.o];simp only[vn.o,aD,if_false],rfl,(fx.o.setCell (by simp) _).setCell (by simp) _⟩
theorem aev(s:mo b l w c d e k i j h f n)(ab:bX n<900000)(z B r:Int)(F:Bool):
  O 100 #[Z l,A f,.agg #[A z,A B],A r,.bool F] b fun g w'=>
   (∃m,sW (n.foldl cc c4) (bX n) (i f).length f (z,B) r F=.error m/\g=.returned (.tuple #[.agg #[A 0,A 0],A m])/\J b w')\/
   (∃bo,sW (n.foldl cc c4) (bX n) (i f).length f (z,B) r F=.ok bo/\g=.returned (.tuple #[.agg #[A (bX n+1),A f],A 0])/\∃x eh ei has',x.map bE.p=bo/\gN b w' l w c d e k i j h f n x eh ei has'):=by
 have a7:=aa (((apY b.heap.size b).alloc (apX _) (.cells #[A z,A B] 36)).alloc (by simp) (.cells #[A 0,A 0] 36));have nT:=aa (Hu (s.toShown.ae a7.o) z B true);have az:=aa s;clear s;generalize k6:n.foldl cc c4=mm;rw[k6]at nT;clear k6;go_enter func100,ntmps100;go_wp2_with fail
 refine nT.o.mono ?_;rintro g w1 (⟨m,h1,hn,rfl,I⟩|⟨q,y,go,cap,os,h1,rfl,dX⟩)
 ·have aP:=aa (And.intro h1 I);clear h1 I;have oR:¬m=0:=by omega
  clear hn;have fz:=ae (a:=(H (b.heap.size+1))) (v:=A 0) aP.o.2 (by simp[go_sem]);have eP:=ae (a:=(K (b.heap.size+1) 1)) (v:=A 0) aP.o.2 (by simp[go_sem]);have kR:∀t,w1.frozen? (K (b.heap.size+1) t)=false:=fun t=>by rw[aP.o.2.frozen (p:=(K (b.heap.size+1) t)) (by simp)];simp[go_sem]
  go_wp2;refine bodyPost_ret (v:=.tuple #[.agg #[A 0,A 0],A m]) (by simp[results,results100,go_sem,fz,eP]) rfl ?_;exact .inl ⟨m,by unfold sW iF;rw[aP.o.1],rfl,((a7.o.trans (aP.o.2.mono a7.o.size)).setCell (by simp) _).setCell (by simp) _⟩
 have H1:=aa h1;clear h1;have I:=dX.below;have k5:=aa (show w1.heap[b.heap.size]?=some (.cells #[A z,A B] 36 (0,0)) by rw[I.block b.heap.size (by simp;omega)];exact mq (bI _ _));have ue:=aa (show w1.heap[b.heap.size+1]?=some (.cells #[A 0,A 0] 36 (0,0)) by rw[I.block (b.heap.size+1) (by simp)];exact(by simp :(b.alloc (.cells #[A z,A B] 36)).heap.size=b.heap.size+1)▸bI (b.alloc (.cells #[A z,A B] 36)) (.cells #[A 0,A 0] 36));have ay:=aa (a7.o.trans (I.mono a7.o.size));clear I;have hJ:=aa dX;clear dX;have mj:=aa hJ.o.hr;have lB:=aa hJ.o.cell;have hle:=hJ.o.len;have qi:=aa hle;clear hle;have k4:=aa hJ.o.ss;have qX:=hJ.o.lt;generalize os[q]=W at *;have kO:=aa (show iF mm (z,B)=.ok (jI W.ss) by
   unfold iF;rw[H1.o];have :=k4.o;cases E:mm[q]? with
   |none=>rw[E]at this;cases this
   |some o=>
    rw[E]at this;simp at this;simp only[E,dB];rw[this,Lc])
 have vm:=aa (KA _ go (q*4) _ W.ss _ lB.o mj.o (by have :=qi.o.1;omega));have j5:=aa (show(jI W.ss).length<=240 by
  have :=G9 W.ss W.ss.length;rw[aql (apX _)]at this;have :=qi.o.1;omega)
 generalize jI W.ss=L at *;go_wp2_with fail
 refine vm.o.mono ?_;rintro g w2 ⟨u,rfl,hu,aY⟩;have M:=aa aY;clear aY;have gr:=aa hu.ids;clear hu;have gP:=aa (UZ u L r w2 gr.o);go_wp2_with fail
 refine gP.o.mono ?_;rintro g N ⟨P,⟨wz,rfl⟩|⟨⟨Q,R⟩,kh,rfl⟩⟩
 ·have S:=aa (ay.o.trans ((M.o.trans (P.mono M.o.size)).mono ay.o.size));have U:=aa (bj (bj ue.o M.o) P);have HJ:=aa wz;clear wz P;have C:=aa ((apY N.heap.size N).alloc (apX _) (.cells #[A 0,A 0] 36));have D:=aa ((az.o.j3 S.o).j3 C.o);have qs:=aa (AY D.o.room f D.o.hc 3 (by omega));have Pm:=aN U.o;have fz:=(bl (bj U.o C.o)).1;have eP:=(bl (bj U.o C.o)).2;have kR:=cG (bj U.o C.o);go_wp2_with fail
  refine qs.o.mono ?_;rintro g w4 ⟨rfl,gQ⟩;have fx:=aa (S.o.trans (C.o.mono S.o.size));clear D qs;generalize A9:N.alloc (.cells #[A 0,A 0] 36)=hf at *;subst gQ;clear A9;generalize decide ((i f).length+3<=60)=Pl;go_wp2;refine bodyPost_ret (v:=.tuple #[.agg #[A 0,A 0],A 7]) (by simp[results,results100,go_sem,fz,eP]) rfl ?_;exact .inl ⟨7,by unfold sW;rw[kO.o];simp only[HJ.o],rfl,(fx.o.setCell (by simp) _).setCell (by simp) _⟩
 have S:=aa (ay.o.trans ((M.o.trans (P.mono M.o.size)).mono ay.o.size));have Pn:=aa (bj (bj k5.o M.o) P);have U:=aa (bj (bj ue.o M.o) P);have vn:=aa kh;clear kh P;have C:=aa ((apY N.heap.size N).alloc (apX _) (.cells #[A Q,A R] 36));have fx:=aa (S.o.trans (C.o.mono S.o.size));have D:=aa ((az.o.j3 S.o).j3 C.o);have qs:=aa (AY D.o.room f D.o.hc 3 (by omega));have wN:=aa (bj Pn.o C.o);have o1:=aa (bj U.o C.o);have nt:=aa (bI N (.cells #[A Q,A R] 36));have Pm:=aN U.o;have aes:=aN nt.o;go_wp2_with fail
 refine qs.o.mono ?_;rintro g w4 ⟨rfl,gQ⟩;generalize A9:N.alloc (.cells #[A Q,A R] 36)=hf at *;subst gQ;clear A9;by_cases aD:(i f).length<58
 ·have E:decide ((i f).length+3<=60)=true:=decide_eq_true (by omega);rw[E];clear E;go_wp2_with fail
  refine(xX (apY _ _) D.o (by omega) rfl (by omega) 0 0 1 0 0 0 0 0 0 0 0 0 F ⟨#[]⟩ (.slice none 0 0) [] (Fq _) (fun q hk=>by cases hk)).mono ?_;rintro g w5 ⟨rfl,wI,sP,wJ,X⟩;have yb:=aa (X.typed D.o wN.o (by decide) (by decide) (by decide));have HK:=aa (X.typed D.o o1.o (by decide) (by decide) (by decide));have uf:=aa (X.typed D.o nt.o (by decide) (by decide) (by decide));have sM:=aa (show(sP f).length<59 by have :=X.len;simp at this;omega);have Dl:=aa (show bX (n++List.map bE.p [⟨tZ (bX n+1) f F,.slice none 0 0⟩])=bX n+1 from HE _ _ rfl);have rV:=aa X;clear X;have yc:=aa ((apY w5.heap.size w5).alloc (apX _) (.cells #[A (bX n+1),A f] 36));have rX:=aa (bI w5 (.cells #[A (bX n+1),A f] 36));have Fy:=aa (bj yb.o yc.o);have Pp:=aa (bj HK.o yc.o);have qt:=aa (bj uf.o yc.o);have ov:=aa (rV.o.wr.j3 yc.o);have bf:=(bl Fy.o).1;have a6:=(bl Fy.o).2;have y0:=(bl qt.o).1;have Po:=(bl qt.o).2;have aet:=aN HK.o;have aeu:=aN yb.o;have an1:=aN uf.o;go_wp2_with fail
  have an2:=sM.o;refine(xX (apY _ _) ov.o (by omega) Dl.o (by omega) 0 0 2 z B 0 0 Q R 0 0 0 false ⟨#[]⟩ (.slice none 0 0) [] (Fq _) (fun q hk=>by cases hk)).mono ?_;rintro g w7 ⟨rfl,x9,wM,ya,Y⟩;have VD:=aa (Y.typed ov.o Fy.o (by decide) (by decide) (by decide));have Dm:=aa (Y.typed ov.o Pp.o (by decide) (by decide) (by decide));have HL:=aa (Y.typed ov.o rX.o (by decide) (by decide) (by decide));have aew:=aa (show(wM f).length<60 by have :=Y.len;simp at this;omega);have aex:=aa (show bX (n++List.map bE.p [⟨tZ (bX n+1) f F,.slice none 0 0⟩]++List.map bE.p [⟨ua (bX n+1+1) f (z,B) (Q,R),.slice none 0 0⟩])=bX n+1+1 from(HE _ _ (by rw[Dl.o];rfl)).trans (by rw[Dl.o]));have A8:=aa Y;clear Y bf a6 y0 Po;have HM:=aa ((apY w7.heap.size w7).alloc (apX _) (.cells #[A (bX n+1+1),A f] 36));have VE:=aa (bI w7 (.cells #[A (bX n+1+1),A f] 36));have VF:=aa (bj VD.o HM.o);have HR8:=aa (bj Dm.o HM.o);have Pq:=aa (bj HL.o HM.o);have Ly:=aa (A8.o.wr.j3 HM.o);have bf:=(bl VF.o).1;have a6:=(bl VF.o).2;have gW:=(bl Pq.o).1;have bh:=(bl Pq.o).2;have cC:=(bl VE.o).1;have aj:=(bl VE.o).2;have an3:=aN Dm.o;have an4:=aN VD.o;have an5:=aN HL.o;go_wp2_with fail
  refine(xX (apY _ _) Ly.o aew.o aex.o (by omega) 0 0 3 z B (bX n+1+1) f 0 0 0 (bX n+1) f false ⟨#[]⟩ (.slice none 0 0) [] (Fq _) (fun q hk=>by cases hk)).mono ?_;rintro g w9 ⟨rfl,Lt,Lu,Lv,LA⟩;have VG:=aa (LA.typed Ly.o Pq.o (by decide) (by decide) (by decide));have LB:=aa (LA.typed Ly.o HR8.o (by decide) (by decide) (by decide));have aey:=aa LA;clear LA bf a6 gW bh cC aj;have e7:=(bl VG.o).1;have gm:=(bl VG.o).2;have s0:=(bl LB.o).1;have s1:=(bl LB.o).2;have Lx:=cG LB.o;go_wp2;refine bodyPost_ret (v:=.tuple #[.agg #[A (bX n+1),A f],A 0]) (by simp[results,results100,go_sem,s0,s1]) rfl ?_;exact .inr ⟨[tZ (bX n+1) f F,ua (bX n+2) f (z,B) (Q,R),sT 3 (bX n+3) f (z,B) (bX n+2,f) 0 (bX n+1,f) []],by unfold sW;rw[kO.o];simp only[vn.o,aD,if_true],rfl,
   [⟨tZ (bX n+1) f F,.slice none 0 0⟩,⟨ua (bX n+1+1) f (z,B) (Q,R),.slice none 0 0⟩,⟨sT 3 (bX n+1+1+1) f (z,B) (bX n+1+1,f) 0 (bX n+1,f) [],.slice none 0 0⟩],Lt,Lu,Lv,by rw[<-aem (bX n),<-Fu (bX n)];rfl,
   aen az.o fx.o rV.o yc.o A8.o HM.o aey.o LB.o (by omega) (fun g=>by cases g) (fun g=>by cases g) (fun g=>by cases g) _ _⟩
 have E:decide ((i f).length+3<=60)=false:=decide_eq_false (by omega);rw[E];clear E;have fz:=(bl o1.o).1;have eP:=(bl o1.o).2;have kR:=cG o1.o;go_wp2;refine bodyPost_ret (v:=.tuple #[.agg #[A 0,A 0],A 8]) (by simp[results,results100,go_sem,fz,eP]) rfl ?_;exact .inl ⟨8,by unfold sW;rw[kO.o];simp only[vn.o,aD,if_false],rfl,(fx.o.setCell (by simp) _).setCell (by simp) _⟩
def Dn (D:List bg):Prop:=∀o∈D,o.list=true->∀s∈o.ss,s.key=⟨#[]⟩
theorem aez{l:List b9}{s:b9}(h:s∈qe l M v):s∈l\/s=mH ⟨#[]⟩ v:=by
 have a:∀n,s∈nM l n (mH ⟨#[]⟩ v)->s∈l\/s=mH ⟨#[]⟩ v:=by
  intro n h;unfold nM at h;rw[ap7,aqb]at h;rcases h with h|h|h
  ·exact .inl (aqE h)
  ·exact .inr h
  exact .inl (aq8 h)
 unfold qe at h;split at h
 ·exact a _ h
 split at h
 ·exact .inl h
 exact a _ h
theorem VH {α:Type} {l:List α} {f:α->α} {x:α} (h:x∈l.modify a f):x∈l\/∃y∈l,x=f y:=by
 obtain⟨j,b,rfl⟩:=aqv.1 h;rw[List.getElem_modify];rw[List.length_modify]at b;split
 ·exact .inr ⟨l[j],ap6 _,rfl⟩
 exact .inl (ap6 _)
theorem aeA{l:List b9}{c:ByteArray}{d:List PId}{kind:Int}{y:cP}{s:b9}(h:s∈lx l true c v d kind y):∃a∈l,s.key=a.key:=by
 unfold lx at h;split at h
 ·simp at h;exact⟨s,h,rfl⟩
 rcases VH h with b|⟨a,b,rfl⟩
 ·exact⟨s,b,rfl⟩
 exact⟨a,b,rfl⟩
theorem Dn.mu(h:Dn D)(p:bH):Dn (cc D p):=by
 intro o b c s a;unfold cc at b;split at b
 ·rcases ap7.1 b with b|b
  ·exact h o b c s a
  simp at b;subst b;simp at a
 split at b
 ·exact h o b c s a
 rcases VH b with g|⟨i,g,rfl⟩
 ·exact h o g c s a
 unfold gq at c a;split at a
 ·split at a
  ·rename_i f d
   rcases aez a with a|rfl
   ·exact h i g d s a
   rfl
  rename_i f d
  simp[f,d]at c
 split at a
 ·rename_i f d
  rw[if_neg f,if_pos d]at c;have j:i.list=true:=c;rw[j]at a;obtain⟨k,l,e⟩:=aeA a;rw[e];exact h i g j k l
 rename_i f d
 rw[if_neg f,if_neg d]at c;exact h i g c s a
theorem aeB(S:List bH):Dn (S.foldl cc c4):=by
 have b:∀(S:List bH) (D:List bg),Dn D->Dn (S.foldl cc D):=by
  intro S
  induction S with
  |nil=>intro D h;exact h
  |cons p S ih=>intro D h;exact ih _ (h.mu p)
 refine b S c4 ?_;intro o a c;simp[c4]at a;subst a;cases c
theorem aeC{b:List bD}(i:∀s∈b,s.key=⟨#[]⟩)(c:v∈jI b):∃q:Nat,∃h:q<b.length,cM (hC ⟨#[]⟩ v) b=(q:Int)/\(b.map bD.p).find? (fk ⟨#[]⟩ v)=some (b[q]).p:=by
 have l:=CR (hC ⟨#[]⟩ v) b;have m:=yY (hC ⟨#[]⟩ v) b;have j:¬cM (hC ⟨#[]⟩ v) b<0:=by
  intro d;unfold jI at c;obtain⟨s,k,rfl⟩:=ap5.1 c;have e:=(aqL.1 k).1;unfold cM at d;split at d
  ·omega
  rename_i f
  rw[ar1]at f;have :=f s e;simp[hC,eF,i s e]at this
 obtain⟨q,g⟩:=arl (a:=cM (hC ⟨#[]⟩ v) b) (by omega);refine⟨q,by omega,g,?_⟩;rw[Us,if_neg j,g];simp[show q<b.length by omega]
theorem o2{c:Array Value}(h:b.heap[a]?=some (.cells c q r)){j:Nat}{u:Value}(d:c[j]?=some u):b.cell? (K a j)=some u:=by
 simp[World.cell?,h,d]
theorem aeD{g}(h:Dn D)(d:oQ D v true=.ok a)(i:sK b s D a f l w g):∀c∈(g[a]'i.lt).ss,c.key=⟨#[]⟩:=by
 intro c k;have m:=i.lt;have j:=i.eq;have n:a<D.length:=by rw[<-j];simpa using m
 have q:D[a]=(g[a]).p:=by simp only[<-j,aqH]
 have r:D[a].list=true:=by
  unfold oQ at d;split at d
  ·cases d
  split at d
  ·rename_i o e
   split at d
   ·injection d with d;rw[d]at e;rw[aq2 n]at e;injection e with e;rw[e];assumption
   cases d
  cases d
 have :=h D[a] (ap6 _) r c.p (by rw[q];exact ap5.2 ⟨c,k,rfl⟩);exact this
theorem aeE{f g i j k l n o p r u:Value}(h:b.heap[a]?=some (.cells #[c,d,e,m,C,f,g,i,j,k,l,n,o,p,r] q (0,0))):
  (b.setCell (K a 14) u).heap[a]?=some (.cells #[c,d,e,m,C,f,g,i,j,k,l,n,o,p,u] q (0,0)):=by
 have s:=aN h;obtain⟨_,t⟩:=ap8.1 h;simp[World.setCell,s,aq5,t]
theorem aeF{t:Int}{c:Int}{kind n:Int}{b:List bD}{e:bD}(h:iF D v=.ok (jI b))(i:¬((a:Int)<0\/((jI b).length:Int)<=a))(j:l<60)(k:oQ D v true=.ok f)(m:(jI b).getD a (0,0)=M)(d:(D[f]?.map bg.ss)=some (b.map bD.p))(q:(b.map bD.p).find? (fk ⟨#[]⟩ M)=some e.p):
  kD D t l c v a kind n=.ok [sT kind (t+1) c v M n (0,0) (e.ad.map (·.cQ))]:=by
 unfold kD;rw[h];simp only[i,j,if_true,if_false,ar4,m];have :Dk D v M=e.ad.map (·.cQ):=by
  unfold Dk;rw[k];cases g:D[f]? with
  |none=>rw[g]at d;cases d
  |some o=>
   rw[g]at d;simp at d;simp only[g,hg,d,q];rfl
 rw[this]
theorem VL{w cp}(h:mo w l S c d e k i cp I f n)(ab:bX n<900000)(L M v kind t:Int):
  O 150 #[Z l,A f,.agg #[A L,A M],A v,.agg #[A 0,A 0,A kind,.bool false,A 0,A 0,.string ⟨#[]⟩,A 0,A 0,A 0,A 0,A t,A 0,A 0,.slice none 0 0]] w fun b w'=>
   (∃m,kD (n.foldl cc c4) (bX n) (i f).length f (L,M) v kind t=.error m/\b=.returned (A m)/\J w w')\/
   (∃bo,kD (n.foldl cc c4) (bX n) (i f).length f (L,M) v kind t=.ok bo/\b=.returned (A 0)/\∃z eh ei has',z.map bE.p=bo/\gN w w' l S c d e k i cp I f n z eh ei has'):=by
 have a7:=aa (((apY w.heap.size w).alloc (apX _) (.cells #[A L,A M] 36)).alloc (by simp) (.cells #[A 0,A 0,A kind,.bool false,A 0,A 0,.string ⟨#[]⟩,A 0,A 0,A 0,A 0,A t,A 0,A 0,.slice none 0 0] 233));have nT:=aa (Hu (h.toShown.ae a7.o) L M true);have az:=aa h;clear h;have yd:=aa (aeB n);generalize k6:n.foldl cc c4=mm;rw[k6]at nT yd;clear k6;go_enter func150,ntmps150;go_wp2_with fail
 refine nT.o.mono ?_;rintro b w1 (⟨m,R,hn,rfl,Y⟩|⟨r,B,go,cap,os,R,rfl,dX⟩)
 ·have aP:=aa (And.intro R Y);clear R Y;have oR:¬m=0:=by omega
  clear hn;go_wp2;go_ret
  exact .inl ⟨m,by unfold kD iF;rw[aP.o.1],rfl,a7.o.trans (aP.o.2.mono a7.o.size)⟩
 have H1:=aa R;clear R;have Y:=dX.below;have k5:=aa (show w1.heap[w.heap.size]?=some (.cells #[A L,A M] 36 (0,0)) by rw[Y.block w.heap.size (by simp;omega)];exact mq (bI _ _));have VM:=aa (show w1.heap[w.heap.size+1]?=some (.cells #[A 0,A 0,A kind,.bool false,A 0,A 0,.string ⟨#[]⟩,A 0,A 0,A 0,A 0,A t,A 0,A 0,.slice none 0 0] 233 (0,0)) by rw[Y.block (w.heap.size+1) (by simp)];exact(by simp :(w.alloc (.cells #[A L,A M] 36)).heap.size=w.heap.size+1)▸bI (w.alloc (.cells #[A L,A M] 36)) _);have ay:=aa (a7.o.trans (Y.mono a7.o.size));clear Y;have hJ:=aa dX;clear dX;have mj:=aa hJ.o.hr;have lB:=aa hJ.o.cell;have hle:=hJ.o.len;have qi:=aa hle;clear hle;have k4:=aa hJ.o.ss;have qX:=hJ.o.lt;have sY:=aa (show ∀s∈(os[r]'qX).ss,s.key=⟨#[]⟩ from aeD yd.o H1.o hJ.o);generalize os[r]=C at *;have kO:=aa (show iF mm (L,M)=.ok (jI C.ss) by
   unfold iF;rw[H1.o];have :=k4.o;cases P:mm[r]? with
   |none=>rw[P]at this;cases this
   |some o=>
    rw[P]at this;simp at this;simp only[P,dB];rw[this,Lc])
 have vm:=aa (KA _ go (r*4) _ C.ss _ lB.o mj.o (by have :=qi.o.1;omega));have j5:=aa (show(jI C.ss).length<=240 by
  have :=G9 C.ss C.ss.length;rw[aql (apX _)]at this;have :=qi.o.1;omega)
 go_wp2_with fail
 refine vm.o.mono ?_;rintro b w2 ⟨u,rfl,U,aY⟩;have bd:=aa (ay.o.trans (aY.mono ay.o.size));have fZ:=aa (az.o.j3 bd.o);have vn:=aa aY;clear aY;have gr:=aa U;clear U;have qs:=aa (AY fZ.o.room f fZ.o.hc 1 (by omega));obtain⟨kE,kF,o0,huc,sZ,iw⟩:=bm gr.o;subst o0;go_wp2_with fail
 refine qs.o.mono ?_;rintro b W ⟨rfl,eJ⟩;subst eJ;have LC:=j5.o;by_cases hi:v<0\/((jI C.ss).length:Int)<=v
 ·generalize decide ((i f).length+1<=60)=Pl;have cW:=aa hi;rcases hi with hi|hi
  ·go_wp2;go_ret
   exact .inl ⟨7,by unfold kD;rw[kO.o];simp only[cW.o,if_true],rfl,bd.o⟩
  by_cases pI:v<0
  ·go_wp2;go_ret
   exact .inl ⟨7,by unfold kD;rw[kO.o];simp only[cW.o,if_true],rfl,bd.o⟩
  go_wp2;go_ret
  exact .inl ⟨7,by unfold kD;rw[kO.o];simp only[cW.o,if_true],rfl,bd.o⟩
 by_cases aD:(i f).length<60
 ·have P:decide ((i f).length+1<=60)=true:=decide_eq_true (by omega);rw[P];clear P;obtain⟨j,rfl⟩:=arl (a:=v) (by omega);have iu:j<(jI C.ss).length:=by omega
  obtain⟨Q,rfl⟩:=iw j iu;have sX:=aa (bj k5.o vn.o);have jP:=aa (bj VM.o vn.o);have bf:=(bl sX.o).1;have a6:=(bl sX.o).2;have E:=fun j u U=>o2 jP.o (j:=j) (u:=u) U
  have e7:=E 0 _ rfl;have gm:=E 1 _ rfl;have k3:=E 2 _ rfl;have np:=E 3 _ rfl;have rR:=E 4 _ rfl;have Lh:=E 5 _ rfl;have CZ:=E 6 _ rfl;have Li:=E 7 _ rfl;have Lj:=E 8 _ rfl;have Lk:=E 9 _ rfl;have Ll:=E 10 _ rfl;have E5:=E 11 _ rfl;have E6:=E 12 _ rfl;have E7:=E 13 _ rfl;have xL:=E 14 _ rfl;have HN:=cG jP.o;obtain⟨vo,dC⟩:=eE.cells gr.o.ids rfl j iu;have gI:=aa (ap6 iu);have HYE:=aa (show(jI C.ss).getD j (0,0)=(jI C.ss)[j] by simp[iu]);generalize(jI C.ss)[j]=y at *;obtain⟨q,ak,VN,Hv⟩:=aeC sY.o gI.o;obtain⟨y1,y2⟩:=y;have hgu:Q<W.heap.size:=aqd W _ vo;have s9:Q≠w.heap.size+1:=by
   intro b;have R:=(ap1 gr.o Q rfl).1;have h2:=aN VM.o;omega
  clear E iw;go_wp2;obtain⟨D,gn⟩:∃D,D=(((W.setCell (K (w.heap.size+1) 4) (A L)).setCell (K (w.heap.size+1) 5) (A M)).setCell (K (w.heap.size+1) 7) (A y1)).setCell (K (w.heap.size+1) 8) (A y2):=⟨_,rfl⟩;rw[<-gn];have dY:∀r,r≠w.heap.size+1->D.heap[r]?=W.heap[r]?:=fun r hk=>by
   rw[gn,aqr _ _ _ _ hk,aqr _ _ _ _ hk,aqr _ _ _ _ hk,aqr _ _ _ _ hk]
  have N:=aa (show D.heap[w.heap.size+1]?=some (.cells #[A 0,A 0,A kind,.bool false,A L,A M,.string ⟨#[]⟩,A y1,A y2,A 0,A 0,A t,A 0,A 0,.slice none 0 0] 233 (0,0)) by
   have hl:=aN jP.o;obtain⟨_,he⟩:=ap8.1 jP.o;rw[gn];simp[World.setCell,hl,aq5,he])
  have bB:=aa (show J w D by rw[gn];exact(((bd.o.setCell (by simp) _).setCell (by simp) _).setCell (by simp) _).setCell (by simp) _);have an6:D.heap.size=W.heap.size:=by rw[gn];simp[World.setCell]
  clear gn e7 gm k3 np rR Lh CZ Li Lj Lk Ll E5 E6 E7 xL HN bf a6;have mP:Hq (∀(g:Nat) (cs:Array Value) (b:TypeId) (x:Nat×Nat),W.heap[g]?=some (.cells cs b x)->b≠233->D.heap[g]?=some (.cells cs b x)):=fun g cs b x ag he=>by
   rw[dY g (by intro e';subst e';exact he (bK ag jP.o))];exact ag
  have Pu:=aa (show ib _ D C.hr C.ss from KP (mj.o.ae vn.o) (fun g ag=>by obtain⟨cs,gB⟩:=bq (mj.o.ae vn.o).1 ag;rw[mP.o g _ _ _ gB (by decide),gB]) (fun g cur ag=>by rw[mP.o g _ _ _ ag (by decide),ag]));obtain⟨go2,an7,cm,Dp,_,VO,_,_,_,_,_,an8⟩:=(hJ.o.doc.ae vn.o).row qX;injection Dp with Dp _ _;injection Dp with Dp;injection Dp with Dp;subst Dp;have VP:=aa (show D.cell? (K go (r*4+3))=some C.hr by
   have R:=mP.o _ _ _ _ VO (by decide);have h2:=ae vn.o lB.o;simp only[World.cell?,VO]at h2;simp only[World.cell?,R];exact h2)
  obtain⟨rY,ye,LD,kq,KD,j6⟩:=bm Pu.o.1;unfold maxLen at KD;obtain⟨gs,rfl⟩:=j6 q ak;have bZ:=VP.o;rw[LD]at bZ;have C4:=aa Pu.o;rw[LD]at C4;have hh:=(ib.cells C4.o rfl q ak).2.2.2;have rO:=C4.o.2 C.ss[q] (ap6 _);have Hg:=qi.o.2 C.ss[q] (ap6 _);have aeG:=aa Hv;clear Hv;generalize C.ss[q]=X at *;obtain⟨bV,bQ,aF,_,_,_⟩:=bm rO;rw[aF]at hh rO;have oS:=aa rO;clear rO;have Pv:D.cell? (K Q (j*2))=some (A y1):=by rw[aq0 (w:=W) (a:=(K Q (j*2))) (dY Q s9)];exact vo
  have Pw:D.cell? (K Q (j*2+1))=some (A y2):=by rw[aq0 (w:=W) (a:=(K Q (j*2+1))) (dY Q s9)];exact dC
  have xL:=o2 N.o (j:=14) rfl;have HN:=cG N.o;have Hh:gs<D.heap.size:=aqd D _ hh;have dT:=aa aF;clear aF;have an9:=aa LD;clear LD j6 vo dC;have aoa:=aa dY;clear dY;have aeH:=aa VN;clear VN;have mO:=aa (show J D D.drew from(apY _ D).drew);go_region_with (first
   |(go_at_call 172;refine(CP _ go (r*4) _ C.ss ⟨#[]⟩ y1 y2 _ (ae mO.o VP.o) (Pu.o.ae mO.o)).mono ?_;rintro b w4 ⟨rfl,gp⟩;rw[aeH.o];have wO:J D w4:=mO.o.trans gp;replace bZ:=ae wO bZ;replace hh:=ae wO hh;replace Pv:=ae wO Pv;replace Pw:=ae wO Pw;replace N:=aa (bj N.o wO);replace xL:=o2 N.o (j:=14) rfl;replace HN:=cG N.o;have fx:=aa wO;clear gp wO)
   |(go_at_call 146;refine(Kz _ X.ad _ ?av ?ab).mono ?_;(case av=>exact oS.o.ae fx.o);(case ab=>omega);rintro b w5 ⟨u,rfl,U,q6⟩;obtain⟨LF,LG,o0,_,_,_⟩:=bm U;rw[ap2]at o0;subst o0;replace N:=aa (bj N.o q6);replace xL:=o2 N.o (j:=14) rfl;replace HN:=cG N.o;have Px:=aa U;clear U;have lD:=aa q6;clear q6))
  all_goals(obtain⟨w6,HO⟩:∃w6,w6=w5.setCell (K (w.heap.size+1) 14) (.slice LF X.ad.length LG):=⟨_,rfl⟩;rw[<-HO];clear bZ hh Pv Pw xL HN)
  all_goals(have zp:=aa (show J w w6 by rw[HO];exact((bB.o.trans ((fx.o.trans (lD.o.mono fx.o.size)).mono bB.o.size)).setCell (by simp) _));have ov:=aa (az.o.j3 zp.o);have F:=aa (show w6.heap[w.heap.size+1]?=some (.cells #[A 0,A 0,A kind,.bool false,A L,A M,.string ⟨#[]⟩,A y1,A y2,A 0,A 0,A t,A 0,A 0,.slice LF X.ad.length LG] 233 (0,0)) by rw[HO];exact aeE N.o);have HI6:=aa (show eE w6 (.slice LF X.ad.length LG) (X.ad.map (·.cQ)) by rw[HO];exact iV Px.o.ids (fun b=>by obtain⟨cs,gB⟩:=bq Px.o b;exact absurd (bK gB N.o) (by decide)) _);have HP:=aa (show ∀r,(Value.slice LF X.ad.length LG).ownBlock=some r->w.heap.size<=r from fun r hk=>ap0 (ap0 bB.o.size fx.o.size) (ap1 Px.o r hk).1))
  all_goals(have jx:=o2 F.o (j:=0) rfl;have q1:=o2 F.o (j:=1) rfl;have j1:=o2 F.o (j:=2) rfl;have xQ:=o2 F.o (j:=3) rfl;have HA:=o2 F.o (j:=4) rfl;have sN:=o2 F.o (j:=5) rfl;have Vf:=o2 F.o (j:=6) rfl;have Vg:=o2 F.o (j:=7) rfl;have Vh:=o2 F.o (j:=8) rfl;have Vi:=o2 F.o (j:=9) rfl;have Vj:=o2 F.o (j:=10) rfl;have Vk:=o2 F.o (j:=11) rfl;have Vl:=o2 F.o (j:=12) rfl;have Vm:=o2 F.o (j:=13) rfl;have Vn:=o2 F.o (j:=14) rfl;clear HO)
  all_goals(go_wp2_with fail)
  all_goals(refine(xX zp.o ov.o aD rfl (by omega) 0 0 kind L M y1 y2 0 0 t 0 0 false ⟨#[]⟩ _ (X.ad.map (·.cQ)) HI6.o HP.o).mono ?_;rintro b w7 ⟨rfl,eh,ei,has',Fw⟩;have vj:=aa Fw;clear Fw)
  all_goals go_wp2
  all_goals go_ret
  all_goals exact .inr ⟨[sT kind (bX n+1) f (L,M) (y1,y2) t (0,0) (X.ad.map (·.cQ))],aeF kO.o hi aD H1.o HYE.o k4.o aeG.o,rfl,_,eh,ei,has',rfl,vj.o⟩
 have P:decide ((i f).length+1<=60)=false:=decide_eq_false (by omega);rw[P];clear P;have cW:=aa hi;go_wp2;go_ret
 exact .inl ⟨8,by unfold kD;rw[kO.o];simp only[cW.o,aD,if_false],rfl,bd.o⟩
theorem aeI(t:mo b f l c d e k i j h a n)(M:bX n<900000)(u v g q:Int):
  O 101 #[Z f,A a,.agg #[A u,A v],A g,A q] b fun s E=>
   (∃m,kD (n.foldl cc c4) (bX n) (i a).length a (u,v) g 3 q=.error m/\s=.returned (A m)/\J b E)\/
   (∃y,kD (n.foldl cc c4) (bX n) (i a).length a (u,v) g 3 q=.ok y/\s=.returned (A 0)/\∃r B C D,r.map bE.p=y/\gN b E f l c d e k i j h a n r B C D):=by
 have z:=aa ((apY b.heap.size b).alloc (apX _) (.cells #[A u,A v] 36));have N:=aa (VL (t.j3 z.o) M u v g 3 q);clear t;generalize P:kD (n.foldl cc c4) (bX n) (i a).length a (u,v) g 3 q=Q at *;clear P;go_enter func101,ntmps101;go_wp2_with fail
 refine N.o.mono ?_;rintro s R (⟨m,x,rfl,F⟩|⟨y,x,rfl,r,B,C,D,I,L⟩)
 ·have w:=aa (And.intro x F);clear x F;go_wp2;go_ret
  exact .inl ⟨m,w.o.1,rfl,z.o.trans (w.o.2.mono z.o.size)⟩
 have w:=aa (And.intro x (And.intro I L));clear x I L;go_wp2;go_ret
 exact .inr ⟨y,w.o.1,rfl,r,B,C,D,w.o.2.1,w.o.2.2.after z.o⟩
theorem aeJ(s:mo b f l c d e k i j h a n)(L:bX n<900000)(t u g:Int):
  O 102 #[Z f,A a,.agg #[A t,A u],A g] b fun r D=>
   (∃m,kD (n.foldl cc c4) (bX n) (i a).length a (t,u) g 4 0=.error m/\r=.returned (A m)/\J b D)\/
   (∃x,kD (n.foldl cc c4) (bX n) (i a).length a (t,u) g 4 0=.ok x/\r=.returned (A 0)/\∃q z B C,q.map bE.p=x/\gN b D f l c d e k i j h a n q z B C):=by
 have y:=aa ((apY b.heap.size b).alloc (apX _) (.cells #[A t,A u] 36));have M:=aa (VL (s.j3 y.o) L t u g 4 0);clear s;generalize N:kD (n.foldl cc c4) (bX n) (i a).length a (t,u) g 4 0=P at *;clear N;go_enter func102,ntmps102;go_wp2_with fail
 refine M.o.mono ?_;rintro r Q (⟨m,w,rfl,E⟩|⟨x,w,rfl,q,z,B,C,F,I⟩)
 ·have v:=aa (And.intro w E);clear w E;go_wp2;go_ret
  exact .inl ⟨m,v.o.1,rfl,y.o.trans (v.o.2.mono y.o.size)⟩
 have v:=aa (And.intro w (And.intro F I));clear w F I;go_wp2;go_ret
 exact .inr ⟨x,v.o.1,rfl,q,z,B,C,v.o.2.1,v.o.2.2.after y.o⟩
theorem aeK(l:e8 b a f c d e k i j h)(g p q n:Int)(s:ByteArray)(t:¬(0<=g/\g<f)):
  O 94 #[Z a,A g,.agg #[A p,A q],.string s,A n] b fun m v=>m=.returned (A 2)/\J b v:=by
 have r:=aa ((apY b.heap.size b).alloc (apX _) (.cells #[A p,A q] 36));have w:=aa (Ld (l.ae r.o) g p q s t);clear l t;go_enter func94,ntmps94;go_wp2_with fail
 refine w.o.mono ?_;rintro m y ⟨rfl,u⟩;have x:=aa u;clear u;go_wp2;go_ret
 exact⟨rfl,r.o.trans (x.o.mono r.o.size)⟩
theorem aeL(n:e8 b f l c d e k i j h)(g s t:Int)(w:ByteArray)(y:Bool)(x:¬(0<=g/\g<l)):
  O 95 #[Z f,A g,.agg #[A s,A t],.string w,.bool y] b fun q z=>q=.returned (.tuple #[.agg #[A 0,A 0],A 2])/\J b z:=by
 have u:=aa (((apY b.heap.size b).alloc (apX _) (.cells #[A s,A t] 36)).alloc (by simp) (.cells #[A 0,A 0] 36));have B:=aa (Ld (n.ae u.o) g s t w x);clear n x;go_enter func95,ntmps95;go_wp2_with fail
 refine B.o.mono ?_;rintro q C ⟨rfl,r⟩;have D:=ae (a:=(H (b.heap.size+1))) (v:=A 0) r (by simp[go_sem]);have E:=ae (a:=(K (b.heap.size+1) 1)) (v:=A 0) r (by simp[go_sem]);have I:∀m,C.frozen? (K (b.heap.size+1) m)=false:=fun m=>by rw[r.frozen (p:=(K (b.heap.size+1) m)) (by simp)];simp[go_sem]
 have F:=aa r;clear r;go_wp2;refine bodyPost_ret (v:=.tuple #[.agg #[A 0,A 0],A 2]) (by simp[results,results95,go_sem,D,E]) rfl ?_;exact⟨rfl,((u.o.trans (F.o.mono u.o.size)).setCell (by simp) _).setCell (by simp) _⟩
theorem aeM(l:e8 b a f c d e k i j h)(g n p:Int)(r:ByteArray)(s:¬(0<=g/\g<f)):
  O 97 #[Z a,A g,.agg #[A n,A p],.string r] b fun m u=>m=.returned (A 2)/\J b u:=by
 have q:=aa ((apY b.heap.size b).alloc (apX _) (.cells #[A n,A p] 36));have v:=aa (Ld (l.ae q.o) g n p r s);clear l s;go_enter func97,ntmps97;go_wp2_with fail
 refine v.o.mono ?_;rintro m x ⟨rfl,t⟩;have w:=aa t;clear t;go_wp2;go_ret
 exact⟨rfl,q.o.trans (w.o.mono q.o.size)⟩
theorem aeN(q:e8 b f l c d e k i j h)(g u w s n:Int)(y:¬(0<=g/\g<l)):
  O 98 #[Z f,A g,.agg #[A u,A w],A s,A n] b fun r z=>r=.returned (.tuple #[.agg #[A 0,A 0],A 2])/\J b z:=by
 have x:=aa (((apY b.heap.size b).alloc (apX _) (.cells #[A u,A w] 36)).alloc (by simp) (.cells #[A 0,A 0] 36));have B:=aa (Ht (q.ae x.o) g u w true y);clear q y;go_enter func98,ntmps98;go_wp2_with fail
 refine B.o.mono ?_;rintro r C ⟨rfl,t⟩;have D:=ae (a:=(H (b.heap.size+1))) (v:=A 0) t (by simp[go_sem]);have E:=ae (a:=(K (b.heap.size+1) 1)) (v:=A 0) t (by simp[go_sem]);have I:∀m,C.frozen? (K (b.heap.size+1) m)=false:=fun m=>by rw[t.frozen (p:=(K (b.heap.size+1) m)) (by simp)];simp[go_sem]
 have F:=aa t;clear t;go_wp2;refine bodyPost_ret (v:=.tuple #[.agg #[A 0,A 0],A 2]) (by simp[results,results98,go_sem,D,E]) rfl ?_;exact⟨rfl,((x.o.trans (F.o.mono x.o.size)).setCell (by simp) _).setCell (by simp) _⟩
theorem aeO(n:e8 b f l c d e k i j h)(g t u r:Int)(y:Bool)(x:¬(0<=g/\g<l)):
  O 100 #[Z f,A g,.agg #[A t,A u],A r,.bool y] b fun q z=>q=.returned (.tuple #[.agg #[A 0,A 0],A 2])/\J b z:=by
 have w:=aa (((apY b.heap.size b).alloc (apX _) (.cells #[A t,A u] 36)).alloc (by simp) (.cells #[A 0,A 0] 36));have B:=aa (Ht (n.ae w.o) g t u true x);clear n x;go_enter func100,ntmps100;go_wp2_with fail
 refine B.o.mono ?_;rintro q C ⟨rfl,s⟩;have D:=ae (a:=(H (b.heap.size+1))) (v:=A 0) s (by simp[go_sem]);have E:=ae (a:=(K (b.heap.size+1) 1)) (v:=A 0) s (by simp[go_sem]);have I:∀m,C.frozen? (K (b.heap.size+1) m)=false:=fun m=>by rw[s.frozen (p:=(K (b.heap.size+1) m)) (by simp)];simp[go_sem]
 have F:=aa s;clear s;go_wp2;refine bodyPost_ret (v:=.tuple #[.agg #[A 0,A 0],A 2]) (by simp[results,results100,go_sem,D,E]) rfl ?_;exact⟨rfl,((w.o.trans (F.o.mono w.o.size)).setCell (by simp) _).setCell (by simp) _⟩
theorem VQ(l:e8 b a f c d e k i j h)(g q r p kind n:Int)(t:¬(0<=g/\g<f)):
  O 150 #[Z a,A g,.agg #[A q,A r],A p,.agg #[A 0,A 0,A kind,.bool false,A 0,A 0,.string ⟨#[]⟩,A 0,A 0,A 0,A 0,A n,A 0,A 0,.slice none 0 0]] b fun m v=>m=.returned (A 2)/\J b v:=by
 have s:=aa (((apY b.heap.size b).alloc (apX _) (.cells #[A q,A r] 36)).alloc (by simp) (.cells #[A 0,A 0,A kind,.bool false,A 0,A 0,.string ⟨#[]⟩,A 0,A 0,A 0,A 0,A n,A 0,A 0,.slice none 0 0] 233));have w:=aa (Ht (l.ae s.o) g q r true t);clear l t;go_enter func150,ntmps150;go_wp2_with fail
 refine w.o.mono ?_;rintro m y ⟨rfl,u⟩;have x:=aa u;clear u;go_wp2;go_ret
 exact⟨rfl,s.o.trans (x.o.mono s.o.size)⟩
theorem aeP(l:e8 b a f c d e k i j h)(g q r m n:Int)(t:¬(0<=g/\g<f)):
  O 101 #[Z a,A g,.agg #[A q,A r],A m,A n] b fun p v=>p=.returned (A 2)/\J b v:=by
 have s:=aa ((apY b.heap.size b).alloc (apX _) (.cells #[A q,A r] 36));have w:=aa (VQ (l.ae s.o) g q r m 3 n t);clear l t;go_enter func101,ntmps101;go_wp2_with fail
 refine w.o.mono ?_;rintro p y ⟨rfl,u⟩;have x:=aa u;clear u;go_wp2;go_ret
 exact⟨rfl,s.o.trans (x.o.mono s.o.size)⟩
theorem aeQ(l:e8 b a f c d e k i j h)(g p q m:Int)(s:¬(0<=g/\g<f)):
  O 102 #[Z a,A g,.agg #[A p,A q],A m] b fun n u=>n=.returned (A 2)/\J b u:=by
 have r:=aa ((apY b.heap.size b).alloc (apX _) (.cells #[A p,A q] 36));have v:=aa (VQ (l.ae r.o) g p q m 4 0 s);clear l s;go_enter func102,ntmps102;go_wp2_with fail
 refine v.o.mono ?_;rintro n x ⟨rfl,t⟩;have w:=aa t;clear t;go_wp2;go_ret
 exact⟨rfl,r.o.trans (w.o.mono r.o.size)⟩
structure c6 (F aR:Nat->Prop) (w w':World):Prop where
 os:w'.os=w.os
 tape:w'.tape=w.tape
 output:w'.output=w.output
 size:w.heap.size<=w'.heap.size
 other:∀k,k<w.heap.size->¬F k->w'.heap[k]?=w.heap[k]?
 sub:∀k,aR k->F k\/w.heap.size<=k
theorem c6.cJ{w w':World}(h:J w w'):c6 z z w w':=
 ⟨h.os,h.tape,h.output,h.size,fun k a _=>h.block k a,fun _ h=>.inl h⟩
structure vp (w:World) (r:Nat) (F:Nat->Prop) (N:Nat) (P:Nat->List bH) (has:Nat->Nat->Nat) (aS aJ aU:Value) (aW:Nat->Value) (cops:Nat->List bE) (cp:Nat->Nat->Value):Prop where
 room:e8 w r N aS aJ aU aW cops cp has
 apart:Apart N aW cp
 ops:∀i,i<N->(cops i).map bE.p=P i
 b3:F r
 rS:∀k,aS.ownBlock=some k->F k
 lW:∀k,aJ.ownBlock=some k->F k
 uh:∀i,i<N->∀k,(aW i).ownBlock=some k->F k
 ta:∀c,c<N->∀k,(cp c 0).ownBlock=some k->F k
 fold:∀i,i<N->∀o∈cops i,∀k,o.du.ownBlock=some k->F k
 lt:∀k,F k->k<w.heap.size
def isRef (w:World) (r:Nat) (F:Nat->Prop) (N:Nat) (P:Nat->List bH) (a:Nat->Nat->Nat):Prop:=∃b c d e f g,vp w r F N P a b c d e f g
theorem isRef.ae{w r P has}{w':World}(h:isRef w r z a P has)(l:w.heap.size<=w'.heap.size)(d:∀k,z k->w'.heap[k]?=w.heap[k]?):isRef w' r z a P has:=by
 obtain⟨m,n,p,q,s,t,h⟩:=h;refine⟨m,n,p,q,s,t,⟨?_,h.room.hN,ca h.room.hI (fun g b=>d g (h.rS g b)),fun i e=>⟨ca (h.room.eu i e).1 (fun g b=>d g (h.uh i e g b)),fun o f=>ca ((h.room.eu i e).2 o f) (fun g b=>d g (h.fold i e o f g b))⟩,
  ca h.room.fF (fun g b=>d g (h.lW g b)),fun c j=>ca (h.room.hH c j) (fun g b=>d g (h.ta c j g b)),h.room.hle,h.room.hsz⟩,h.apart,h.ops,h.b3,h.rS,h.lW,h.uh,h.ta,h.fold,fun k u=>ap3 (h.lt k u) l⟩
 rw[d r h.b3];exact h.room.aH
structure Own (N:Nat) (P:Nat->List bH) (has:Nat->Nat->Nat) (c:Nat) (S:List bH):Prop where
 hc:c<N
 perm:S.Perm ((List.range N).flatMap fun i=>(P i).take (has c i))
 sort:xS S
 all:has c c=(P c).length
 cnt:∀p∈S,p.id.1<=1000
theorem Own.top(b:Own a E h f n):bX n<900000:=by
 obtain⟨_,_,c⟩:=HD n;rcases c with c|⟨p,d,c⟩
 ·omega
 have :=b.cnt p d;omega
theorem vp.perm(n:vp b f z a E h c d e k i j)(m:Nat->Nat):(iU i m a).map bE.p=(List.range a).flatMap fun g=>(E g).take (m g):=by
 unfold iU;rw[List.map_flatMap];have :∀l,l<=a->((List.range l).flatMap fun g=>((i g).take (m g)).map bE.p)=(List.range l).flatMap fun g=>(E g).take (m g):=by
  intro l o
  induction l with
  |zero=>rfl
  |succ l ih=>
   rw[aqI,aqG,aqG,ih (by omega)];simp[n.ops l (by omega),aru]
 exact this a (apX _)
theorem vp.yf(g:vp b l z f E h c d e k i j)(m:Own f E h a n):mo b l f c d e k i j h a n:=
 {room:=g.room,hc:=m.hc,perm:=by rw[g.perm];exact m.perm,sort:=m.sort,apart:=g.apart
  all:=by rw[m.all,<-g.ops a m.hc,ap2]
  cnt:=fun o q=>by
   have r:o.p∈n:=by
    refine m.perm.mem_iff.2 ?_;rw[<-g.perm (h a)];exact ap5.2 ⟨o,q,rfl⟩
   have :=m.cnt _ r;omega}
end Go.Proofs.YtnkpogjiiohapaaGreatDoor
