/- Our own text. -/
import Derived.Sort.MapsRangeIn
import Derived.TacticsInMore
import Derived.LoopNIn
import Derived.LoopIn
import Derived.Shelf.Abstract
import Derived.RangeFuncNested
import Derived.Test.YtnkpogjiiohapaaGreatDoorA07
set_option linter.unusedSimpArgs false
set_option linter.unusedVariables false
set_option maxRecDepth 100000
set_option maxHeartbeats 2000000
namespace Go.Proofs.YtnkpogjiiohapaaGreatDoor
section
open Go.RowKit Tryz
open Go.ChangeMaps (setBlock)
variable {a:Array MapEntry}{b:List MapEntry}{c d e:Nat}
def CH (b r:Nat) (w:World):Nat:=
 match w.heap[b]?,w.heap[r]? with
 |some (.map a _),some (.mapIter _ _ seen _)=>(leftOf a seen).size
 |_,_=>0
structure Walk (es:Array MapEntry) (aX b r:Nat) (seen:Array Nat) (l:List MapEntry) (w:World):Prop where
 map:w.heap[b]?=some (.map es aX)
 iter:w.heap[r]?=some (.mapIter (some b) aX seen aX)
 seen:seen.toList=l.map (·.born)
 sub:∀e∈l,e∈es.toList
theorem Walk.left{seen w}(h:Walk a e c d seen b w):CH c d w=(leftOf a seen).size:=by simp[CH,h.map,h.iter]
theorem LN{w a:World}(b:a=w\/a=w.drew)(r:Nat)(o:Obj):w.grownBy (setBlock a r o) (some r):=by
 have h:a.heap=w.heap/\a.os=w.os/\a.tape=w.tape/\a.output=w.output:=by rcases b with rfl|rfl<;>exact⟨rfl,rfl,rfl,rfl⟩
 refine⟨h.2.1,h.2.2.1,h.2.2.2,by simp[setBlock,h.1],λk d c=> ?_⟩;have :r≠k:=λe=>c (by rw[e])
 simp[setBlock,F5,this,h.1]
theorem Walk.next{r seen w}{g:World}(h:Walk a c d r seen b w)(j:r≠d){e:MapEntry}(k:e∈(leftOf a seen).toList)(l:g=w\/g=w.drew):
  Walk a c d r (seen.push e.born) (b++[e]) (setBlock g r (.mapIter (some d) c (seen.push e.born) c)):=by
 have i:g.heap=w.heap:=by rcases l with rfl|rfl<;>rfl
 refine⟨?_,?_,by simp[h.seen],?_⟩
 .simp[setBlock,F5,j,i,h.map]
 .simp[setBlock,i,(e8.1 h.iter).1]
 intro m f;rcases dZ.1 f with f|f
 .exact h.sub m f
 simp at f;subst f;unfold leftOf at k
 simp_all
theorem Jh{seen:Array Nat}{e:MapEntry}(d:e∈(leftOf a seen).toList):(leftOf a (seen.push e.born)).size<(leftOf a seen).size:=by
 have b:leftOf a (seen.push e.born)=(leftOf a seen).filter λx=>x.born !=e.born:=by unfold leftOf;rw[Array.filter_filter];congr 1;funext x;by_cases b:x.born=e.born<;>simp[b,bne]
 rw[b];have c:e∈leftOf a seen:=by simp_all
 simp;exact⟨e,c,rfl⟩
theorem Walk.all{g r seen w}(h:Walk g d c r seen b w)(o:(g.toList.map (·.born)).Nodup)(u:(b.map (·.born)).Nodup)(v:(leftOf g seen).size=0):b.Perm g.toList:=by
 have D:=Array.eq_empty_of_size_eq_zero v;have x:∀e∈g.toList,e.born∈b.map (·.born):=by
  intro e l;rw[<-h.seen];apply atC;intro p;have :e∈leftOf g seen:=by
   unfold leftOf
   simp_all
  simp_all
 have inj:∀a∈g.toList,∀f∈g.toList,a.born=f.born->a=f:=by
  intro a k f p E;obtain⟨i,q,rfl⟩:=mm.1 k;obtain⟨j,s,rfl⟩:=mm.1 p;by_cases y:i=j
  .simp_all
  exfalso;have t:=tT.1 o;rcases YO y with m|m
  .exact t i j (by simpa using q) (by simpa using s) m (by simp_all)
  exact t j i (by simpa using s) (by simpa using q) m (by simp_all)
 have z:g.toList.Nodup:=(atD _ (λa c n e=>n (by rw[e])) o);have B:b.Nodup:=(atD _ (λa c n e=>n (by rw[e])) u);refine(atE B z).2 λa=>⟨h.sub a,λk=> ?_⟩
 obtain⟨e,l,C⟩:=dF.1 (x a k);rw[<-inj e (h.sub e l) a k C];exact l
def KeysOf (l:List MapEntry) (a:List PId):Prop:=l.map (·.key)=a.map dC
def aaL:Value->Int
 |.int _ n=>n
 |_=>0
def Uh:Value->PId
 |.agg c=>(aaL (c[0]?.getD undef),aaL (c[1]?.getD undef))
 |_=>(0,0)
theorem ajp{a b:List PId}(h:(a.map dC).Perm (b.map dC)):a.Perm b:=by
 have c:∀l:List PId,(l.map dC).map Uh=l:=λl=>by
  rw[rz];have :Uh∘dC=id:=by rfl
  simp_all
 have :=h.map Uh
 simp_all
attribute [local go_sem] Oper.semAt_some
theorem ajq (F:Fence) (n:Nat) (Ji:F.fn 164) (qf:F.round=none) (hn:1<=n) (l Q b:Nat) (q:List (PId×eP)) (g:Array MapEntry) (f:Nat) (d R:List PId->World->Prop)
  (GP:∀u x W,d u W->u.length<q.length->YieldAt F (n-1) prog l #[dC x] W λe w=>(e=ad (.bool true)/\d (u++[x]) w/\KeepsWalks W w)\/(e=ad (.bool false)/\R (u++[x]) w))
  (W:World) (D:AbidesFrom W.heap.size d) (hm:W.cell? (H Q)=some (.map (some b))) (k:isMap dC qY W b q g f) (h0:d [] W):
  CallsIn F n prog 164 #[.func (.yield l) #[] #[],Z Q] W λe w=>(∃v,e=ad v)/\((∃S:List PId,S.Perm (q.map (·.1))/\d S w)\/∃u,True/\R u w):=by
 have rG:=SK (P:=prog) W 159 36 57 b g f underlying159 k.bb;refine SL func164 rfl Ji ?_ qf;simp only[ntmps164,K5,iq,sa,Nat.reduceAdd,Nat.reduceSub,SM,SN,SO,SP,sZ,p5]
 gi_wp2
 have gC:=k.lt;have LO:Walk g f b W.heap.size #[] [] (W.alloc (.mapIter (some b) f #[] f)):=⟨by rw[is W _ gC];exact k.bb,D5 W _,rfl,λe p=>by cases p⟩;have hJ0:d [] (W.alloc (.mapIter (some b) f #[] f)):=D [] W _ none h0 (afY W _ none) (λr e=>by cases e)
 gi_loopw [3] (λ_ wr=>∃seen s i,Walk g f b W.heap.size seen s wr/\(s.map (·.born)).Nodup/\KeysOf s i/\s.length+(leftOf g seen).size<=q.length/\d i wr) (λ_ wr=>CH b W.heap.size wr)
 case atStart=>exact⟨#[],[],[],LO,by simp,rfl,by rw[<-k.len];simp only[sa,sY];exact atF,hJ0⟩
 case round=>
  obtain⟨seen,s,i,t,U,E,nS,I⟩:=hrel;rcases SQ (P:=prog) wr 0 W.heap.size b f f seen g f t.iter t.map k.old (bW _) with⟨sA,B⟩|⟨e,p,w1,L,B⟩
  .gi_wp2
   go_end0
   refine⟨⟨_,rfl⟩,.inl ⟨i,?_,I⟩⟩;have au:=t.all k.nodup U sA;have z:=au.map (·.key);have C:g.toList.map (·.key)=(q.map (·.1)).map dC:=by have :=kq (List.map Prod.fst) k.nK;simpa[afZ]using this
   rw[E,C]at z;exact ajp z
  have X:e∈g.toList:=by unfold leftOf at p;simp_all
  obtain⟨x,Y⟩:∃x,e.key=dC x:=by
   have C:g.toList.map (·.key)=(q.map (·.1)).map dC:=by have :=kq (List.map Prod.fst) k.nK;simpa[afZ]using this
   have :e.key∈g.toList.map (·.key):=dF.2 ⟨e,X,rfl⟩;rw[C]at this;obtain⟨y,_,M⟩:=dF.1 this;exact⟨y,M.symm⟩
  have m:=ag (t.next (by omega) p L);obtain⟨j,N⟩:∃j,j=setBlock w1 W.heap.size (.mapIter (some b) f (seen.push e.born) f):=⟨_,rfl⟩;rw[<-N]at B m;have nV:=SR (P:=prog) j W.heap.size b f seen g f e m.o.iter m.o.map X k.nodup;rw[Y]at B nV;have fw:wr.grownBy j (some W.heap.size):=by rw[N];exact LN L _ _
  have hJ2:=D i wr j (some W.heap.size) I fw (λr e=>by cases e;exact⟨bW _,_,t.iter,rfl⟩);have LP:d i (j.alloc (af (x.1) (x.2))):=D i j _ none hJ2 (afY j _ none) (λr e=>by cases e);have hlen:i.length<q.length:=by
   have z:i.length=s.length:=by have :=kq List.length E;simp_all
   have C:=Jh p;omega
  obtain⟨fn,tmps,assign,body,M,bO⟩:=GP i x _ LP hlen;have lZ:=Jh p;have CJ:=p;clear p L N fw hJ2 LP I;unfold dC at B nV M;have HHX:=ag Y;gi_wp2
  refine bO.mono ?_;rintro e' ky (⟨rfl,hJ4,jp⟩|⟨rfl,hJx⟩)
  case inr=>
   gi_wp2
   exact ey (v:=.tuple #[]) (by simp[results,results164,go_sem]) rfl ⟨⟨_,rfl⟩,.inr ⟨_,trivial,hJx⟩⟩
  gi_wp2
  have hI:Walk g f b W.heap.size (seen.push e.born) (s++[e]) ky:=by exact⟨jp.same b _ ((is j _ ((e8.1 m.o.map).1)).trans m.o.map) rfl,jp.same _ _ ((is j _ ((e8.1 m.o.iter).1)).trans m.o.iter) rfl,m.o.seen,m.o.sub⟩
  have vB:=lZ;go_roundw
  case rel=>
   refine⟨_,_,i++[x],hI,?_,?_,by simp;omega,hJ4⟩
   .rw[ga,nI];refine⟨U,by simp,λa aE c hc CI=> ?_⟩;simp at hc;subst hc;have z:=CJ;unfold leftOf at z;simp at z;rw[<-t.seen]at aE
    simp_all
   unfold KeysOf;rw[ga,ga,E];simp[HHX.o]
  case measure=>rw[hI.left,t.left];omega
theorem ajr (F:Fence) (n:Nat) (f:F.fn 164) (g:F.round=none) (l b:Nat) (a i:List PId->World->Prop)
  (W:World) (j:AbidesFrom W.heap.size a) (o:W.cell? (H b)=some (.map none)) (k:a [] W):
  CallsIn F n prog 164 #[.func (.yield l) #[] #[],Z b] W λe c=>(∃v,e=ad v)/\((∃d:List PId,d.Perm []/\a d c)\/∃m,True/\i m c):=by
 have p:=YT (P:=prog) W 159 36 57 underlying159;have q:=YU (P:=prog) W 0 0 0 #[];have s:a [] (W.alloc (.mapIter none 0 #[] 0)):=j [] W _ none k (afY W _ none) (λr e=>by cases e);refine SL func164 rfl f ?_ g;simp only[ntmps164,K5,iq,sa,Nat.reduceAdd,Nat.reduceSub,SM,SN,SO,SP,sZ,p5]
 gi_wp2
 gi_loopw [3] (λ_ wr=>wr=W.alloc (.mapIter none 0 #[] 0)) (λ_ _=>0)
 case atStart=>rfl
 case round=>
  subst hrel
  gi_wp2
  go_end0
  simp_all
theorem ajs (F:Fence) (n:Nat) (b:F.fn 138) (c:F.round=none) (a:Option Nat) (w:World):
  CallsIn F n prog 138 #[.map a] w λe d=>e=ad (.func (.func 164) #[] #[Z w.heap.size])/\d=w.alloc (.cells #[.map a] 159):=by
 refine SL func138 rfl b ?_ c
 gi_wp2
 go_ret
 simp
theorem ajt (F:Fence) (n:Nat) (e:F.fn 164) (f:F.round=none) (m:1<=n) (c:Nat) (v:Option Nat) (d:List (PId×eP)) (w:World) (o:w.cell? (H c)=some (.map v)) (p:jX w v d):
  SeqStopsK F n prog 164 #[Z c] (λx=> #[dC x]) KeepsWalks (λq=>q.Perm (d.map (·.1))) (λ_=>True) d.length w:=by
 intro l a g W h i y r j;have k:=ak h o;rcases p with⟨rfl,rfl⟩|⟨b,s,t,rfl,u⟩
 .exact ajr F n e f l c a g W i k j
 exact ajq F n e f m l c b d s t a g r W i k (u.ak h) j
end
section
open Go.RowKit Tryz
attribute [local go_sem] Oper.semAt_some
variable {a b:World}
theorem aju{g:Nat}{l:List Value}(h:∀j u,l[j]?=some u->a.cell? (K g j)=some u):∀j u,l[j]?=some u->a.cell? (((H g):Addr).add j)=some u:=by
 intro j u b;have :((H g):Addr).add j=(K g j):=by unfold Addr.add;simp_all
 simp_all
theorem ajv(h:KeepsOthers a b):KeepsWalks a b:=
 ⟨h.size,λk o c d=>h.same k o c (by cases o<;>first |rfl|cases d)⟩
theorem Ui{D:Nat}{o c:Obj}(f:b.heap.size<=D)(d:a.heap[D]?=some o):Below b.heap.size a (a.putObj D c):=
 (ca _ a).grown (grownBy_putObj' a D c) (by have :=(e8.1 d).1;omega) (λk e=>by simp_all)
theorem ajw (F:Fence) (n:Nat) (aH:F.fn 180) (E:F.round=none) (hn:2<=n) (g:Nat) (lb:Array Value) (hFg:F.fn g) (Jj:∀args w,(callFunc g args).run prog w=.ok (.enter g args) w)
  (S avO:List PId->Prop) (N:Nat) (hN:N<=10000) (w:World) (ajx:SeqStopsK F (n-1) prog g lb (λx=> #[dC x]) KeepsWalks S avO N w):
  CallsIn F n prog 180 #[.slice none 0 0,.func (.func g) #[] lb] w λe I=>∃v L,e=ad v/\S L/\hR w.heap.size I v L/\J w I:=by
 have t:1<=n:=by omega
 obtain⟨i0,hi,hz0,hz1,hz2⟩:=qH (P:=prog) (e:=36) (z:=.agg #[A 0,A 0]) (size:=2) (bytes:=16) (by rfl);refine callsIn_of_wp_marks func180 rfl aH ?_ E;simp only[ntmps180,K5,iq,sa,Nat.reduceAdd,Nat.reduceSub,SM,SN,SO,SP,sZ,p5]
 gi_wp2
 obtain⟨m,q⟩:∃m,w.alloc (.cells #[.slice none 0 0] 65)=m:=⟨_,rfl⟩;have M:J w m:=by rw[<-q];exact aV w _
 have uk:Boxed m w.heap.size 65 (.slice none 0 0):=by rw[<-q];exact Boxed.new w _ _
 have qg:m.heap.size=w.heap.size+1:=by rw[<-q];simp
 rw[q];refine wpIn_rangeFunc_ownH E t (gf:=g) (lb:=lb) rfl hFg Jj ajx (λh k=>h.trans k) ?Uj M (λ_=>rfl)
  (λd W=>(∃v,Boxed W w.heap.size 65 v/\W.ownsRow w.heap.size 36 2 v d.length (d.flatMap nc)/\True)/\J w W) (λ_ _ _=>False)
  (OwnFrom.and (Own.from (holdsRow_own w.heap.size w.heap.size 65 36 2 (λd:List PId=>d.length) (λd=>d.flatMap nc) (λ_ _=>True)) _) (ownFrom_below (bW _) (by omega)))
  (λ_ _ _ _ _ h _ _=>h) ⟨⟨_,uk,hg _ _ _ _,trivial⟩,M⟩
  (λx u W=>∃b,w.heap.size<b/\W.heap[b]?=some (af (x.1) (x.2))/\u={tmps:= #[.slice none 0 0,.func (.func g) #[] lb,Z w.heap.size,undef,.slice none 0 0,Z b,.func (.func g) #[] lb,dC x,undef,undef,undef,undef,undef],defers:=[]})
  ?hAx ?ajy ?ajz ?ajA ?ajB
 case Uj=>exact λW l o o' _ Q _ hw=>KeepsWalks.putObj o' Q hw
 case hAx=>
  intro x u s W dd row h aq R;obtain⟨b,t,y,ax⟩:=h;refine⟨b,t,?_,ax⟩;rw[aq.block b (e8.1 y).1 (λe=>by obtain⟨_,o,U,B⟩:=R b e.symm;rw[y]at U;cases U;cases B)]
  exact y
 case ajy=>
  rintro l d x W a ⟨⟨v,f,j,_⟩,i⟩ p;have C:=i.size;have mP:=f.lt;unfold dC
  gi_wp2
  exact p _ _ ((KeepsOthers.alloc _ _).from _) (KeepsWalks.alloc _ _) ⟨⟨v,f.alloc _,j.alloc _,trivial⟩,i.alloc C _⟩ ⟨W.heap.size,mP,World.alloc_heap_new W _,rfl⟩
 case ajz=>
  rintro l d x u W Q ⟨r,R⟩ ⟨⟨v,f,j,_⟩,i⟩ ⟨b,hBx,X,rfl⟩ aL;have B:=f.cell;have C:=i.size;have c4:W.cell? (H b)=some (A x.1):=by simp[World.cell?,X]
  have bK:W.cell? (K b 1)=some (A x.2):=by simp[World.cell?,X]
  gi_wp2_with (gi_at_builtin;refine wpListIn_append_own _ rfl _ _ 65 rfl w.heap.size 36 i0 (.agg #[A 0,A 0]) 2 16 underlying65 hi hz0 hz1 hz2 rfl (by decide) _ _ _ rfl (j.alloc _) (V W 0) 1 1 (nc x) rfl rfl ?jT ?gP (by unfold maxLen;omega) (by omega) (by simp;omega) ?_;(case jT=>exact aju (OR (by simp) (by simp)));(case gP=>exact OQ);intro v' w1 Y ajC _;obtain⟨g',p6,rfl⟩:=ownsRow_succ Y;obtain⟨mg,ka,iW,dx,bo⟩:=f.appended (by decide) j C (bW _) Y ajC;have jT:=mg.cell;have A6:=mg.frozen)
  exact⟨dx.from _,ajv dx,⟨⟨_,ka,by rw[dh,oL];assumption,trivial⟩,i.trans bo⟩⟩
 case ajA=>
  rintro D xs W qX bS ⟨⟨v,f,j,_⟩,i⟩ p;have B:=f.cell
  gi_wp2
  refine⟨by simp,.inl ⟨_,_,rfl,run_takeDeferred p,?_⟩⟩;exact⟨_,af0 rfl _ _ _,v,xs,rfl,bS,ownsRow_putObj j _ p rfl,i.trans (Ui (by omega) p)⟩
 case ajB=>intro D c d W _ _ h _;exact h.elim
end
