/- Our own text. -/
import Derived.Test.YtnkpogjiiohapaaGreatDoorShelfB
import Derived.Test.YtnkpogjiiohapaaGreatDoorA15
set_option linter.unusedSimpArgs false
set_option linter.unusedVariables false
set_option maxHeartbeats 1000000
namespace Go.Proofs.YtnkpogjiiohapaaGreatDoor
open Go.RowKit Go.Sort Go.Shelf Tryz
variable {a c d:Nat}{b:World}
theorem abG {α:Type} {f:α->List Value} {k:Nat} (a:∀x,(f x).length=k):∀(l:List α) (q:Nat) (c:q<l.length) (j:Nat),j<k->(l.flatMap f)[q*k+j]?=(f l[q])[j]?
 |x::l,0,_,j,b=>by rw[jI,KU (by simp_all)];simp
 |x::l,q+1,c,j,b=>by
  have e:(q+1)*k=q*k+k:=by rw[uW,Y6]
  rw[jI,KV (by rw[a];omega),a,show(q+1)*k+j-k=q*k+j by omega];exact abG a l q (by simp_all) j b
theorem abH {α:Type} [Inhabited α] (a:α->List Value) (k:Nat) (b:∀x,(a x).length=k) (d:Array α):(flatK a k d).toList=d.toList.flatMap a:=by
 apply xN;intro t;have l:(d.toList.flatMap a).length=d.size*k:=by rw[rB a k b];simp
 by_cases c:t<d.size*k
 .have e:0<k:=by
   rcases S3 k with h|h
   .simp_all
   omega
  have g:=Nat.div_lt_of_lt_mul (by rw[K7];exact c);have i:=get_flatK a k d t c;have f:=abG b d.toList (t/k) (by omega) (t%k) (IC _ e);rw[show t/k*k+t%k=t by rw[K7];exact Y5 t k]at f;rw[f];have j:t<(flatK a k d).size:=by simp_all
  rw[ID _ t j,ID d (t/k) g]at i;have m:t%k<(a d[t/k]).length:=by rw[b];exact IC _ e
  simp_all
 simp_all
theorem abI {α:Type} [Inhabited α] (f:α->List Value) (k:Nat) (u:∀x,(f x).length=k) {t:TypeId} {l:List α} (h:b.ownsRow d t k (aa a l.length c) l.length (l.flatMap f)) (m:Nat) (g:Array α) (p:g.size=l.length) (n:Array Obj):
  (sortWorldK f k b a 0 m g n).ownsRow d t k (aa a l.length c) l.length (g.toList.flatMap f)/\b.grownBy (sortWorldK f k b a 0 m g n) (some a):=by
 obtain⟨N,q|⟨P,Q,v,q,z,w,y,B,C,R⟩⟩:=h
 .cases q.1
 obtain⟨rfl,rfl⟩:=q;have S:=aU w;have D:(g.toList.flatMap f).length=l.length*k:=by rw[rB f k u];simp[p]
 have E:(sortWorldK f k b a 0 m g n).heap[a]?=some (.cells (putCells id 0 (flatK f k g) v) t):=by unfold sortWorldK putRowK putRow;rw[heap_grow_old _ _ (by simp[mapBlock,Sort.ahead];omega)];simp[mapBlock,Sort.ahead,D4,w,onCells]
 have F:∀j,j<b.heap.size->j≠a->(sortWorldK f k b a 0 m g n).heap[j]?=b.heap[j]?:=λj r s=>by unfold sortWorldK putRowK putRow;rw[heap_grow_old _ _ (by simp[mapBlock,Sort.ahead];exact r)];simp[mapBlock,Sort.ahead,D4,eE s]
 have I:b.heap.size<=(sortWorldK f k b a 0 m g n).heap.size:=by unfold sortWorldK putRowK putRow grow;simp[mapBlock,Sort.ahead]
 refine⟨⟨D,.inr ⟨a,c,_,rfl,z,E,y,B,by simp[putCells,C],?_⟩⟩,⟨rfl,rfl,rfl,I,λj r s=>F j r (λe=>s (by rw[e]))⟩⟩;have U:=wn k y;apply xN;intro i;by_cases o:i<l.length*k
 .rw[wq,bn o];have L:i<(flatK f k g).size:=by simp[p];exact o
  rw[<-abH f k u g];have M:i<v.size:=by omega
  simp only[putCells,S1,Array.getElem?_mapIdx];rw[afP M,afP L];simp[p,o]
 rw[wq,a7 o,S2 (by omega)]
theorem abJ {α:Type} [Inhabited α] (e:α->List Value) (k:Nat) (g:∀x,(e x).length=k) {t:TypeId} {l:List α} (h:b.ownsRow c t k (aa a l.length d) l.length (l.flatMap e)):HoldsK e k b a 0 l.toArray/\a<b.heap.size:=by
 have f:=b0 h rfl;obtain⟨n,f⟩:=f;refine⟨λj i=>⟨?_,cV f _⟩,aU f⟩;have m:j<l.length*k:=by simp_all
 rw[sY,Iy h j m,<-(abH e k g l.toArray),ID _ j i];simp
theorem Da(x y:PId):gj x y=false↔¬(x.1<y.1\/(x.1=y.1/\x.2<y.2)):=by rw[<-rU];simp
theorem Vd{x y:PId}(c:gj x y=false)(d:gj y x=false):x=y:=by have a:=(Da x y).1 c;have b:=(Da y x).1 d;obtain⟨e,f⟩:=x;obtain⟨g,h⟩:=y;simp only[OC]at *;omega
theorem Qu:SWO (ltOf pE):=
 ⟨λx=>(Da x x).2 (by omega),λx y z c d=>(rU x z).2 (by
  have a:=(rU x y).1 c;have b:=(rU y z).1 d;omega),λx y z c d=>(Da x z).2 (by
  have a:=(Da x y).1 c;have b:=(Da y z).1 d;omega)⟩
def oB (l:List PId):Prop:=l.Pairwise λx y=>gj x y=true
theorem alp(args:Array Value)(w:World):(callFunc 139 args).run prog w=.ok (.enter 139 args) w:=
 enters_of func139 (by rfl) rfl args w
theorem alq{l:List PId}(d:l.Nodup)(e:∀i j (a:i<l.length) (b:j<l.length),i<j->gj l[j] l[i]=false):oB l:=by
 unfold oB;rw[tT];intro i j a b c;cases h:gj l[i] l[j]with
 |true=>rfl
 |false=>exfalso;have :=Vd h (e i j a b c);exact(tT.1 d i j a b c) this
theorem alr {u:Value} {l:List PId} (h:hR a b u l) (C:l.Nodup) (Y:l.length<=10000):
  O 163 #[u,.func (.func 139) #[] #[]] b λe q=>e=ad (.tuple #[])/\∃r,r.Perm l/\oB r/\hR a q u r/\b.grownBy q u.ownBlock:=by
 by_cases D:l.length=0
 .obtain⟨d,c,rfl,_,_,_⟩:=bz h;refine(ajF d l.length c _ (by omega) b).mono ?_;rintro e q ⟨rfl,o⟩;refine⟨rfl,l,.refl _,?_,dI h o,⟨o.os,o.tape,o.output,o.size,λk E _=>o.block k E⟩⟩;have :l=[]:=D7 D;subst this;exact List.Pairwise.nil
 obtain⟨d,c,rfl,kt,dM,F⟩:=bz h;obtain⟨g,rfl⟩:=F 0 (by omega);obtain⟨I,L⟩:=abJ nc 2 (λ_=>rfl) h;have s:=AnyQ.slices_SortFunc sortIds 2 isAgg36 sizeOf36 nc (λ_=>rfl) (λx v t=>by simp[nc]at t;rcases t with rfl|rfl<;>rfl) pE Qu 139 #[] g 0 c l.toArray b alp (λm w dk _ x y=>alo x.1 x.2 y.1 y.2 _) I L (by simp;omega);change O 163 _ _ _ at s;simp only[K5]at s;refine s.mono ?_;rintro e q ⟨rfl,f,n,w,M,N,rfl⟩;obtain⟨p,_,P⟩:=M;simp at p;obtain⟨Q,R⟩:=abI nc 2 (λ_=>rfl) h n f p w;have z:f.toList.Perm l:=by
  have S:(f.extract 0 l.length).toList=f.toList:=by rw[<-p];simp
  have U:(l.toArray.extract 0 l.length).toList=l:=by simp
  rwa [S,U]at P
 refine⟨rfl,f.toList,z,alq (z.nodup_iff.2 C) (λi j W B X=> ?_),?_,R⟩
 .have :=N i j (b6 _) X (by simpa[p]using B);rw[ID f j (by simpa using B),ID f i (by simpa using W)]at this;simpa[ltOf,gj]using this
 unfold hR;rw[show f.toList.length=l.length by simp[p]];exact Q
