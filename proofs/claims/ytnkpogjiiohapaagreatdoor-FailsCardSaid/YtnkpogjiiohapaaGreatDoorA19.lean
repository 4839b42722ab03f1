/- Our own text. -/
import Derived.Test.YtnkpogjiiohapaaGreatDoorShelfB
import Derived.Test.YtnkpogjiiohapaaGreatDoorA18
import Derived.Test.YtnkpogjiiohapaaGreatDoorA10
set_option linter.unusedSimpArgs false
set_option linter.unusedVariables false
set_option maxHeartbeats 1000000
namespace Go.Proofs.YtnkpogjiiohapaaGreatDoor
open Go.RowKit Go.Sort Go.Shelf Tryz
variable {a c d:Nat}{b:World}
theorem Xf {α:Type} {f:α->List Value} {k:Nat} (a:∀x,(f x).length=k):∀(l:List α) (q:Nat) (c:q<l.length) (j:Nat),j<k->(l.flatMap f)[q*k+j]?=(f l[q])[j]?
 |x::l,0,_,j,b=>by
  rw[aqm,arY (by simp_all)];simp
 |x::l,q+1,c,j,b=>by
  have e:(q+1)*k=q*k+k:=by rw[aqZ,Nat.one_mul]
  rw[aqm,arZ (by rw[a];omega),a,show(q+1)*k+j-k=q*k+j by omega];exact Xf a l q (by simp_all) j b
theorem Xg {α:Type} [Inhabited α] (a:α->List Value) (k:Nat) (b:∀x,(a x).length=k) (d:Array α):(flatK a k d).toList=d.toList.flatMap a:=by
 apply aq9;intro t;have l:(d.toList.flatMap a).length=d.size*k:=by rw[qS a k b];simp
 by_cases c:t<d.size*k
 ·have e:0<k:=by
   rcases Nat.eq_zero_or_pos k with h|h
   ·simp_all
   omega
  have g:=Nat.div_lt_of_lt_mul (by rw[asj];exact c);have i:=get_flatK a k d t c;have f:=Xf b d.toList (t/k) (by omega) (t%k) (Nat.mod_lt _ e);rw[show t/k*k+t%k=t by rw[asj];exact Nat.div_add_mod t k]at f;rw[f];have j:t<(flatK a k d).size:=by simp_all
  rw[getElem!_pos _ t j,getElem!_pos d (t/k) g]at i;have m:t%k<(a d[t/k]).length:=by rw[b];exact Nat.mod_lt _ e
  simp_all
 simp_all
theorem Xh {α:Type} [Inhabited α] (f:α->List Value) (k:Nat) (u:∀x,(f x).length=k) {t:TypeId} {l:List α} (h:b.ownsRow d t k (.slice (some (H a)) l.length c) l.length (l.flatMap f)) (m:Nat) (g:Array α) (p:g.size=l.length) (n:Array Obj):
  (sortWorldK f k b a 0 m g n).ownsRow d t k (.slice (some (H a)) l.length c) l.length (g.toList.flatMap f)/\b.grownBy (sortWorldK f k b a 0 m g n) (some a):=by
 obtain⟨N,q|⟨P,Q,v,q,z,w,y,B,C,R⟩⟩:=h
 ·cases q.1
 obtain⟨rfl,rfl⟩:=q;have S:=aN w;have D:(g.toList.flatMap f).length=l.length*k:=by rw[qS f k u];simp[p]
 have E:(sortWorldK f k b a 0 m g n).heap[a]?=some (.cells (putCells id 0 (flatK f k g) v) t (0,0)):=by
  unfold sortWorldK putRowK putRow;rw[heap_grow_old _ _ (by simp[mapBlock,Sort.ahead];omega)];simp[mapBlock,Sort.ahead,ars,w,onCells]
 have F:∀j,j<b.heap.size->j≠a->(sortWorldK f k b a 0 m g n).heap[j]?=b.heap[j]?:=fun j r s=>by
  unfold sortWorldK putRowK putRow;rw[heap_grow_old _ _ (by simp[mapBlock,Sort.ahead];exact r)];simp[mapBlock,Sort.ahead,ars,aqa s]
 have I:b.heap.size<=(sortWorldK f k b a 0 m g n).heap.size:=by
  unfold sortWorldK putRowK putRow grow;simp[mapBlock,Sort.ahead]
 refine⟨⟨D,.inr ⟨a,c,_,rfl,z,E,y,B,by simp[putCells,C],?_⟩⟩,⟨rfl,rfl,rfl,I,fun j r s=>F j r (fun e=>s (by rw[e]))⟩⟩;have U:=aqV k y;apply aq9;intro i;by_cases o:i<l.length*k
 ·rw[art,if_pos o];have L:i<(flatK f k g).size:=by simp[p];exact o
  rw[<-Xg f k u g];have M:i<v.size:=by omega
  simp only[putCells,Array.getElem?_toList,Array.getElem?_mapIdx];rw[asK M,asK L];simp[p,o]
 rw[art,if_neg o,asE (by omega)]
theorem Xi {α:Type} [Inhabited α] (e:α->List Value) (k:Nat) (g:∀x,(e x).length=k) {t:TypeId} {l:List α} (h:b.ownsRow c t k (.slice (some (H a)) l.length d) l.length (l.flatMap e)):HoldsK e k b a 0 l.toArray/\a<b.heap.size:=by
 have f:=bq h rfl;obtain⟨n,f⟩:=f;refine⟨fun j i=>⟨?_,cG f _⟩,aN f⟩;have m:j<l.length*k:=by simp_all
 rw[aqQ,arN h j m,<-(Xg e k g l.toArray),getElem!_pos _ j i];simp
theorem zM(x y:PId):e2 x y=false↔¬(x.1<y.1\/(x.1=y.1/\x.2<y.2)):=by
 rw[<-qz];simp
theorem Qu{x y:PId}(c:e2 x y=false)(d:e2 y x=false):x=y:=by
 have a:=(zM x y).1 c;have b:=(zM y x).1 d;obtain⟨e,f⟩:=x;obtain⟨g,h⟩:=y;simp only[arL]at *;omega
theorem L9:SWO (ltOf nV):=
 ⟨fun x=>(zM x x).2 (by omega),fun x y z c d=>(qz x z).2 (by
  have a:=(qz x y).1 c;have b:=(qz y z).1 d;omega),fun x y z c d=>(zM x z).2 (by
  have a:=(zM x y).1 c;have b:=(zM y z).1 d;omega)⟩
def mX (l:List PId):Prop:=l.Pairwise fun x y=>e2 x y=true
theorem agC(args:Array Value)(w:World):(callFunc 139 args).run prog w=.ok (.enter 139 args) w:=
 enters_of func139 (by rfl) rfl args w
theorem agD{l:List PId}(d:l.Nodup)(e:∀i j (a:i<l.length) (b:j<l.length),i<j->e2 l[j] l[i]=false):mX l:=by
 unfold mX;rw[aqT];intro i j a b c;cases h:e2 l[i] l[j]with
 |true=>rfl
 |false=>
  exfalso;have :=Qu h (e i j a b c);exact(aqT.1 d i j a b c) this
theorem agE{u l}(h:gA a b u l)(C:l.Nodup)(Y:l.length<=10000):
  O 163 #[u,.func (.func 139) #[] #[]] b fun e q=>e=.returned (.tuple #[])/\∃r,r.Perm l/\mX r/\gA a q u r/\b.grownBy q u.ownBlock:=by
 by_cases D:l.length=0
 ·obtain⟨d,c,rfl,_,_,_⟩:=bm h;refine(aeT d l.length c _ (by omega) b).mono ?_;rintro e q ⟨rfl,o⟩;refine⟨rfl,l,.refl _,?_,c7 h o,⟨o.os,o.tape,o.output,o.size,fun k E _=>o.block k E⟩⟩;have :l=[]:=arb D;subst this;exact List.Pairwise.nil
 obtain⟨d,c,rfl,jq,cZ,F⟩:=bm h;obtain⟨g,rfl⟩:=F 0 (by omega);obtain⟨I,L⟩:=Xi lO 2 (fun _=>rfl) h;have s:=AnyQ.slices_SortFunc sortIds 2 isAgg36 sizeOf36 lO (fun _=>rfl) (fun x v t=>by simp[lO]at t;rcases t with rfl|rfl<;>rfl) nV L9 139 #[] g 0 c l.toArray b agC (fun m w dk _ x y=>agB x.1 x.2 y.1 y.2 _) I L (by simp;omega);change O 163 _ _ _ at s;simp only[arp]at s;refine s.mono ?_;rintro e q ⟨rfl,f,n,w,M,N,rfl⟩;obtain⟨p,_,P⟩:=M;simp at p;obtain⟨Q,R⟩:=Xh lO 2 (fun _=>rfl) h n f p w;have z:f.toList.Perm l:=by
  have S:(f.extract 0 l.length).toList=f.toList:=by rw[<-p];simp
  have U:(l.toArray.extract 0 l.length).toList=l:=by simp
  rwa [S,U]at P
 refine⟨rfl,f.toList,z,agD (z.nodup_iff.2 C) (fun i j W B X=> ?_),?_,R⟩
 ·have :=N i j (apZ _) X (by simpa[p]using B);rw[getElem!_pos f j (by simpa using B),getElem!_pos f i (by simpa using W)]at this;simpa[ltOf,e2]using this
 unfold gA;rw[show f.toList.length=l.length by simp[p]];exact Q
end Go.Proofs.YtnkpogjiiohapaaGreatDoor
