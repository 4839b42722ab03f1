/- Our own text. -/
import Derived.Test.YtnkpogjiiohapaaGreatDoorShelf
import Derived.Lib.AppendIntMem
import Derived.Test.YtnkpogjiiohapaaGreatDoorA13
set_option linter.unusedSimpArgs false
set_option linter.unusedVariables false
namespace Go.Proofs.YtnkpogjiiohapaaGreatDoor
open Go.RowKit Tryz
variable {a:World}
def Pow (w:World):Prop:=Lib.TabIs prog w "internal/strconv.uint64pow10" .u64 Lib.pow10Tab
theorem Pow.ak{w}{w':World}(h:Pow w)(a:Below w.heap.size w w'):Pow w':=Lib.tabBelow_of_tabIs h w' a
theorem alf (n:Int) (b:mv n) (h:Pow a):O 206 #[A n] a λe c=>e=ad (.string (Ep n))/\J a c:=
 (strconv_Itoa n b.1 b.2 a h).mono λe c d=>by obtain⟨f,k,g,i⟩:=d;exact⟨f,by rw[i];exact Lib.below_grow _ a (bW _) k g⟩
theorem alg(b:ByteArray)(l:List ByteArray):(⟨(Lib.join (l.map (·.data.toList)) b.data.toList).toArray⟩:ByteArray)=m5 b l:=by
 cases l with
 |nil=>rfl
 |cons x l=>
  apply SI;apply afU.1;simp only[ip,Lib.join_cons,m5];have :∀(l:List ByteArray) (a:ByteArray),(l.foldl (λs y=>(s++b)++y) a).data.toList=a.data.toList++Lib.joinTail b.data.toList (l.map (·.data.toList)):=by
   intro l
   induction l with
   |nil=>intro a;simp[Lib.joinTail]
   |cons y l ih=>intro a;rw[Iz,ih];simp[Lib.joinTail,ByteArray.data_append,kr]
  rw[this]
theorem abA(l:List ByteArray):(l.flatMap A8).length=l.length:=by unfold A8;rw[<-atH];simp
theorem Va{B l}{g b:Nat}(h:rJ B a (aa g l.length b) l)(j:Nat)(x:ByteArray)(c:l[j]?=some x):a.cell? (K g (0+j))=some (.string x):=by
 obtain⟨d,rfl⟩:=Au.1 c;rw[sY,Iy h j (by omega)];have :l.flatMap A8=l.map Value.string:=List.map_eq_flatMap.symm
 simp_all
theorem Vb {B:Nat} {v:Value} {l:List ByteArray} (h:rJ B a v l) (d:ByteArray) (o:l.length<=10000) (p:(m5 d l).size<=140737488355328):
  O 168 #[v,.string d] a λe f=>e=ad (.string (m5 d l))/\J a f:=by
 obtain⟨b,c,rfl,k,q,m⟩:=bz h;cases l with
 |nil=>exact(strings_Join_none b c d a).mono λe f i=>⟨i.1,by rw[i.2];exact ca _ _⟩
 |cons x l=>
  obtain⟨g,rfl⟩:=m 0 (by simp);have j:=alg d (x::l);have n:(Lib.join ((x::l).map (·.data.toList)) d.data.toList).length<=140737488355328:=by
   have :=kq (λz:ByteArray=>z.data.size) j
   simp_all
  have :=strings_Join g 0 c (x::l) d a (Va h) (cX h g rfl).2 (by omega) k n;rw[j]at this;exact this
def tw (l:List ByteArray):List ByteArray:=((l.map (·.data.toList)).mergeSort λx y=>decide (x<=y)).map λx=>⟨x.toArray⟩
theorem Vc(l:List ByteArray):(tw l).length=l.length:=by unfold tw;simp
theorem alh (l:List ByteArray):(l.map (·.data.toList)).map (λx=>(⟨x.toArray⟩:ByteArray))=l:=by rw[rz];refine(F8 (g:=id) λa _=> ?_).trans (Y2 l);rfl
theorem ali(a b c:List UInt8):decide (a<=b)=true->decide (b<=c)=true->decide (a<=c)=true:=λd e=>by simp only[Eb]at *;exact List.le_trans d e
theorem alj(a b:List UInt8):(decide (a<=b)||decide (b<=a))=true:=by simp only[af7,Eb];exact List.le_total a b
theorem abB(l:List ByteArray):(tw l).Perm l:=by unfold tw;have :=(OF (l.map (·.data.toList)) (λx y=>decide (x<=y))).map (λx=>(⟨x.toArray⟩:ByteArray));rw[alh]at this;omega
theorem abC (l:List ByteArray):(tw l).Pairwise λa b=>a.data.toList<=b.data.toList:=by
 unfold tw;rw[ry];refine(YQ (le:=λx y=>decide (x<=y)) ali alj (l.map (·.data.toList))).imp λ{a b} h=> ?_
 simp_all
theorem alk{a b:ByteArray}(c:a.data.toList<=b.data.toList)(d:b.data.toList<=a.data.toList):a=b:=by apply SI;apply afU.1;exact List.le_antisymm c d
theorem abD {l m:List ByteArray} (c:l.Perm m) (d:m.Pairwise λa b=>a.data.toList<=b.data.toList):tw l=m:=
 List.Perm.eq_of_pairwise (le:=λa b=>a.data.toList<=b.data.toList) (λa b _ _ e f=>alk e f) (abC l) d ((abB l).trans c)
theorem alm(l m:List ByteArray)(a:l.Perm m):tw l=tw m:=abD (a.trans (abB m).symm) (abC m)
theorem abE:∀(a b:List UInt8),Op.bytesLess b a=false->a<=b
 |[],b,_=>List.nil_le b
 |x::a,[],h=>by contradiction
 |x::a,y::b,h=>by
  simp[Op.bytesLess,OA,YE]at h;rw[List.cons_le_cons_iff];by_cases e:x=y
  .subst e;exact .inr ⟨rfl,abE a b (h.2 rfl)⟩
  refine .inl ?_;rw[OA];have :x.toNat≠y.toNat:=λc=>e (afM.1 c)
  omega
theorem aln (B:Nat) (W:World) (v:Value) (l:List ByteArray) (h:rJ B W v l) (hl:l.length<=10000):
  O 188 #[v] W λe f=>(∃r,e=ad r)/\rJ B f v (tw l)/\W.grownBy f v.ownBlock:=by
 obtain⟨a,c,e,kt,dM,u⟩:=bz h;cases l with
 |nil=>
  subst e;refine(slices_Sort_string_none a c W).mono λe f o=> ?_
  obtain⟨b,rfl⟩:=o;have IP:tw []=[]:=by simp[tw]
  exact⟨⟨_,b⟩,by simp_all,rfl,rfl,rfl,bW _,λ_ _ _=>rfl⟩
 |cons x l=>
  obtain⟨g,rfl⟩:=u 0 (by simp);subst e;rcases h.2 with⟨b,_⟩|⟨g',cap,p,e,w,m,z,C,D,Lj⟩
  .cases b
  cases e;have E:((x::l).map (·.data.toList)).length=(x::l).length:=by simp
  have F:Go.Sort.Holds encStr W g 0 ((x::l).map (·.data.toList)).toArray:=λj q=>by
   have pJ:j<(x::l).length:=by simpa using q
   refine⟨?_,by simp[World.frozen?,m]⟩;rw[Va h j (x::l)[j] (by simp),ID _ j q];simp only[List.getElem_toArray,pn]
  have s:=slices_Sort_string g 0 c ((x::l).map (·.data.toList)) W F (aU m) (by omega);rw[E]at s;refine s.mono λe f o=> ?_
  obtain⟨b,n,I,rfl⟩:=o;generalize t:(((x::l).map (·.data.toList)).mergeSort λx y=>decide (x<=y))=d;have L:d.length=(x::l).length:=by rw[<-t];simp
  have M:tw (x::l)=d.map λx=>⟨x.toArray⟩:=by unfold tw;rw[t]
  have N:(Go.Sort.grow (Go.Sort.putRow encStr (Go.Sort.ahead W n) g 0 d.toArray) I).heap[g]?=some (.cells (Go.Sort.putCells encStr 0 d.toArray p) 9):=by obtain⟨_,P⟩:=e8.1 m;simp[Go.Sort.grow,Go.Sort.putRow,Go.Sort.mapBlock,Go.Sort.ahead,atI,atJ,P,Go.Sort.onCells,aU m]
  refine⟨⟨_,b⟩,⟨?_,.inr ⟨g,c,_,?_,w,N,?_,C,?_,?_⟩⟩,rfl,rfl,rfl,?_,?_⟩
  .rw[abA];simp
  .rw[Vc]
  .rw[Vc];exact z
  .simp only[Go.Sort.putCells,Array.size_mapIdx];exact D
  .rw[Vc,M];apply xN;intro i;have kL:(x::l).length<=p.size:=by omega
   by_cases hi:i<(x::l).length
   .have Q:i<p.size:=by omega
    have R:i<d.length:=by omega
    rw[List.getElem?_take_of_lt (by omega)];simp only[Go.Sort.putCells];have S:((d.map λx=>(⟨x.toArray⟩:ByteArray)).flatMap A8)=d.map encStr:=by unfold A8;rw[<-atH,rz];rfl
    rw[S];simp[Q,R]
   have a8:((d.map λx=>(⟨x.toArray⟩:ByteArray)).flatMap A8).length=(x::l).length:=by rw[abA,c2,L]
   rw[S2 (by rw[gU];omega),S2 (by omega)]
  .simp[Go.Sort.grow,Go.Sort.putRow,Go.Sort.mapBlock,Go.Sort.ahead]
  intro k U X;have Y:g≠k:=λe=>X (by rw[<-e];rfl)
  simp[Go.Sort.grow,Go.Sort.putRow,Go.Sort.mapBlock,Go.Sort.ahead,atI,atJ,Y,U]
