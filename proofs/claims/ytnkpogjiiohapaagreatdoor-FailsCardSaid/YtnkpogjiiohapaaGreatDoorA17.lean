/- Our own text. -/
import Derived.Test.YtnkpogjiiohapaaGreatDoorShelf
import Derived.Lib.AppendIntMem
import Derived.Test.YtnkpogjiiohapaaGreatDoorA10
import Derived.Test.YtnkpogjiiohapaaGreatDoorA15
set_option linter.unusedSimpArgs false
set_option linter.unusedVariables false
namespace Go.Proofs.YtnkpogjiiohapaaGreatDoor
open Go.RowKit Tryz
variable {a:World}
def Pow (w:World):Prop:=Lib.TabIs prog w "internal/strconv.uint64pow10" .u64 Lib.pow10Tab
theorem Pow.ae{w}{w':World}(h:Pow w)(a:Below w.heap.size w w'):Pow w':=Lib.tabBelow_of_tabIs h w' a
theorem agt(n:Int)(b:k7 n)(h:Pow a):O 206 #[A n] a fun e c=>e=.returned (.string (ze n))/\J a c:=
 (strconv_Itoa n b.1 b.2 a h).mono fun e c d=>by
  obtain⟨f,k,g,i⟩:=d;exact⟨f,by rw[i];exact Lib.below_grow _ a (apX _) k g⟩
theorem agu(b:ByteArray)(l:List ByteArray):(⟨(Lib.join (l.map (·.data.toList)) b.data.toList).toArray⟩:ByteArray)=lG b l:=by
 cases l with
 |nil=>rfl
 |cons x l=>
  apply arS;apply Array.toList_inj.1;simp only[aqj,Lib.join_cons,lG];have :∀(l:List ByteArray) (a:ByteArray),(l.foldl (fun s y=>(s++b)++y) a).data.toList=a.data.toList++Lib.joinTail b.data.toList (l.map (·.data.toList)):=by
   intro l
   induction l with
   |nil=>intro a;simp[Lib.joinTail]
   |cons y l ih=>
    intro a;rw[arE,ih];simp[Lib.joinTail,ByteArray.data_append,aqs]
  rw[this]
theorem W9(l:List ByteArray):(l.flatMap yh).length=l.length:=by unfold yh;rw[<-List.map_eq_flatMap];simp
theorem Qr{B l}{g b:Nat}(h:pR B a (.slice (some (H g)) l.length b) l)(j:Nat)(x:ByteArray)(c:l[j]?=some x):a.cell? (K g (0+j))=some (.string x):=by
 obtain⟨d,rfl⟩:=arB.1 c;rw[aqQ,arN h j (by omega)];have :l.flatMap yh=l.map Value.string:=by exact List.map_eq_flatMap.symm
 simp_all
theorem Qs{B v l}(h:pR B a v l)(d:ByteArray)(o:l.length<=10000)(p:(lG d l).size<=140737488355328):
  O 168 #[v,.string d] a fun e f=>e=.returned (.string (lG d l))/\J a f:=by
 obtain⟨b,c,rfl,k,q,m⟩:=bm h;cases l with
 |nil=>exact(strings_Join_none b c d a).mono fun e f i=>⟨i.1,by rw[i.2];exact apY _ _⟩
 |cons x l=>
  obtain⟨g,rfl⟩:=m 0 (by simp);have j:=agu d (x::l);have n:(Lib.join ((x::l).map (·.data.toList)) d.data.toList).length<=140737488355328:=by
   have :=congrArg (fun z:ByteArray=>z.data.size) j
   simp_all
  have :=strings_Join g 0 c (x::l) d a (Qr h) (ap1 h g rfl).2 (by omega) k n;rw[j]at this;exact this
def ri (l:List ByteArray):List ByteArray:=((l.map (·.data.toList)).mergeSort fun x y=>decide (x<=y)).map fun x=>⟨x.toArray⟩
theorem Qt(l:List ByteArray):(ri l).length=l.length:=by unfold ri;simp
theorem agv(l:List ByteArray):(l.map (·.data.toList)).map (fun x=>(⟨x.toArray⟩:ByteArray))=l:=by
 rw[aqO];refine(arx (g:=id) fun a _=> ?_).trans (List.map_id l);rfl
theorem agw(a b c:List UInt8):decide (a<=b)=true->decide (b<=c)=true->decide (a<=c)=true:=fun d e=>by
 simp only[decide_eq_true_eq]at *;exact List.le_trans d e
theorem agx(a b:List UInt8):(decide (a<=b)||decide (b<=a))=true:=by
 simp only[Bool.or_eq_true,decide_eq_true_eq];exact List.le_total a b
theorem Xa(l:List ByteArray):(ri l).Perm l:=by
 unfold ri;have :=(arT (l.map (·.data.toList)) (fun x y=>decide (x<=y))).map (fun x=>(⟨x.toArray⟩:ByteArray));rw[agv]at this;omega
theorem Xb(l:List ByteArray):(ri l).Pairwise fun a b=>a.data.toList<=b.data.toList:=by
 unfold ri;rw[aqN];refine(asw (le:=fun x y=>decide (x<=y)) agw agx (l.map (·.data.toList))).imp fun{a b} h=> ?_
 simp_all
theorem agy{a b:ByteArray}(c:a.data.toList<=b.data.toList)(d:b.data.toList<=a.data.toList):a=b:=by
 apply arS;apply Array.toList_inj.1;exact List.le_antisymm c d
theorem Xc{l m:List ByteArray}(c:l.Perm m)(d:m.Pairwise fun a b=>a.data.toList<=b.data.toList):ri l=m:=
 List.Perm.eq_of_pairwise (le:=fun a b=>a.data.toList<=b.data.toList) (fun a b _ _ e f=>agy e f) (Xb l) d ((Xa l).trans c)
theorem agz(l m:List ByteArray)(a:l.Perm m):ri l=ri m:=Xc (a.trans (Xa m).symm) (Xb m)
theorem Xd:∀(a b:List UInt8),Op.bytesLess b a=false->a<=b
 |[],b,_=>List.nil_le b
 |x::a,[],h=>by contradiction
 |x::a,y::b,h=>by
  simp[Op.bytesLess,UInt8.lt_iff_toNat_lt,UInt8.le_iff_toNat_le]at h;rw[List.cons_le_cons_iff];by_cases e:x=y
  ·subst e;exact .inr ⟨rfl,Xd a b (h.2 rfl)⟩
  refine .inl ?_;rw[UInt8.lt_iff_toNat_lt];have :x.toNat≠y.toNat:=fun c=>e (UInt8.toNat_inj.1 c)
  omega
theorem agA(B:Nat)(W:World)(v:Value)(l:List ByteArray)(h:pR B W v l)(hl:l.length<=10000):
  O 188 #[v] W fun e f=>(∃r,e=.returned r)/\pR B f v (ri l)/\W.grownBy f v.ownBlock:=by
 obtain⟨a,c,e,jq,cZ,u⟩:=bm h;cases l with
 |nil=>
  subst e;refine(slices_Sort_string_none a c W).mono fun e f o=> ?_
  obtain⟨b,rfl⟩:=o;have KM:ri []=[]:=by simp[ri]
  exact⟨⟨_,b⟩,by simp_all,rfl,rfl,rfl,apX _,fun _ _ _=>rfl⟩
 |cons x l=>
  obtain⟨g,rfl⟩:=u 0 (by simp);subst e;rcases h.2 with⟨b,_⟩|⟨g',cap,p,e,w,m,z,C,D,T2⟩
  ·cases b
  cases e;have E:((x::l).map (·.data.toList)).length=(x::l).length:=by simp
  have F:Go.Sort.Holds encStr W g 0 ((x::l).map (·.data.toList)).toArray:=fun j q=>by
   have pZ:j<(x::l).length:=by simpa using q
   refine⟨?_,by simp[World.frozen?,m]⟩;rw[Qr h j (x::l)[j] (by simp),getElem!_pos _ j q];simp only[List.getElem_toArray,aqH]
  have s:=slices_Sort_string g 0 c ((x::l).map (·.data.toList)) W F (aN m) (by omega);rw[E]at s;refine s.mono fun e f o=> ?_
  obtain⟨b,n,I,rfl⟩:=o;generalize t:(((x::l).map (·.data.toList)).mergeSort fun x y=>decide (x<=y))=d;have L:d.length=(x::l).length:=by rw[<-t];simp
  have M:ri (x::l)=d.map fun x=>⟨x.toArray⟩:=by unfold ri;rw[t]
  have N:(Go.Sort.grow (Go.Sort.putRow encStr (Go.Sort.ahead W n) g 0 d.toArray) I).heap[g]?=some (.cells (Go.Sort.putCells encStr 0 d.toArray p) 9 (0,0)):=by
   obtain⟨_,P⟩:=ap8.1 m;simp[Go.Sort.grow,Go.Sort.putRow,Go.Sort.mapBlock,Go.Sort.ahead,Array.getElem?_append,Array.getElem_modify,P,Go.Sort.onCells,aN m]
  refine⟨⟨_,b⟩,⟨?_,.inr ⟨g,c,_,?_,w,N,?_,C,?_,?_⟩⟩,rfl,rfl,rfl,?_,?_⟩
  ·rw[W9];simp
  ·rw[Qt]
  ·rw[Qt];exact z
  ·simp only[Go.Sort.putCells,Array.size_mapIdx];exact D
  ·rw[Qt,M];apply aq9;intro i;have j0:(x::l).length<=p.size:=by omega
   by_cases hi:i<(x::l).length
   ·have Q:i<p.size:=by omega
    have R:i<d.length:=by omega
    rw[List.getElem?_take_of_lt (by omega)];simp only[Go.Sort.putCells];have S:((d.map fun x=>(⟨x.toArray⟩:ByteArray)).flatMap yh)=d.map encStr:=by
     unfold yh;rw[<-List.map_eq_flatMap,aqO];rfl
    rw[S];simp[Q,R]
   have aL:((d.map fun x=>(⟨x.toArray⟩:ByteArray)).flatMap yh).length=(x::l).length:=by rw[W9,ap2,L]
   rw[asE (by rw[aqg];omega),asE (by omega)]
  ·simp[Go.Sort.grow,Go.Sort.putRow,Go.Sort.mapBlock,Go.Sort.ahead]
  intro k U X;have Y:g≠k:=fun e=>X (by rw[<-e];rfl)
  simp[Go.Sort.grow,Go.Sort.putRow,Go.Sort.mapBlock,Go.Sort.ahead,Array.getElem?_append,Array.getElem_modify,Y,U]
end Go.Proofs.YtnkpogjiiohapaaGreatDoor
