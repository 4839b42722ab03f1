/- Our own text. -/
import Derived.Deep.RegionHeld3
import Derived.Deep.DrawnRows
import Derived.Test.YtnkpogjiiohapaaGreatDoorA10
set_option linter.unusedSimpArgs false
set_option linter.unusedVariables false
set_option maxRecDepth 1000000
set_option maxHeartbeats 2000000
namespace Go.Proofs.YtnkpogjiiohapaaGreatDoor
section
open Go.RowKit Tryz
attribute [local go_sem ↓] Go.wp_at_zero Go.wp_at_succ
variable {b:World}
theorem Jr(w:World)(a b:Obj)(x y:Value)(t:TypeId):(((w.alloc a).alloc b).alloc (.cells #[x,y] t)).drew.cell? (H (w.heap.size+2))=some x/\(((w.alloc a).alloc b).alloc (.cells #[x,y] t)).drew.cell? (K (w.heap.size+2) 1)=some y:=by
 have h:=bZ ((w.alloc a).alloc b) (.cells #[x,y] t);have c:((w.alloc a).alloc b).heap.size=w.heap.size+2:=by simp
 rw[c]at h;exact bD (w:=(((w.alloc a).alloc b).alloc (.cells #[x,y] t)).drew) h
theorem akn (c d f i:Int) (w:World):
  O 139 #[.agg #[A c,A d],.agg #[A f,A i]] w λe j=>e=ad (A (pE (c,d) (f,i)))/\J w j:=by
 go_enter func139,ntmps139;go_wp2_with fail
 go_region_held3 (λW=>W.cell? (V w 0)=some (A c)/\W.cell? (V w 1)=some (A d)/\W.cell? (H (w.heap.size+1))=some (A f)/\W.cell? (K (w.heap.size+1) 1)=some (A i)) (go_keep)
  (first
   |(go_at_call 166;refine(UE _ _ _).mono ?_;rintro e j ⟨rfl,rfl⟩)
   |(go_at_call 165;refine(UF (g:=w.heap.size+2) (a:=yi c f) (b:=yi d i) ?_ ?_).mono ?_;(exact(Jr _ _ _ _ _ _).1);(exact(Jr _ _ _ _ _ _).2);rintro e j ⟨rfl,rfl⟩))
 all_goals go_wp2
 all_goals go_ret
 all_goals exact⟨rfl,by go_grown⟩
structure ay where
 op:pC
 t:TypeId
 v:Value
variable {a:List ay}
def ec (o:ay):List Value:=[A o.op.id.1,A o.op.id.2,A o.op.cb,.iface o.t o.v]
def eV (B:Nat) (w:World) (v:Value) (l:List ay):Prop:=w.ownsRow B 210 4 v l.length (l.flatMap ec)
theorem abg {α:Type} {f:α->List Value} (a:∀x,(f x).length=4):∀(l:List α) (k:Nat) (c:k<l.length) (j:Nat),j<4->(l.flatMap f)[k*4+j]?=(f l[k])[j]?
 |x::l,0,_,j,b=>by rw[jI,KU (by simp_all)];simp
 |x::l,k+1,c,j,b=>by rw[jI,KV (by rw[a];omega),a,show(k+1)*4+j-4=k*4+j by omega];exact abg a l k (by simp_all) j b
theorem eV.cells{B w}{g cap:Nat}(h:eV B w (aa g a.length cap) a)(k:Nat)(e:k<a.length):
  w.cell? (K g (k*4))=some (A a[k].op.id.1)/\w.cell? (K g (k*4+1))=some (A a[k].op.id.2)/\w.cell? (K g (k*4+2))=some (A a[k].op.cb)/\w.cell? (K g (k*4+3))=some (.iface a[k].t a[k].v):=by
 have b:=λj (d:j<4)=>Iy h (k*4+j) (by omega)
 have c:=λj (d:j<4)=>abg (f:=ec) (λ_=>rfl) a k e j d
 refine⟨?_,?_,?_,?_⟩
 .have :=(b 0 (by omega)).trans (c 0 (by omega));assumption
 .have :=(b 1 (by omega)).trans (c 1 (by omega));assumption
 .have :=(b 2 (by omega)).trans (c 2 (by omega));assumption
 have :=(b 3 (by omega)).trans (c 3 (by omega));assumption
theorem Bh(w:World)(a b c d:Value)(t:TypeId):(w.alloc (.cells #[a,b,c,d] t)).cell? (H w.heap.size)=some a/\(w.alloc (.cells #[a,b,c,d] t)).cell? (K w.heap.size 1)=some b/\(w.alloc (.cells #[a,b,c,d] t)).cell? (K w.heap.size 2)=some c/\(w.alloc (.cells #[a,b,c,d] t)).cell? (K w.heap.size 3)=some d:=Jp (bZ w _)
theorem nv{w:World}(h:Below w.drew.heap.size w.drew b):Hq (J w b):=⟨h.os,h.tape,h.output,h.size,h.block⟩
theorem UG (a b f c d g:Int) (h i:TypeId) (j k:Value) (w:World):
  O 211 #[.agg #[A a,A b,A f,.iface h j],.agg #[A c,A d,A g,.iface i k]] w λe l=>e=ad (A (pE (a,b) (c,d)))/\J w l:=by
 have m:=(aV w (.cells #[A a,A b,A f,.iface h j] 210)).alloc (by simp) (.cells #[A c,A d,A g,.iface i k] 210);go_enter func211,ntmps211;go_wp2_with fail
 refine(akn a b c d _).mono ?_;rintro e o ⟨rfl,n⟩;have p:=bp m n;go_wp2;go_ret
 simp_all
theorem CV {α:Type} (f:α->List Value) (size bytes:Nat) (t e:TypeId) (z:Value) (q:(prog.info? e).map (λi=>(i.zero,i.size,i.bytes))=some (some z,size,bytes))
  (r:prog.underlying t=some (.slice e)) (w:z.cells.size=size) (n:0<size) (C:∀x,(f x).length=size)
  {p:Array Oper} {rest:List Oper} {o:Oper} {a:Act} {Q:Exit->Act->World->Prop} (D:o.guard=none) (s x:Operand)
  (E:o.op=.call {callee:=.builtin .append,args:= #[s,x],argTypes:= #[t,t]}) (B:Nat) (v:Value) (l:List α) (F:a.eval s=v)
  (I:b.ownsRow B e size v l.length (l.flatMap f)) (g c:Nat) (y:α) (L:a.eval x=aa g 1 c)
  (M:∀j u,(f y)[j]?=some u->b.cell? (K g j)=some u) (N:∀u∈f y,u.oneCell'=true) (R:(l.length+1)*bytes<=140737488355328) (sd:l.length<maxLen) (S:B<=b.heap.size)
  (h:∀d m,m.ownsRow B e size d (l.length+1) ((l++[y]).flatMap f)->b.grownBy m v.ownBlock->lB b v d->wpList prog p Q rest (a.put o.dst d) m):wpList prog p Q (o::rest) a b:=by
 obtain⟨i,U,W,X,Y⟩:=qH q;refine wpList_append_own_at (P:=prog) b D s x t E B e i z size bytes r U W X Y w n v l.length (l.flatMap f) F I (H g) 1 c (f y) L (by rw[C];simp) ?_ N (by omega) R S ?_
 .intro j u hu;have :((H g):Addr).add j=(K g j):=by unfold Addr.add;split <;>simp_all
  rw[this];exact M j u hu
 intro d m h2 ax _ cP;exact h d m (by simpa using h2) ax (cP.imp id λgi k n=>by rw[gi]at n;cases n;simp)
theorem UH{w:World}{g:Nat}{x:ay}(b:w.cell? (H g)=some (A x.op.id.1))(c:w.cell? (K g 1)=some (A x.op.id.2))(d:w.cell? (K g 2)=some (A x.op.cb))(e:w.cell? (K g 3)=some (.iface x.t x.v)):
  ∀j u,(ec x)[j]?=some u->w.cell? (K g j)=some u:=by
 intro j u a
 match j with
 |0=>simp[ec]at a;simp_all
 |1=>simp[ec]at a;simp_all
 |2=>simp[ec]at a;simp_all
 |3=>simp[ec]at a;simp_all
 |j+4=>contradiction
theorem CW(x:ay):∀u∈ec x,u.oneCell'=true:=by intro u a;simp[ec]at a;rcases a with rfl|rfl|rfl|rfl<;>rfl
theorem ako {v:Value} (h:eV 0 b v a) (x:ay) (g:Nat) (u:b.cell? (H g)=some (A x.op.id.1)) (w:b.cell? (K g 1)=some (A x.op.id.2)) (y:b.cell? (K g 2)=some (A x.op.cb)) (z:b.cell? (K g 3)=some (.iface x.t x.v)) (I:a.length<=100000):
  O 212 #[v,A a.length,aa g 1 1] b λe p=>∃f,e=ad f/\eV 0 p f (a++[x])/\b.grownBy p v.ownBlock/\lB b v f:=by
 have q:=ag (UH (x:=x) u w y z);obtain⟨d,c,rfl,B,C,r⟩:=bz h;unfold maxLen at C;have s:=ag h;clear h;have D:=ag r;clear r;clear D;rcases Nat.eq_or_lt_of_le B with E|L
 .subst E;go_enter func212,ntmps212;go_wp2_with (first
   |(at_builtin;refine CV ec 4 40 202 210 (.agg #[A 0,A 0,A 0,.nilIface]) (by rfl) underlying202 rfl (by omega) (λ_=>rfl) rfl (.tmp 23) (.tmp 24) rfl 0 (.slice d a.length a.length) a rfl s.o g 1 x rfl q.o (CW x) (by omega) (by unfold maxLen;omega) (b6 _) ?_;intro f F i j k;have l:=ag i;have m:=ag j;have n:=ag k;clear i j k)
   |fail)
  all_goals(try go_ret)
  all_goals exact⟨_,rfl,by simpa[eV]using l.o,m.o,n.o⟩
 go_enter func212,ntmps212;go_wp2_with (first
  |(at_builtin;refine CV ec 4 40 202 210 (.agg #[A 0,A 0,A 0,.nilIface]) (by rfl) underlying202 rfl (by omega) (λ_=>rfl) rfl (.tmp 23) (.tmp 24) rfl 0 (.slice d a.length c) a rfl s.o g 1 x rfl q.o (CW x) (by omega) (by unfold maxLen;omega) (b6 _) ?_;intro f F i j k;have l:=ag i;have m:=ag j;have n:=ag k;clear i j k)
  |fail)
 all_goals(try go_ret)
 all_goals exact⟨_,rfl,by simpa[eV]using l.o,m.o,n.o⟩
theorem akp {w:World} {v:Value} (h:eV 0 w v a) (x:ay) (q:Nat) (jY:q<=a.length) (M:∀i (hi:i<a.length),i<q->pE a[i].op.id x.op.id<0) (N:∀i (hi:i<a.length),q<=i->0<pE a[i].op.id x.op.id) (hl:a.length<=100000):
  O 210 #[v,.agg #[A x.op.id.1,A x.op.id.2,A x.op.cb,.iface x.t x.v],.func (.func 211) #[] #[]] w λe w'=>e=ad (.tuple #[A q,.bool false])/\J w w':=by
 obtain⟨d,c,rfl,kt,dM,P⟩:=bz h;unfold maxLen at dM;have Q:=ag h;clear h;have R:=ag P;clear P;have o1:=ag M;clear M;have S:=ag N;clear N;have bE:=ag (aV w (.cells #[A x.op.id.1,A x.op.id.2,A x.op.cb,.iface x.t x.v] 210));go_enter func210,ntmps210;go_wp2_with fail
 go_loopw [9,10] (λi j wr=>∃k b:Nat,k<=q/\q<=b/\b<=a.length/\i=A k/\j=A b/\Below (w.heap.size+1) (w.alloc (.cells #[A x.op.id.1,A x.op.id.2,A x.op.cb,.iface x.t x.v] 210)) wr) (λi j _=>(intOf j).toNat-(intOf i).toNat)
 case atStart=>exact⟨0,a.length,b6 _,jY,bW _,rfl,rfl,ca _ _⟩
 case round=>
  obtain⟨k,b,hk,IF,gC,rfl,rfl,n⟩:=hrel;have l:=ag (bE.o.trans (n.mono (oe _)));have h8:=Bh w (A x.op.id.1) (A x.op.id.2) (A x.op.cb) (.iface x.t x.v) 210;have L:(w.alloc (.cells #[A x.op.id.1,A x.op.id.2,A x.op.cb,.iface x.t x.v] 210)).heap.size=w.heap.size+1:=by simp
  obtain⟨z,B,C,D⟩:=h8;rw[<-L]at n;replace z:=ak n z;replace B:=ak n B;replace C:=ak n C;replace D:=ak n D;rw[L]at n;clear L;have I:=ag n;clear n;by_cases ej:k<b
  .obtain⟨g,rfl⟩:=R.o 0 (by omega);obtain⟨m,hm,E,Js⟩:∃m:Nat,((k:Int)+(b:Int))/2=(m:Int)/\m<b/\k<=m:=⟨(k+b)/2,by omega,by omega,by omega⟩;have aun:=E;replace E:m<a.length:=by omega
   obtain⟨r,s,u,y⟩:=eV.cells Q.o m E;replace r:=ak l.o r;replace s:=ak l.o s;replace u:=ak l.o u;replace y:=ak l.o y;have pp:(0:Int)<=(m:Int):=kG _;have nu:(m:Int)<(a.length:Int):=by omega
   by_cases CR:m<q
   .have Z7:=o1.o m E CR;go_wp2_with fail
    go_region_held3 (λW=>W.cell? (K g (m*4))=some (A a[m].op.id.1)/\W.cell? (K g (m*4+1))=some (A a[m].op.id.2)/\W.cell? (K g (m*4+2))=some (A a[m].op.cb)/\W.cell? (K g (m*4+3))=some (.iface a[m].t a[m].v)/\
      W.cell? (V w 0)=some (A x.op.id.1)/\W.cell? (V w 1)=some (A x.op.id.2)/\W.cell? (V w 2)=some (A x.op.cb)/\W.cell? (V w 3)=some (.iface x.t x.v)) (go_keep)
     (first
      |(go_at_call 211;refine(UG _ _ _ _ _ _ _ _ _ _ _).mono ?_;rintro e U ⟨rfl,p⟩;have f:=Hq.o (nv p);clear p;have X:=ak f r;have Y:=ak f s;have d2:=ak f u;have d3:=ak f y;have cR:=ak f z;have av:=ak f B;have aD:=ak f C;have cY:=ak f D;have F:=ag f;clear f))
    go_wp2;go_roundw
    case rel=>exact⟨m+1,b,by omega,IF,gC,by go_num,rfl,I.o.trans (F.o.mono (cd (by simp) I.o.size))⟩
    case measure=>simp[intOf];omega
   have Tb:=S.o m E (by omega);have GN:¬(pE a[m].op.id x.op.id<0):=by omega
   have hnz:0<=pE a[m].op.id x.op.id:=by omega
   have yj:decide (pE a[m].op.id x.op.id<0)=false:=by simpa using hnz
   go_wp2_with fail
   go_region_held3 (λW=>W.cell? (K g (m*4))=some (A a[m].op.id.1)/\W.cell? (K g (m*4+1))=some (A a[m].op.id.2)/\W.cell? (K g (m*4+2))=some (A a[m].op.cb)/\W.cell? (K g (m*4+3))=some (.iface a[m].t a[m].v)/\
     W.cell? (V w 0)=some (A x.op.id.1)/\W.cell? (V w 1)=some (A x.op.id.2)/\W.cell? (V w 2)=some (A x.op.cb)/\W.cell? (V w 3)=some (.iface x.t x.v)) (go_keep)
    (first
     |(go_at_call 211;refine(UG _ _ _ _ _ _ _ _ _ _ _).mono ?_;rintro e U ⟨rfl,p⟩;have f:=Hq.o (nv p);clear p;have X:=ak f r;have Y:=ak f s;have d2:=ak f u;have d3:=ak f y;have cR:=ak f z;have av:=ak f B;have aD:=ak f C;have cY:=ak f D;have F:=ag f;clear f))
   go_wp2;go_roundw
   case rel=>exact⟨k,m,hk,by omega,by omega,rfl,rfl,I.o.trans (F.o.mono (cd (by simp) I.o.size))⟩
   case measure=>simp[intOf];omega
  obtain rfl:k=q:=by omega
  obtain rfl:b=k:=by omega
  by_cases Qc:b<a.length
  .obtain⟨g,rfl⟩:=R.o 0 (by omega);obtain⟨r,s,u,y⟩:=eV.cells Q.o b Qc;replace r:=ak l.o r;replace s:=ak l.o s;replace u:=ak l.o u;replace y:=ak l.o y;have Tb:=S.o b Qc (bW _);have bI:¬(pE a[b].op.id x.op.id=0):=by omega
   have bj:(0:Int)<=(b:Int):=kG _;have p:(b:Int)<(a.length:Int):=by omega
   go_wp2_with fail
   go_region_held3 (λW=>W.cell? (K g (b*4))=some (A a[b].op.id.1)/\W.cell? (K g (b*4+1))=some (A a[b].op.id.2)/\W.cell? (K g (b*4+2))=some (A a[b].op.cb)/\W.cell? (K g (b*4+3))=some (.iface a[b].t a[b].v)/\
     W.cell? (V w 0)=some (A x.op.id.1)/\W.cell? (V w 1)=some (A x.op.id.2)/\W.cell? (V w 2)=some (A x.op.cb)/\W.cell? (V w 3)=some (.iface x.t x.v)) (go_keep)
    (first
     |(go_at_call 211;refine(UG _ _ _ _ _ _ _ _ _ _ _).mono ?_;rintro e U ⟨rfl,p⟩;have f:=Hq.o (nv p);clear p;have X:=ak f r;have Y:=ak f s;have d2:=ak f u;have d3:=ak f y;have cR:=ak f z;have av:=ak f B;have aD:=ak f C;have cY:=ak f D;have F:=ag f;clear f))
   go_wp2;go_ret2
   refine⟨?_,bp l.o F.o⟩;have b1:(pE a[b].op.id x.op.id==0)=false:=by simpa using bI
   rw[show(pE (a[b].op.id.1,a[b].op.id.2) (x.op.id.1,x.op.id.2)==0)=false from b1];rfl
  have iC:b=a.length:=by omega
  subst iC;go_wp2_with fail
  go_quiet (fail)
  go_wp2;go_ret2
  all_goals exact⟨rfl,io l.o _⟩
end
