/- Our own text. -/
import Derived.Deep.RegionHeld3
import Derived.Deep.DrawnRows
import Derived.Deep.QuietTactic
import Derived.BigQuiet
import Derived.Test.YtnkpogjiiohapaaGreatDoorA12
set_option linter.unusedSimpArgs false
set_option linter.unusedVariables false
set_option maxRecDepth 1000000
set_option maxHeartbeats 2000000
namespace Go.Proofs.YtnkpogjiiohapaaGreatDoor
section
open Go.RowKit Tryz
attribute [local go_sem ↓] Go.wp_at_zero Go.wp_at_succ
variable {b:World}
theorem FL(w:World)(a b:Obj)(x y:Value)(t:TypeId):(((w.alloc a).alloc b).alloc (.cells #[x,y] t)).drew.cell? (H (w.heap.size+2))=some x/\(((w.alloc a).alloc b).alloc (.cells #[x,y] t)).drew.cell? (K (w.heap.size+2) 1)=some y:=by
 have h:=bI ((w.alloc a).alloc b) (.cells #[x,y] t);have c:((w.alloc a).alloc b).heap.size=w.heap.size+2:=by simp
 rw[c]at h;exact bl (w:=(((w.alloc a).alloc b).alloc (.cells #[x,y] t)).drew) h
theorem afB(c d f i:Int)(w:World):
  O 139 #[.agg #[A c,A d],.agg #[A f,A i]] w fun e j=>e=.returned (A (nV (c,d) (f,i)))/\J w j:=by
 go_enter func139,ntmps139;go_wp2_with fail
 go_region_held3 (fun W=>W.cell? (V w 0)=some (A c)/\W.cell? (V w 1)=some (A d)/\W.cell? (H (w.heap.size+1))=some (A f)/\W.cell? (K (w.heap.size+1) 1)=some (A i)) (go_keep)
  (first
   |(go_at_call 166;refine(PT _ _ _).mono ?_;rintro e j ⟨rfl,rfl⟩)
   |(go_at_call 165;refine(PU (g:=w.heap.size+2) (a:=vx c f) (b:=vx d i) ?_ ?_).mono ?_;(exact(FL _ _ _ _ _ _).1);(exact(FL _ _ _ _ _ _).2);rintro e j ⟨rfl,rfl⟩))
 all_goals go_wp2
 all_goals go_ret
 all_goals exact⟨rfl,by go_grown⟩
structure ar where
 op:nU
 t:TypeId
 v:Value
variable {a:List ar}
def dH (o:ar):List Value:=[A o.op.id.1,A o.op.id.2,A o.op.nth,.iface o.t o.v]
def fN (B:Nat) (w:World) (v:Value) (l:List ar):Prop:=w.ownsRow B 210 4 v l.length (l.flatMap dH)
theorem Wu {α:Type} {f:α->List Value} (a:∀x,(f x).length=4):∀(l:List α) (k:Nat) (b:k<l.length) (j:Nat),j<4->(l.flatMap f)[k*4+j]?=(f l[k])[j]?
 |x::l,0,_,j,c=>by
  rw[aqm,arY (by rw[a];omega)];simp
 |x::l,k+1,b,j,c=>by
  rw[aqm,arZ (by rw[a];omega),a,show(k+1)*4+j-4=k*4+j by omega];exact Wu a l k (by simpa using b) j c
theorem fN.cells{B w}{g cap:Nat}(h:fN B w (.slice (some (H g)) a.length cap) a)(k:Nat)(e:k<a.length):
  w.cell? (K g (k*4))=some (A a[k].op.id.1)/\w.cell? (K g (k*4+1))=some (A a[k].op.id.2)/\w.cell? (K g (k*4+2))=some (A a[k].op.nth)/\w.cell? (K g (k*4+3))=some (.iface a[k].t a[k].v):=by
 have b:=fun j (d:j<4)=>arN h (k*4+j) (by omega)
 have c:=fun j (d:j<4)=>Wu (f:=dH) (fun _=>rfl) a k e j d
 refine⟨?_,?_,?_,?_⟩
 ·have :=(b 0 (by omega)).trans (c 0 (by omega));simpa[dH]using this
 ·have :=(b 1 (by omega)).trans (c 1 (by omega));simpa[dH]using this
 ·have :=(b 2 (by omega)).trans (c 2 (by omega));simpa[dH]using this
 have :=(b 3 (by omega)).trans (c 3 (by omega));simpa[dH]using this
theorem ym(w:World)(a b c d:Value)(t:TypeId):(w.alloc (.cells #[a,b,c,d] t)).cell? (H w.heap.size)=some a/\(w.alloc (.cells #[a,b,c,d] t)).cell? (K w.heap.size 1)=some b/\(w.alloc (.cells #[a,b,c,d] t)).cell? (K w.heap.size 2)=some c/\(w.alloc (.cells #[a,b,c,d] t)).cell? (K w.heap.size 3)=some d:=FH (bI w _)
theorem mx{w:World}(h:Below w.drew.heap.size w.drew b):Hq (J w b):=⟨h.os,h.tape,h.output,h.size,h.block⟩
theorem PV(a b f c d g:Int)(h i:TypeId)(j k:Value)(w:World):
  O 211 #[.agg #[A a,A b,A f,.iface h j],.agg #[A c,A d,A g,.iface i k]] w fun e n=>e=.returned (A (nV (a,b) (c,d)))/\J w n:=by
 have l:=aa (((apY w.heap.size w).alloc (apX _) (.cells #[A a,A b,A f,.iface h j] 210)).alloc (by simp) (.cells #[A c,A d,A g,.iface i k] 210));go_enter func211,ntmps211;go_wp2_with fail
 refine(afB a b c d _).mono ?_;rintro e q ⟨rfl,m⟩;have p:=l.o.trans (m.mono l.o.size);clear m;go_wp2;go_ret
 exact⟨rfl,p⟩
theorem zB {α:Type} (f:α->List Value) (size bytes:Nat) (t e:TypeId) (z:Value) (q:(prog.info? e).map (fun i=>(i.zero,i.size,i.bytes))=some (some z,size,bytes))
  (r:prog.underlying t=some (.slice e)) (w:z.cells.size=size) (n:0<size) (C:∀x,(f x).length=size)
  {p:Array Oper} {rest:List Oper} {o:Oper} {a:Act} {Q:Exit->Act->World->Prop} (D:o.guard=none) (s x:Operand)
  (E:o.op=.call {callee:=.builtin .append,args:= #[s,x],argTypes:= #[t,t]}) (B:Nat) (v:Value) (l:List α) (F:a.eval s=v)
  (I:b.ownsRow B e size v l.length (l.flatMap f)) (g c:Nat) (y:α) (L:a.eval x=.slice (some (H g)) 1 c)
  (M:∀j u,(f y)[j]?=some u->b.cell? (K g j)=some u) (N:∀u∈f y,u.oneCell'=true) (R:(l.length+1)*bytes<=140737488355328) (p9:l.length<maxLen) (S:B<=b.heap.size)
  (h:∀d m,m.ownsRow B e size d (l.length+1) ((l++[y]).flatMap f)->b.grownBy m v.ownBlock->iR b v d->wpList prog p Q rest (a.put o.dst d) m):wpList prog p Q (o::rest) a b:=by
 obtain⟨i,U,W,X,Y⟩:=info_parts q;refine wpList_append_own_at (P:=prog) b D s x t E B e i z size bytes r U W X Y w n v l.length (l.flatMap f) F I (H g) 1 c (f y) L (by rw[C];simp) ?_ N (by omega) R S ?_
 ·intro j u hu;have :((H g):Addr).add j=(K g j):=by unfold Addr.add;split <;>simp_all
  rw[this];exact M j u hu
 intro d m h2 al _ b1;exact h d m (by simpa using h2) al (b1.imp id fun e9 k n=>by rw[e9]at n;cases n;exact apX _)
theorem PW{w:World}{g:Nat}{x:ar}(b:w.cell? (H g)=some (A x.op.id.1))(c:w.cell? (K g 1)=some (A x.op.id.2))(d:w.cell? (K g 2)=some (A x.op.nth))(e:w.cell? (K g 3)=some (.iface x.t x.v)):
  ∀j u,(dH x)[j]?=some u->w.cell? (K g j)=some u:=by
 intro j u a
 match j with
 |0=>simp[dH]at a;rw[<-a];exact b
 |1=>simp[dH]at a;rw[<-a];exact c
 |2=>simp[dH]at a;rw[<-a];exact d
 |3=>simp[dH]at a;rw[<-a];exact e
 |j+4=>simp[dH]at a
theorem Bp(x:ar):∀u∈dH x,u.oneCell'=true:=by
 intro u a;simp[dH]at a;rcases a with rfl|rfl|rfl|rfl<;>rfl
theorem afC{v}(h:fN 0 b v a)(x:ar)(g:Nat)(u:b.cell? (H g)=some (A x.op.id.1))(w:b.cell? (K g 1)=some (A x.op.id.2))(y:b.cell? (K g 2)=some (A x.op.nth))(z:b.cell? (K g 3)=some (.iface x.t x.v))(I:a.length<=100000):
  O 212 #[v,A a.length,.slice (some (H g)) 1 1] b fun e p=>∃f,e=.returned f/\fN 0 p f (a++[x])/\b.grownBy p v.ownBlock/\iR b v f:=by
 have q:=aa (PW (x:=x) u w y z);obtain⟨d,c,rfl,B,C,r⟩:=bm h;unfold maxLen at C;have s:=aa h;clear h;have D:=aa r;clear r;clear D;rcases Nat.eq_or_lt_of_le B with E|L
 ·subst E;go_enter func212,ntmps212;go_wp2_with (first
   |(at_builtin;refine zB dH 4 40 202 210 (.agg #[A 0,A 0,A 0,.nilIface]) (by kernel_rfl) underlying202 rfl (by omega) (fun _=>rfl) rfl (.tmp 23) (.tmp 24) rfl 0 (.slice d a.length a.length) a rfl s.o g 1 x rfl q.o (Bp x) (by omega) (by unfold maxLen;omega) (apZ _) ?_;intro f F i j k;have l:=aa i;have m:=aa j;have n:=aa k;clear i j k)
   |fail)
  all_goals(try go_ret)
  all_goals exact⟨_,rfl,by simpa[fN]using l.o,m.o,n.o⟩
 go_enter func212,ntmps212;go_wp2_with (first
  |(at_builtin;refine zB dH 4 40 202 210 (.agg #[A 0,A 0,A 0,.nilIface]) (by kernel_rfl) underlying202 rfl (by omega) (fun _=>rfl) rfl (.tmp 23) (.tmp 24) rfl 0 (.slice d a.length c) a rfl s.o g 1 x rfl q.o (Bp x) (by omega) (by unfold maxLen;omega) (apZ _) ?_;intro f F i j k;have l:=aa i;have m:=aa j;have n:=aa k;clear i j k)
  |fail)
 all_goals(try go_ret)
 all_goals exact⟨_,rfl,by simpa[fN]using l.o,m.o,n.o⟩
theorem afD{w v}(h:fN 0 w v a)(x:ar)(q:Nat)(jR:q<=a.length)(M:∀i (hi:i<a.length),i<q->nV a[i].op.id x.op.id<0)(N:∀i (hi:i<a.length),q<=i->0<nV a[i].op.id x.op.id)(hl:a.length<=100000):
  O 210 #[v,.agg #[A x.op.id.1,A x.op.id.2,A x.op.nth,.iface x.t x.v],.func (.func 211) #[] #[]] w fun e w'=>e=.returned (.tuple #[A q,.bool false])/\J w w':=by
 obtain⟨d,c,rfl,jq,cZ,P⟩:=bm h;unfold maxLen at cZ;have Q:=aa h;clear h;have R:=aa P;clear P;have pP:=aa M;clear M;have S:=aa N;clear N;have a7:=aa ((apY w.heap.size w).alloc (apX _) (.cells #[A x.op.id.1,A x.op.id.2,A x.op.nth,.iface x.t x.v] 210));go_enter func210,ntmps210;go_wp2_with fail
 go_loopw [9,10] (fun i j wr=>∃k b:Nat,k<=q/\q<=b/\b<=a.length/\i=A k/\j=A b/\Below (w.heap.size+1) (w.alloc (.cells #[A x.op.id.1,A x.op.id.2,A x.op.nth,.iface x.t x.v] 210)) wr) (fun i j _=>(intOf j).toNat-(intOf i).toNat)
 case atStart=>exact⟨0,a.length,apZ _,jR,apX _,rfl,rfl,apY _ _⟩
 case round=>
  obtain⟨k,b,hk,EX,eX,rfl,rfl,n⟩:=hrel;have l:=aa (a7.o.trans (n.mono (aqy _)));have gF:=ym w (A x.op.id.1) (A x.op.id.2) (A x.op.nth) (.iface x.t x.v) 210;have L:(w.alloc (.cells #[A x.op.id.1,A x.op.id.2,A x.op.nth,.iface x.t x.v] 210)).heap.size=w.heap.size+1:=by simp
  obtain⟨z,B,C,D⟩:=gF;rw[<-L]at n;replace z:=ae n z;replace B:=ae n B;replace C:=ae n C;replace D:=ae n D;rw[L]at n;clear L;have I:=aa n;clear n;by_cases dZ:k<b
  ·obtain⟨g,rfl⟩:=R.o 0 (by omega);obtain⟨m,hm,E,FM⟩:∃m:Nat,((k:Int)+(b:Int))/2=(m:Int)/\m<b/\k<=m:=⟨(k+b)/2,by omega,by omega,by omega⟩;have aof:=E;replace E:m<a.length:=by omega
   obtain⟨r,s,u,y⟩:=fN.cells Q.o m E;replace r:=ae l.o r;replace s:=ae l.o s;replace u:=ae l.o u;replace y:=ae l.o y;have EZ:(0:Int)<=(m:Int):=aqc _;have nx:(m:Int)<(a.length:Int):=by omega
   by_cases Dw:m<q
   ·have Uw:=pP.o m E Dw;go_wp2_with fail
    go_region_held3 (fun W=>W.cell? (K g (m*4))=some (A a[m].op.id.1)/\W.cell? (K g (m*4+1))=some (A a[m].op.id.2)/\W.cell? (K g (m*4+2))=some (A a[m].op.nth)/\W.cell? (K g (m*4+3))=some (.iface a[m].t a[m].v)/\
      W.cell? (V w 0)=some (A x.op.id.1)/\W.cell? (V w 1)=some (A x.op.id.2)/\W.cell? (V w 2)=some (A x.op.nth)/\W.cell? (V w 3)=some (.iface x.t x.v)) (go_keep)
     (first
      |(go_at_call 211;refine(PV _ _ _ _ _ _ _ _ _ _ _).mono ?_;rintro e U ⟨rfl,p⟩;have f:=Hq.o (mx p);clear p;have X:=ae f r;have Y:=ae f s;have d2:=ae f u;have d3:=ae f y;have cC:=ae f z;have aj:=ae f B;have aw:=ae f C;have cS:=ae f D;have F:=aa f;clear f))
    go_wp2;go_roundw
    case rel=>exact⟨m+1,b,by omega,EX,eX,by go_num,rfl,I.o.trans (F.o.mono (ap0 (by simp) I.o.size))⟩
    case measure=>simp[intOf];omega
   have N9:=S.o m E (by omega);have Pr:¬(nV a[m].op.id x.op.id<0):=by omega
   have hnz:0<=nV a[m].op.id x.op.id:=by omega
   have wS:decide (nV a[m].op.id x.op.id<0)=false:=by simpa using hnz
   go_wp2_with fail
   go_region_held3 (fun W=>W.cell? (K g (m*4))=some (A a[m].op.id.1)/\W.cell? (K g (m*4+1))=some (A a[m].op.id.2)/\W.cell? (K g (m*4+2))=some (A a[m].op.nth)/\W.cell? (K g (m*4+3))=some (.iface a[m].t a[m].v)/\
     W.cell? (V w 0)=some (A x.op.id.1)/\W.cell? (V w 1)=some (A x.op.id.2)/\W.cell? (V w 2)=some (A x.op.nth)/\W.cell? (V w 3)=some (.iface x.t x.v)) (go_keep)
    (first
     |(go_at_call 211;refine(PV _ _ _ _ _ _ _ _ _ _ _).mono ?_;rintro e U ⟨rfl,p⟩;have f:=Hq.o (mx p);clear p;have X:=ae f r;have Y:=ae f s;have d2:=ae f u;have d3:=ae f y;have cC:=ae f z;have aj:=ae f B;have aw:=ae f C;have cS:=ae f D;have F:=aa f;clear f))
   go_wp2;go_roundw
   case rel=>exact⟨k,m,hk,by omega,by omega,rfl,rfl,I.o.trans (F.o.mono (ap0 (by simp) I.o.size))⟩
   case measure=>simp[intOf];omega
  obtain rfl:k=q:=by omega
  obtain rfl:b=k:=by omega
  by_cases H4:b<a.length
  ·obtain⟨g,rfl⟩:=R.o 0 (by omega);obtain⟨r,s,u,y⟩:=fN.cells Q.o b H4;replace r:=ae l.o r;replace s:=ae l.o s;replace u:=ae l.o u;replace y:=ae l.o y;have N9:=S.o b H4 (apX _);have bp:¬(nV a[b].op.id x.op.id=0):=by omega
   have aZ:(0:Int)<=(b:Int):=aqc _;have p:(b:Int)<(a.length:Int):=by omega
   go_wp2_with fail
   go_region_held3 (fun W=>W.cell? (K g (b*4))=some (A a[b].op.id.1)/\W.cell? (K g (b*4+1))=some (A a[b].op.id.2)/\W.cell? (K g (b*4+2))=some (A a[b].op.nth)/\W.cell? (K g (b*4+3))=some (.iface a[b].t a[b].v)/\
     W.cell? (V w 0)=some (A x.op.id.1)/\W.cell? (V w 1)=some (A x.op.id.2)/\W.cell? (V w 2)=some (A x.op.nth)/\W.cell? (V w 3)=some (.iface x.t x.v)) (go_keep)
    (first
     |(go_at_call 211;refine(PV _ _ _ _ _ _ _ _ _ _ _).mono ?_;rintro e U ⟨rfl,p⟩;have f:=Hq.o (mx p);clear p;have X:=ae f r;have Y:=ae f s;have d2:=ae f u;have d3:=ae f y;have cC:=ae f z;have aj:=ae f B;have aw:=ae f C;have cS:=ae f D;have F:=aa f;clear f))
   go_wp2;go_ret2
   refine⟨?_,l.o.trans (F.o.mono l.o.size)⟩;have bM:(nV a[b].op.id x.op.id==0)=false:=by simpa using bp
   rw[show(nV (a[b].op.id.1,a[b].op.id.2) (x.op.id.1,x.op.id.2)==0)=false from bM];rfl
  have ho:b=a.length:=by omega
  subst ho;go_wp2_with fail
  go_quiet (fail)
  go_wp2;go_ret2
  all_goals exact⟨rfl,below_drewN l.o _⟩
end
end Go.Proofs.YtnkpogjiiohapaaGreatDoor
