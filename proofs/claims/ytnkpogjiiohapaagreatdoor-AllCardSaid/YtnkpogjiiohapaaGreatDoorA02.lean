/- Our own text. -/
import Derived.Test.YtnkpogjiiohapaaGreatDoorA01
set_option linter.unusedSimpArgs false
set_option linter.unusedVariables false
namespace Go.Proofs.YtnkpogjiiohapaaGreatDoor
open Go.RowKit Tryz
variable {a d:Nat}{b:Array MapEntry}{c:World}{e f h:TypeId}
def dC (x:PId):Value:=.agg #[A x.1,A x.2]
theorem agC(x y:PId)(W:World):(Op.equal 36 (dC x) (dC y)).run prog W=.ok (fv x.1 x.2 y.1 y.2) W:=by unfold dC;show(Op.equalIn (9998+1+1) 36 _ _).run prog W=_;go_simp;unfold fv;by_cases a:x.1=y.1<;>by_cases b:x.2=y.2<;>simp[a,b]
theorem agD(b:Bool)(x:PId)(W:World):(Instr.checkKey b 10000 36 (dC x)).run prog W=.ok () W:=by
 unfold dC;have c:∀(n:Nat) (a:Int),(Instr.checkKey b (n+1) 3 (A a)).run prog W=.ok () W:=λn a=>by rw[Instr.checkKey];go_simp
 rw[Instr.checkKey];go_simp
def lR {κ ν:Type} [DecidableEq κ] (x:κ):List (κ×ν)->Nat->Option (Nat×ν)
 |[],_=>none
 |p::m,i=>if x=p.1 then some (i,p.2) else lR x m (i+1)
def bV {κ ν:Type} [DecidableEq κ] (x:κ) (m:List (κ×ν)):Option ν:=(m.find? λp=>decide (x=p.1)).map (·.2)
theorem agE {κ ν:Type} [DecidableEq κ] (x:κ) (m:List (κ×ν)):∀i,(lR x m i).map (·.2)=bV x m:=by
 induction m with
 |nil=>intro i;rfl
 |cons p m ih=>
  intro i;unfold lR bV;by_cases h:x=p.1
  .simp[h]
  rw[a7 h,ih];simp[bV,Ix,h]
def mQ {κ ν:Type} (a:κ->Value) (b:ν->Value) (c:List MapEntry) (m:List (κ×ν)):Prop:=c.map (λe=>(e.key,e.val))=m.map λp=>(a p.1,b p.2)
theorem Ti(x y:PId):fv x.1 x.2 y.1 y.2=decide (x=y):=by obtain⟨a,b⟩:=x;obtain⟨c,d⟩:=y;simp[fv]
theorem Zv {ν:Type} (b:ν->Value) (x:PId) (W:World):∀(a:List MapEntry) (m:List (PId×ν)) (i:Nat),mQ dC b a m->
  (Instr.findAsking 36 (dC x) a i).run prog W=.ok ((lR x m i).map λr=>(r.1,b r.2)) W
 |[],[],i,_=>rfl
 |[],p::m,i,h=>by simp[mQ]at h
 |e::a,[],i,h=>by simp[mQ]at h
 |e::a,p::m,i,h=>by
  unfold mQ at h;simp only[ip,SC,OC]at h;obtain⟨⟨d,f⟩,g⟩:=h;rw[Instr.findAsking,d];have :=agC x p.1 W;simp only[mL,this,oK,Ti];unfold lR;by_cases c:x=p.1
  .simp[c,f]
  simp only[c,YG,fM,r8];exact Zv b x W a m (i+1) g
theorem agF {ν:Type} (b:ν->Value) (x:PId) (W:World) (a:List MapEntry) (m:List (PId×ν)) (h:mQ dC b a m):
  (Instr.findKey 36 (dC x) a).run prog W=.ok ((lR x m 0).map λr=>(r.1,b r.2)) W:=by
 unfold Instr.findKey;rw[mL,xM underlying36,oK];cases a with
 |nil=>
  have :m=[]:=by unfold mQ at h;simp_all
  subst this;rfl
 |cons e a=>have c:Instr.findNow (TypeDesc.struct #[{name:= "Counter",type:=3,offset:=0,embedded:=false,tag:= "",pkgPath:= "",byteOffset:=0},{name:= "Copy",type:=3,offset:=1,embedded:=false,tag:= "",pkgPath:= "",byteOffset:=8}]) (dC x) (e::a) 0=none:=rfl;rw[c];exact Zv b x W _ m 0 h
structure isMap {κ ν:Type} (gN:κ->Value) (eu:ν->Value) (w:World) (b:Nat) (m:List (κ×ν)) (es:Array MapEntry) (aX:Nat):Prop where
 bb:w.heap[b]?=some (.map es aX)
 nK:mQ gN eu es.toList m
 nodup:(es.toList.map (·.born)).Nodup
 old:∀e∈es.toList,e.born<aX
theorem isMap.len {κ ν:Type} {c:κ->Value} {e:ν->Value} {w:World} {m:List (κ×ν)} (h:isMap c e w a m b d):b.size=m.length:=by
 have :=kq List.length h.nK
 simp_all
structure AC (κ:Type) [DecidableEq κ] (uY:TypeId) (gN:κ->Value):Prop where
 check:∀(b:Bool) (x:κ) (W:World),(Instr.checkKey b 10000 uY (gN x)).run prog W=.ok () W
 find:∀{ν:Type} (eu:ν->Value) (x:κ) (W:World) (es:List MapEntry) (m:List (κ×ν)),mQ gN eu es m->(Instr.findKey uY (gN x) es).run prog W=.ok ((lR x m 0).map λr=>(r.1,eu r.2)) W
 bits:∀x:κ,Instr.sameBits 10000 (gN x) (gN x)=true
theorem OY{P:Program}(h:c.heap[a]?=some (.map b d)):(getObj a).run P c=.ok (.map b d) c:=by simp[getObj,Sem.run,h]
theorem Cj {κ ν:Type} [DecidableEq κ] {k:κ->Value} (g:AC κ e k) {j:ν->Value} {m:List (κ×ν)} (i:isMap k j c a m b d) (l:prog.underlying f=some (.map e h)) {z:Value} (n:(zeroValue h).run prog c=.ok z c) (x:κ) (ok:Bool):
  (Instr.lookup f (.map (some a)) (k x) ok).run prog c=.ok (if ok then .tuple #[((bV x m).map j).getD z,.bool (bV x m).isSome] else((bV x m).map j).getD z) c:=by
 unfold Instr.lookup;rw[mL,xM l,oK];simp only[mL,OY (P:=prog) i.bb,oK,xL,g.check b.isEmpty x c,g.find j x c b.toList m i.nK];rw[<-(agE x m 0)];cases lR x m 0 with
 |none=>cases ok<;>simp[n,mL]
 |some r=>cases ok<;>simp
def dj {κ ν:Type} [DecidableEq κ] (x:κ) (v:ν):List (κ×ν)->List (κ×ν)
 |[]=>[(x,v)]
 |p::m=>if x=p.1 then(x,v)::m else p::dj x v m
def sj {κ ν:Type} [DecidableEq κ] (x:κ):List (κ×ν)->List (κ×ν)
 |[]=>[]
 |p::m=>if x=p.1 then m else p::sj x m
theorem Zw {κ ν:Type} [DecidableEq κ] (x:κ) (m:List (κ×ν)):∀i j,lR x m (i+j)=(lR x m i).map λr=>(r.1+j,r.2):=by
 induction m with
 |nil=>intro i j;rfl
 |cons p m ih=>
  intro i j;unfold lR;by_cases h:x=p.1
  .simp[h]
  rw[a7 h,a7 h,show i+j+1=(i+1)+j by omega,ih]
theorem Zx {κ ν:Type} [DecidableEq κ] {x:κ} {m:List (κ×ν)} {i:Nat} {v:ν}:lR x m 0=some (i,v)->i<m.length/\m[i]?=some (x,v)/\(∀u,dj x u m=m.set i (x,u))/\sj x m=m.eraseIdx i:=by
 induction m generalizing i with
 |nil=>intro h;simp[lR]at h
 |cons p m ih=>
  intro h;unfold lR at h;by_cases a:x=p.1
  .rw[bn a]at h;injection h with h;injection h with b c;subst b;refine⟨by simp,?_,λu=> ?_,?_⟩
   .simp[a,<-c]
   .unfold dj;simp_all
   unfold sj;simp_all
  rw[a7 a]at h;have e:=Zw x m 0 1;rw[sY]at e;rw[e]at h;cases d:lR x m 0 with
  |none=>rw[d]at h;cases h
  |some r=>
   rw[d]at h;simp at h;obtain⟨b,c⟩:=h;subst b;obtain⟨k,f,g,j⟩:=ih (i:=r.1) (by rw[d,<-c]);refine⟨by simp;omega,by simpa using f,λu=> ?_,?_⟩
   .unfold dj;rw[a7 a,g];rfl
   unfold sj;rw[a7 a,j];rfl
theorem Tj {κ ν:Type} [DecidableEq κ] {x:κ} {m:List (κ×ν)}:lR x m 0=none->(∀u,dj x u m=m++[(x,u)])/\sj x m=m:=by
 induction m with
 |nil=>intro _;exact⟨λu=>rfl,rfl⟩
 |cons p m ih=>
  intro h;unfold lR at h;by_cases b:x=p.1
  .simp_all
  rw[a7 b]at h;have a:=Zw x m 0 1;rw[sY]at a;rw[a]at h;have c:lR x m 0=none:=by simp_all
  obtain⟨d,e⟩:=ih c;refine⟨λu=> ?_,?_⟩
  .unfold dj;simp_all
  unfold sj;simp_all
def putObj (w:World) (b:Nat) (o:Obj):World:={w with heap:=w.heap.setIfInBounds b o}
theorem OZ{o:Obj}(h:a<c.heap.size):(putObj c a o).heap[a]?=some o:=by simp[putObj,h]
theorem wy{o:Obj}(h:a≠d):(putObj c d o).heap[a]?=c.heap[a]?:=by simp[putObj,F5,eE h]
theorem O0{P:Program}(h:c.heap[a]?=some (.map b d))(o:Obj):(setObj a o).run P c=.ok () (putObj c a o):=by simp[setObj,Sem.run,putObj,h]
theorem Zy(x:PId):Instr.sameBits 10000 (dC x) (dC x)=true:=by simp[dC,Instr.sameBits]
theorem isMap.lt {κ ν:Type} {c:κ->Value} {d:ν->Value} {w:World} {b:Nat} {m:List (κ×ν)} {e:Array MapEntry} (h:isMap c d w b m e a):b<w.heap.size:=(e8.1 h.bb).1
theorem Zz {k v:Value}:(b.modify a λe=>{e with key:=k,val:=v}).toList.map (·.born)=b.toList.map (·.born):=by
 rw[atz];apply xN;intro j;rw[Av,Av,YH];by_cases e:a=j
 .subst e;cases b.toList[a]?<;>simp
 simp_all
theorem Tk(a:Array MapEntry)(i:Nat):(a.eraseIdxIfInBounds i).toList=a.toList.eraseIdx i:=by simp
theorem Tl {α β:Type} (f:α->β) (l:List α):∀i,(l.eraseIdx i).map f=(l.map f).eraseIdx i:=by
 induction l with
 |nil=>intro i;rfl
 |cons a l ih=>
  intro i;cases i with
  |zero=>rfl
  |succ i=>simp[ih]
theorem AD {κ ν:Type} [DecidableEq κ] {p:κ->Value} (k:AC κ e p) {q:ν->Value} {m:List (κ×ν)} (h:isMap p q c a m b d) {g:TypeId} (I:prog.underlying f=some (.map e g)) (x:κ) (v:ν):
  ∃t w,(Instr.mapUpdate f (.map (some a)) (p x) (q v)).run prog c=.ok () (putObj c a (.map t w))/\isMap p q (putObj c a (.map t w)) a (dj x v m) t w:=by
 unfold Instr.mapUpdate;rw[mL,xM I,oK];simp only[mL,OY (P:=prog) h.bb,oK,xL,k.check false x c,k.find q x c b.toList m h.nK];cases B:lR x m 0 with
 |none=>
  obtain⟨y,_⟩:=Tj B;refine⟨b.push {key:=p x,val:=q v,born:=d},d+1,O0 h.bb _,OZ h.lt,?_,?_,?_⟩
  .rw[y v];unfold mQ;rw[afO,ga,ga];have :=h.nK;unfold mQ at this
   simp_all
  .rw[afO,ga];refine nI.2 ⟨h.nodup,by simp,λl L n C=> ?_⟩;simp at C;subst C;obtain⟨s,o,rfl⟩:=dF.1 L;exact Nat.ne_of_lt (h.old s o)
  intro s o;rw[afO]at o;rcases dZ.1 o with o|o
  .have :=h.old s o;omega
  simp_all
 |some r=>
  obtain⟨i,u⟩:=r;obtain⟨D,M,y,_⟩:=Zx B;have z:i<b.size:=by rw[h.len];exact D
  have N:b[i].key=p x:=by have :=kq (·[i]?) h.nK;simp[M,z]at this;exact this.1
  refine⟨b.modify i λg=>{g with key:=p x,val:=q v},d,?_,OZ h.lt,?_,?_,?_⟩
  .simp only[qI,z,afP,nb,N];unfold Instr.keyThatStays;simp only[k.bits,hQ,mL,xL,oK];exact O0 h.bb _
  .rw[y v];have :=h.nK;rw[atz];apply xN;intro j;have E:=kq (·[j]?) this;simp only[Av]at E;rw[Av,Av,YH,YI];by_cases g:i=j
   .subst g;simp[z,D]
   rw[a7 g,<-E];cases b.toList[j]?<;>simp[g]
  .rw[Zz];exact h.nodup
  intro s o;have F:s.born∈(b.modify i λg=>{g with key:=p x,val:=q v}).toList.map (·.born):=dF.2 ⟨s,o,rfl⟩;rw[Zz]at F;obtain⟨Q,R,S⟩:=dF.1 F;rw[<-S];exact h.old Q R
theorem ZA {κ ν:Type} [DecidableEq κ] {k:κ->Value} (j:AC κ e k) {l:ν->Value} {m:List (κ×ν)} (g:isMap k l c a m b d) {ty:TypeId} {t2:TypeId} (s:prog.underlying f=some (.map e h)) (x:κ):
  ∃n,(Builtin.delete_ #[f,t2] ty #[.map (some a),k x]).run prog c=.ok (.tuple #[]) (putObj c a (.map n d))/\isMap k l (putObj c a (.map n d)) a (sj x m) n d:=by
 unfold Builtin.delete_;simp only[List.getElem?_toArray,Aw,YJ];simp only[mL,xM s,OY (P:=prog) g.bb,oK,xL,j.check b.isEmpty x c,j.find l x c b.toList m g.nK];cases p:lR x m 0 with
 |none=>obtain⟨_,o⟩:=Tj p;refine⟨b,?_,OZ g.lt,by rw[o];exact g.nK,g.nodup,g.old⟩;simp only[YK,mL,O0 g.bb,oK,xL]
 |some r=>
  obtain⟨i,u⟩:=r;obtain⟨t,w,_,o⟩:=Zx p;have y:i<b.size:=by rw[g.len];exact t
  refine⟨b.eraseIdxIfInBounds i,?_,OZ g.lt,?_,?_,?_⟩
  .simp only[qI,mL,O0 g.bb,oK,xL]
  .rw[o];have :=g.nK;unfold mQ at this⊢;rw[Tk,Tl,Tl,this]
  .rw[Tk,Tl];exact g.nodup.sublist (List.eraseIdx_sublist _ _)
  intro v q;rw[Tk]at q;exact g.old v (List.mem_of_mem_eraseIdx q)
theorem AE:AC PId 36 dC:=⟨agD,λa x W b m h=>agF a x W b m h,Zy⟩
def p7 (s:ByteArray):Value:=.string s
theorem agG(b:Bool)(x:ByteArray)(W:World):(Instr.checkKey b 10000 9 (p7 x)).run prog W=.ok () W:=by rw[Instr.checkKey];go_simp
theorem ZB(a b:ByteArray):(a==b)=decide (a=b):=by
 by_cases h:a=b
 .rw[(YL a b).2 h];simp[h]
 cases c:a==b
 .simp[h]
 exact absurd ((YL a b).1 c) h
theorem ZC {ν:Type} (b:ν->Value) (x:ByteArray):∀(a:List MapEntry) (m:List (ByteArray×ν)) (i:Nat),mQ p7 b a m->Instr.findNow .string (p7 x) a i=some ((lR x m i).map λr=>(r.1,b r.2))
 |[],[],i,_=>rfl
 |[],p::m,i,h=>by simp[mQ]at h
 |e::a,[],i,h=>by simp[mQ]at h
 |e::a,p::m,i,h=>by
  unfold mQ at h;simp only[ip,SC,OC]at h;obtain⟨⟨c,j⟩,d⟩:=h;unfold Instr.findNow;have f:Instr.sameNow .string (p7 x) e.key=some (decide (x=p.1)):=by rw[c];show some (x==p.1)=_;rw[ZB]
  rw[f];unfold lR;by_cases g:x=p.1
  .simp_all
  simp only[g,YG,fM];exact ZC b x a m (i+1) d
theorem Lg:AC ByteArray 9 p7:=⟨agG,λa x W b m h=>by unfold Instr.findKey;rw[mL,xM underlying9,oK,ZC a x b m 0 h];rfl,λx=>by simp[p7,Instr.sameBits,ZB]⟩
