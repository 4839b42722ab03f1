/- Our own text. -/
import Derived.MapKept
import Derived.Test.YtnkpogjiiohapaaGreatDoorA01
set_option linter.unusedSimpArgs false
set_option linter.unusedVariables false
namespace Go.Proofs.YtnkpogjiiohapaaGreatDoor
open Go.RowKit Tryz
variable {a d:Nat}{b:Array MapEntry}{c:World}{e f h:TypeId}
def c0 (x:PId):Value:=.agg #[A x.1,A x.2]
theorem abL(x y:PId)(W:World):(Op.equal 36 (c0 x) (c0 y)).run prog W=.ok (eF x.1 x.2 y.1 y.2) W:=by
 unfold c0;show(Op.equalIn (9998+1+1) 36 _ _).run prog W=_;go_simp;unfold eF;by_cases a:x.1=y.1<;>by_cases b:x.2=y.2<;>simp[a,b]
theorem abM(b:Bool)(x:PId)(W:World):(Instr.checkKey b 10000 36 (c0 x)).run prog W=.ok () W:=by
 unfold c0;have c:∀(n:Nat) (a:Int),(Instr.checkKey b (n+1) 3 (A a)).run prog W=.ok () W:=fun n a=>by
  rw[Instr.checkKey];go_simp
 show(Instr.checkKey b (9998+1+1) 36 _).run prog W=_;rw[Instr.checkKey];go_simp
def kt {κ ν:Type} [DecidableEq κ] (x:κ):List (κ×ν)->Nat->Option (Nat×ν)
 |[],_=>none
 |p::m,i=>if x=p.1 then some (i,p.2) else kt x m (i+1)
def bC {κ ν:Type} [DecidableEq κ] (x:κ) (m:List (κ×ν)):Option ν:=(m.find? fun p=>decide (x=p.1)).map (·.2)
theorem abN {κ ν:Type} [DecidableEq κ] (x:κ) (m:List (κ×ν)):∀i,(kt x m i).map (·.2)=bC x m:=by
 induction m with
 |nil=>intro i;rfl
 |cons p m ih=>
  intro i;unfold kt bC;by_cases h:x=p.1
  ·simp[h]
  rw[if_neg h,ih];simp[bC,arK,h]
def kL {κ ν:Type} (a:κ->Value) (b:ν->Value) (c:List MapEntry) (m:List (κ×ν)):Prop:=c.map (fun e=>(e.key,e.val))=m.map fun p=>(a p.1,b p.2)
theorem Og(x y:PId):eF x.1 x.2 y.1 y.2=decide (x=y):=by
 obtain⟨a,b⟩:=x;obtain⟨c,d⟩:=y;simp[eF]
theorem TS {ν:Type} (b:ν->Value) (x:PId) (W:World):∀(a:List MapEntry) (m:List (PId×ν)) (i:Nat),kL c0 b a m->
  (Instr.findAsking 36 (c0 x) a i).run prog W=.ok ((kt x m i).map fun r=>(r.1,b r.2)) W
 |[],[],i,_=>rfl
 |[],p::m,i,h=>by simp[kL]at h
 |e::a,[],i,h=>by simp[kL]at h
 |e::a,p::m,i,h=>by
  unfold kL at h;simp only[aqj,asd,arL]at h;obtain⟨⟨d,f⟩,g⟩:=h;rw[Instr.findAsking,d];have :=abL x p.1 W;simp only[aqt,this,aqz,Og];unfold kt;by_cases c:x=p.1
  ·simp[c,f]
  simp only[c,decide_false,if_false,aqM];exact TS b x W a m (i+1) g
theorem abO {ν:Type} (b:ν->Value) (x:PId) (W:World) (a:List MapEntry) (m:List (PId×ν)) (h:kL c0 b a m):
  (Instr.findKey 36 (c0 x) a).run prog W=.ok ((kt x m 0).map fun r=>(r.1,b r.2)) W:=by
 have c:=underlying36;unfold Instr.findKey;rw[aqt,run_underlying c,aqz];cases a with
 |nil=>
  have :m=[]:=by unfold kL at h;simpa using h.symm
  subst this;rfl
 |cons e a=>
  have d:Instr.findNow (TypeDesc.struct #[{name:= "Counter",type:=3,offset:=0,embedded:=false,tag:= "",pkgPath:= "",byteOffset:=0},{name:= "Copy",type:=3,offset:=1,embedded:=false,tag:= "",pkgPath:= "",byteOffset:=8}]) (c0 x) (e::a) 0=none:=rfl;rw[d];exact TS b x W _ m 0 h
structure isMap {κ ν:Type} (fw:κ->Value) (dI:ν->Value) (w:World) (b:Nat) (m:List (κ×ν)) (es:Array MapEntry) (aT:Nat):Prop where
 blk:w.heap[b]?=some (.map es aT)
 mG:kL fw dI es.toList m
 nodup:(es.toList.map (·.born)).Nodup
 old:∀e∈es.toList,e.born<aT
theorem isMap.len {κ ν:Type} {e:κ->Value} {f:ν->Value} {m:List (κ×ν)} (h:isMap e f c a m b d):b.size=m.length:=by
 have :=congrArg List.length h.mG;simpa using this
structure xI (κ:Type) [DecidableEq κ] (sD:TypeId) (fw:κ->Value):Prop where
 check:∀(b:Bool) (x:κ) (W:World),(Instr.checkKey b 10000 sD (fw x)).run prog W=.ok () W
 find:∀{ν:Type} (dI:ν->Value) (x:κ) (W:World) (es:List MapEntry) (m:List (κ×ν)),kL fw dI es m->(Instr.findKey sD (fw x) es).run prog W=.ok ((kt x m 0).map fun r=>(r.1,dI r.2)) W
 bits:∀x:κ,Instr.sameBits 10000 (fw x) (fw x)=true
theorem KG{P:Program}(h:c.heap[a]?=some (.map b d)):(getObj a).run P c=.ok (.map b d) c:=by
 simp[getObj,Sem.run,h]
theorem yZ {κ ν:Type} [DecidableEq κ] {k:κ->Value} (g:xI κ e k) {j:ν->Value} {m:List (κ×ν)} (i:isMap k j c a m b d) (l:prog.underlying f=some (.map e h)) {z:Value} (n:(zeroValue h).run prog c=.ok z c) (x:κ) (ok:Bool):
  (Instr.lookup f (.map (some a)) (k x) ok).run prog c=.ok (if ok then .tuple #[((bC x m).map j).getD z,.bool (bC x m).isSome] else((bC x m).map j).getD z) c:=by
 unfold Instr.lookup;rw[aqt,run_underlying l,aqz];have o:=KG (P:=prog) i.blk;have p:=g.check b.isEmpty x c;have q:=g.find j x c b.toList m i.mG;have s:=abN x m 0;simp only[aqt,o,aqz,aq4,p,q];rw[<-s];cases kt x m 0 with
 |none=>cases ok<;>simp[n,aqt]
 |some r=>cases ok<;>simp
def cE {κ ν:Type} [DecidableEq κ] (x:κ) (v:ν):List (κ×ν)->List (κ×ν)
 |[]=>[(x,v)]
 |p::m=>if x=p.1 then(x,v)::m else p::cE x v m
def pG {κ ν:Type} [DecidableEq κ] (x:κ):List (κ×ν)->List (κ×ν)
 |[]=>[]
 |p::m=>if x=p.1 then m else p::pG x m
theorem TT {κ ν:Type} [DecidableEq κ] (x:κ) (m:List (κ×ν)):∀i j,kt x m (i+j)=(kt x m i).map fun r=>(r.1+j,r.2):=by
 induction m with
 |nil=>intro i j;rfl
 |cons p m ih=>
  intro i j;unfold kt;by_cases h:x=p.1
  ·simp[h]
  rw[if_neg h,if_neg h,show i+j+1=(i+1)+j by omega,ih]
theorem TU {κ ν:Type} [DecidableEq κ] {x:κ} {m:List (κ×ν)} {i:Nat} {v:ν}:kt x m 0=some (i,v)->i<m.length/\m[i]?=some (x,v)/\(∀u,cE x u m=m.set i (x,u))/\pG x m=m.eraseIdx i:=by
 induction m generalizing i with
 |nil=>intro h;simp[kt]at h
 |cons p m ih=>
  intro h;unfold kt at h;by_cases a:x=p.1
  ·rw[if_pos a]at h;injection h with h;injection h with b c;subst b;refine⟨by simp,?_,fun u=> ?_,?_⟩
   ·simp[a,<-c]
   ·unfold cE;rw[if_pos a];rfl
   unfold pG;rw[if_pos a];rfl
  rw[if_neg a]at h;have e:=TT x m 0 1;rw[aqQ]at e;rw[e]at h;cases d:kt x m 0 with
  |none=>rw[d]at h;cases h
  |some r=>
   rw[d]at h;simp at h;obtain⟨b,c⟩:=h;subst b;obtain⟨k,f,g,j⟩:=ih (i:=r.1) (by rw[d,<-c]);refine⟨by simp;omega,by simpa using f,fun u=> ?_,?_⟩
   ·unfold cE;rw[if_neg a,g];rfl
   unfold pG;rw[if_neg a,j];rfl
theorem Oh {κ ν:Type} [DecidableEq κ] {x:κ} {m:List (κ×ν)}:kt x m 0=none->(∀u,cE x u m=m++[(x,u)])/\pG x m=m:=by
 induction m with
 |nil=>intro _;exact⟨fun u=>rfl,rfl⟩
 |cons p m ih=>
  intro h;unfold kt at h;by_cases a:x=p.1
  ·rw[if_pos a]at h;cases h
  rw[if_neg a]at h;have b:=TT x m 0 1;rw[aqQ]at b;rw[b]at h;have c:kt x m 0=none:=by simpa using h
  obtain⟨d,e⟩:=ih c;refine⟨fun u=> ?_,?_⟩
  ·unfold cE;rw[if_neg a,d];rfl
  unfold pG;rw[if_neg a,e]
def putObj (w:World) (b:Nat) (o:Obj):World:={w with heap:=w.heap.setIfInBounds b o}
theorem KH{o:Obj}(h:a<c.heap.size):(putObj c a o).heap[a]?=some o:=by simp[putObj,h]
theorem tN{o:Obj}(h:a≠d):(putObj c d o).heap[a]?=c.heap[a]?:=by simp[putObj,arJ,aqa h]
theorem KI{P:Program}(h:c.heap[a]?=some (.map b d))(o:Obj):(setObj a o).run P c=.ok () (putObj c a o):=by
 simp[setObj,Sem.run,putObj,h]
theorem TV(x:PId):Instr.sameBits 10000 (c0 x) (c0 x)=true:=by
 simp[c0,Instr.sameBits]
theorem isMap.lt {κ ν:Type} {c:κ->Value} {d:ν->Value} {w:World} {b:Nat} {m:List (κ×ν)} {e:Array MapEntry} (h:isMap c d w b m e a):b<w.heap.size:=(ap8.1 h.blk).1
theorem TW{k v:Value}:(b.modify a fun e=>{e with key:=k,val:=v}).toList.map (·.born)=b.toList.map (·.born):=by
 rw[Array.toList_modify];apply aq9;intro j;rw[ark,ark,asn];by_cases e:a=j
 ·subst e;cases b.toList[a]?<;>simp
 cases b.toList[j]?<;>simp[e]
theorem Oi(a:Array MapEntry)(i:Nat):(a.eraseIdxIfInBounds i).toList=a.toList.eraseIdx i:=by
 unfold Array.eraseIdxIfInBounds;split
 ·simp
 rename_i h
 rw[List.eraseIdx_of_length_le (by simpa using h)]
theorem Oj {α β:Type} (f:α->β) (l:List α):∀i,(l.eraseIdx i).map f=(l.map f).eraseIdx i:=by
 induction l with
 |nil=>intro i;rfl
 |cons a l ih=>
  intro i;cases i with
  |zero=>rfl
  |succ i=>simp[ih]
theorem xJ {κ ν:Type} [DecidableEq κ] {p:κ->Value} (k:xI κ e p) {q:ν->Value} {m:List (κ×ν)} (h:isMap p q c d m b a) {g:TypeId} (L:prog.underlying f=some (.map e g)) (x:κ) (v:ν):
  ∃t w,(Instr.mapUpdate f (.map (some d)) (p x) (q v)).run prog c=.ok () (putObj c d (.map t w))/\isMap p q (putObj c d (.map t w)) d (cE x v m) t w:=by
 have M:=KG (P:=prog) h.blk;have N:=k.check false x c;have Q:=k.find q x c b.toList m h.mG;have B:=h.lt;unfold Instr.mapUpdate;rw[aqt,run_underlying L,aqz];simp only[aqt,M,aqz,aq4,N,Q];cases C:kt x m 0 with
 |none=>
  obtain⟨y,_⟩:=Oh C;refine⟨b.push {key:=p x,val:=q v,born:=a},a+1,?_,KH B,?_,?_,?_⟩
  ·simp only[arC];exact KI h.blk _
  ·rw[y v];unfold kL;rw[Array.toList_push,aqi,aqi];have :=h.mG;unfold kL at this;rw[this];rfl
  ·rw[Array.toList_push,aqi];refine aqF.2 ⟨h.nodup,by simp,fun l R n D=> ?_⟩;simp at D;subst D;obtain⟨s,o,rfl⟩:=ap5.1 R;exact Nat.ne_of_lt (h.old s o)
  intro s o;rw[Array.toList_push]at o;rcases ap7.1 o with o|o
  ·have :=h.old s o;omega
  simp at o;subst o;show a<a+1;omega
 |some r=>
  obtain⟨i,u⟩:=r;obtain⟨E,S,y,_⟩:=TU C;have z:i<b.size:=by rw[h.len];exact E
  have U:b[i].key=p x:=by
   have :=congrArg (·[i]?) h.mG;simp[S,z]at this;exact this.1
  refine⟨b.modify i fun g=>{g with key:=p x,val:=q v},a,?_,KH B,?_,?_,?_⟩
  ·simp only[aqJ,z,asK,aqu,U];unfold Instr.keyThatStays;simp only[k.bits,if_true,aqt,aq4,aqz];exact KI h.blk _
  ·rw[y v];unfold kL;have :=h.mG;unfold kL at this;rw[Array.toList_modify];apply aq9;intro j;have F:=congrArg (·[j]?) this;simp only[ark]at F;rw[ark,ark,asn,aso];by_cases g:i=j
   ·subst g;simp[z,E]
   rw[if_neg g,<-F];cases b.toList[j]?<;>simp[g]
  ·rw[TW];exact h.nodup
  intro s o;have I:s.born∈(b.modify i fun g=>{g with key:=p x,val:=q v}).toList.map (·.born):=ap5.2 ⟨s,o,rfl⟩;rw[TW]at I;obtain⟨W,X,Y⟩:=ap5.1 I;rw[<-Y];exact h.old W X
theorem TX {κ ν:Type} [DecidableEq κ] {k:κ->Value} (j:xI κ e k) {l:ν->Value} {m:List (κ×ν)} (g:isMap k l c a m b d) {ty:TypeId} {t2:TypeId} (t:prog.underlying f=some (.map e h)) (x:κ):
  ∃n,(Builtin.delete_ #[f,t2] ty #[.map (some a),k x]).run prog c=.ok (.tuple #[]) (putObj c a (.map n d))/\isMap k l (putObj c a (.map n d)) a (pG x m) n d:=by
 have v:=KG (P:=prog) g.blk;have w:=j.check b.isEmpty x c;have y:=j.find l x c b.toList m g.mG;have p:=g.lt;unfold Builtin.delete_;simp only[List.getElem?_toArray,ard,ar2];simp only[aqt,run_underlying t,v,aqz,aq4,w,y];cases q:kt x m 0 with
 |none=>
  obtain⟨_,o⟩:=Oh q;refine⟨b,?_,KH p,by rw[o];exact g.mG,g.nodup,g.old⟩;simp only[arC,aqt,KI g.blk,aqz,aq4]
 |some r=>
  obtain⟨i,u⟩:=r;obtain⟨z,C,_,o⟩:=TU q;have D:i<b.size:=by rw[g.len];exact z
  refine⟨b.eraseIdxIfInBounds i,?_,KH p,?_,?_,?_⟩
  ·simp only[aqJ,aqt,KI g.blk,aqz,aq4]
  ·rw[o];have :=g.mG;unfold kL at this⊢;rw[Oi,Oj,Oj,this]
  ·rw[Oi,Oj];exact g.nodup.sublist (List.eraseIdx_sublist _ _)
  intro B s;rw[Oi]at s;exact g.old B (List.mem_of_mem_eraseIdx s)
theorem xK:xI PId 36 c0:=⟨abM,fun a x W b m h=>abO a x W b m h,TV⟩
def nL (s:ByteArray):Value:=.string s
theorem abP(b:Bool)(x:ByteArray)(W:World):(Instr.checkKey b 10000 9 (nL x)).run prog W=.ok () W:=by
 unfold nL;show(Instr.checkKey b (9999+1) 9 _).run prog W=_;rw[Instr.checkKey];go_simp
theorem TY(a b:ByteArray):(a==b)=decide (a=b):=by
 by_cases h:a=b
 ·rw[(asp a b).2 h];simp[h]
 cases c:a==b
 ·simp[h]
 exact absurd ((asp a b).1 c) h
theorem TZ {ν:Type} (b:ν->Value) (x:ByteArray):∀(a:List MapEntry) (m:List (ByteArray×ν)) (i:Nat),kL nL b a m->Instr.findNow .string (nL x) a i=some ((kt x m i).map fun r=>(r.1,b r.2))
 |[],[],i,_=>rfl
 |[],p::m,i,h=>by simp[kL]at h
 |e::a,[],i,h=>by simp[kL]at h
 |e::a,p::m,i,h=>by
  unfold kL at h;simp only[aqj,asd,arL]at h;obtain⟨⟨d,f⟩,g⟩:=h;unfold Instr.findNow;have j:Instr.sameNow .string (nL x) e.key=some (decide (x=p.1)):=by
   rw[d];show some (x==p.1)=_;rw[TY]
  rw[j];unfold kt;by_cases c:x=p.1
  ·simp[c,f]
  simp only[c,decide_false,if_false];exact TZ b x a m (i+1) g
theorem Hf:xI ByteArray 9 nL:=⟨abP,fun a x W b m h=>by
 unfold Instr.findKey;rw[aqt,run_underlying underlying9,aqz,TZ a x b m 0 h];rfl,fun x=>by simp[nL,Instr.sameBits,TY]⟩
end Go.Proofs.YtnkpogjiiohapaaGreatDoor
