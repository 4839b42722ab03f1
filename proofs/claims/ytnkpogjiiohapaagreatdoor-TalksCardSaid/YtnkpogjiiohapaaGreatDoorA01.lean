/- Our own text. -/
import Derived.Test.YtnkpogjiiohapaaGreatDoorProg
import Derived.WalkKit
import Derived.WalkSpells
import Derived.WalkLawsBesides
import Derived.Deep.QuietTactic
import Derived.BigQuiet
import Derived.Handy
import Derived.MapKept
set_option linter.unusedSimpArgs false
set_option linter.unusedVariables false
set_option linter.defProp false
set_option maxRecDepth 1000000
set_option maxHeartbeats 400000
namespace Go.Proofs.YtnkpogjiiohapaaGreatDoor
open Go.RowKit Tryz
def aoP:=@Nat.le_refl
def aoQ:=@Below.refl
def aoR:=@Nat.zero_le
def aoS:=@Nat.le_trans
def aoT:=@World.ownsRow.lt
def aoU:=@List.length_map
def aoV:=@Nat.lt_of_lt_of_le
def aoW:=@List.length_append
def aoX:=@List.mem_map
def aoY:=@List.getElem_mem
def aoZ:=@List.mem_append
def ao0:=@Int.natCast_nonneg
def ao1:=@Array.getElem?_eq_some_iff
def ao2:=@List.mem_singleton
def ao3:=@List.mem_cons
def ao4:=@World.block_lt_of_cell?
def ao5:=@Ne.symm
def ao6:=@List.mem_cons_self
def ao7:=@List.length_take
def ao8:=@List.map_append
def ao9:=@World.ownsRow_nil
def apa:=@List.mem_cons_of_mem
def apb:=@List.map_cons
def apc:=@List.take_of_length_le
def apd:=@List.length_cons
def ape:=@List.flatMap_cons
def apf:=@List.append_assoc
def apg:=@List.nodup_cons
def aph:=@List.take_succ_eq_append_getElem
def api:=@List.mem_flatMap
def apj:=@Below.heap_setCell
def apk:=@Sem.run_bind
def apl:=@List.mem_iff_getElem
def apm:=@List.length_drop
def apn:=@Nat.le_succ
def apo:=@Value.slice.injEq
def apq:=@Result.andThen_ok
def apr:=@Option.getD_some
def aps:=@List.nodup_append
def apt:=@List.flatMap_append
def apu:=@List.append_nil
def apv:=@List.length_nil
def apw:=@Option.map_some
def apx:=@List.mem_of_mem_take
def apy:=@List.getElem_map
def apz:=@List.range_succ
def apA:=@List.mem_filter
def apB:=@List.pairwise_map
def apC:=@List.cons_append
def apD:=@Option.some.injEq
def apE:=@Option.some.inj
def apF:=@Nat.zero_add
def apG:=@Bool.false_eq_true
def apH:=@List.getElem?_eq_getElem
def apI:=@List.map_map
def apJ:=@Nat.mul_le_mul_right
def apK:=@List.length_filter_le
def apL:=@Nat.add_zero
def apM:=@List.pairwise_iff_getElem
def apN:=@List.nil_append
def apO:=@Go.IntWalk.i64_in
def apP:=@List.pairwise_cons
def apQ:=@List.mem_range
def apR:=@List.mem_append_left
def apS:=@Addr.mk.injEq
def apT:=@List.nodup_nil
def apU:=@List.map_nil
def apV:=@Nat.add_mul
def apW:=@World.cell?_of_block
def apX:=@List.foldl_append
def apY:=@Int.le_refl
def apZ:=@Sem.run_pure
def ap0:=@List.mem_of_mem_drop
def ap1:=@List.length_singleton
def ap2:=@Array.getElem_modify_self
def ap3:=@List.take_append_of_le_length
def ap4:=@List.length_range
def ap5:=@Nat.not_lt_zero
def ap6:=@List.ext_getElem?
def ap7:=@List.getElem?_map
def ap8:=@List.size_toArray
def ap9:=@List.pairwise_append
def aqa:=@List.take_length
def aqb:=@List.getElem?_cons_zero
def aqc:=@List.findIdx?_eq_some_iff_getElem
def aqd:=@World.ownsRow.alloc
def aqe:=@Int.eq_ofNat_of_zero_le
def aqf:=@Nat.mul_one
def aqg:=@List.eq_nil_of_length_eq_zero
def aqh:=@Int.le_trans
def aqi:=@List.mem_of_find?_eq_some
def aqj:=@Array.getElem?_setIfInBounds
def aqk:=@List.take_append_drop
def aql:=@List.getElem?_take
def aqm:=@List.map_take
def aqn:=@List.getElem_append_left
def aqo:=@List.getElem_take
def aqp:=@List.find?_eq_none
def aqq:=@List.map_congr_left
def aqr:=@List.foldl_cons
def aqs:=@List.take_take
def aqt:=@Option.map_none
def aqu:=@List.filter_append
def aqv:=@List.getElem?_eq_some_iff
def aqw:=@Array.getElem?_modify
def aqx:=@List.length_set
def aqy:=@List.mergeSort_perm
def aqz:=@List.ext_getElem
def aqA:=@List.mem_append_right
def aqB:=@List.find?_cons
def aqC:=@Prod.mk.injEq
def aqD:=@Nat.min_eq_left
def aqE:=@World.ownsRow.cellAt
def aqF:=@List.find?_eq_some_iff_getElem
def aqG:=@ByteArray.ext
def aqH:=@List.find?_some
def aqI:=@List.getElem?_eq_none
def aqJ:=@Nat.succ_mul
def aqK:=@List.drop_eq_getElem_cons
def aqL:=@List.map_toArray
def aqM:=@List.set_cons_succ
def aqN:=@Int.toNat_natCast
def aqO:=@List.mem_map_of_mem
def aqP:=@Option.isSome_some
def aqQ:=@Array.replicate_succ
def aqR:=@Array.replicate_zero
def aqS:=@List.push_toArray
def aqT:=@List.append_toArray
def aqU:=@List.getElem?_append_left
def aqV:=@List.getElem?_append_right
def aqW:=@List.getElem?_cons_succ
def aqX:=@List.findIdx?_eq_none_iff
def aqY:=@Option.getD_none
def aqZ:=@List.pairwise_singleton
def aq0:=@List.mem_of_getElem?
def aq1:=@List.getD_eq_getElem?_getD
def aq2:=@List.cons.injEq
def aq3:=@List.filter_cons
def aq4:=@World.ownsRow.frozenAt
def aq5:=@List.getElem_set_ne
def aq6:=@List.perm_append_comm
def aq7:=@Addr.add_lit
def aq8:=@List.flatMap_nil
def aq9:=@List.not_mem_nil
def ara:=@Nat.mul_comm
def arb:=@List.getElem_cons_zero
def arc:=@List.getElem?_modify
def ard:=@Array.getElem?_eq_getElem
def arf:=@List.getElem?_set
def arh:=@Go.MapKept.bytes_beq
def ari:=@List.drop_eq_nil_of_le
def arj:=@World.cell?_alloc_at
def ark:=@List.getElem_cons_succ
def arl:=@World.ownsRow.stored
def arn:=@World.frozen?_of_block
def aro:=@Nat.lt_or_gt_of_ne
def arp:=@World.ownsRow.drew
def arq:=@Array.length_toList
def ars:=@List.pairwise_mergeSort
def art:=@Option.isSome_none
def aru:=@Function.comp_def
def arv:=@List.Perm.append_left
def arw:=@List.findIdx?_cons
def arx:=@List.modify_zero_cons
def ary:=@List.modify_succ_cons
def arz:=@List.getElem_drop
def arA:=@Nat.lt_of_le_of_lt
def arB:=@List.getElem?_range
def arC:=@Decidable.not_not
def arD:=@List.drop_append_of_le_length
abbrev A(n:Int):Value:=.int .i64 n
abbrev Z(n:Nat):Value:=.pointer (some ⟨n,0,none⟩)
abbrev H(n:Nat):Addr:=⟨n,0,none⟩
abbrev K(n k:Nat):Addr:=⟨n,k,none⟩
abbrev V(w:World)(k:Nat):Addr:=⟨w.heap.size,k,none⟩
abbrev J(w v:World):Prop:=Below w.heap.size w v
abbrev O:=Calls Tryz.prog
variable {a d:Nat}{b s:World}{e:Array MapEntry}{f r v:TypeId}{h q:ByteArray}{i:Value}{j m u:Int}{l:List Value}
abbrev PId:=Int×Int
variable {k:List PId}
def Hq (p:Prop):Prop:=p
theorem Hq.o{p:Prop}(h:Hq p):p:=h
theorem aa{p:Prop}(h:p):Hq p:=h
structure cE where
 cD:PId
 num:Int
 obj:PId
structure bD where
 key:ByteArray
 id:PId
 gr:Value
 ad:List cE
variable {n:List bD}
structure dA where
 id:PId
 list:Bool
 gY:Value
 ss:List bD
def lL (x:PId):List Value:=[A x.1,A x.2]
def pf (h:cE):List Value:=[A h.cD.1,A h.cD.2,A h.num,A h.obj.1,A h.obj.2]
def gZ (s:bD):List Value:=[.string s.key,A s.id.1,A s.id.2,s.gr]
def jG (o:dA):List Value:=[A o.id.1,A o.id.2,.bool o.list,o.gY]
theorem Nf {α:Type} (f:α->List Value) (k:Nat) (b:∀x,(f x).length=k):
  ∀(l:List α) (i j:Nat) (a:i<l.length),j<k->(l.flatMap f)[i*k+j]?=(f l[i])[j]?:=by
 intro l
 induction l with
 |nil=>intro i j a;simp at a
 |cons x l ih=>
  intro i j a c;rw[ape];cases i with
  |zero=>simp only[Nat.zero_mul,apF,arb];rw[aqU (by rw[b];exact c)]
  |succ i=>
   rw[aqV (by rw[b,aqJ];omega),b];have :(i+1)*k+j-k=i*k+j:=by rw[aqJ];omega
   rw[this,ih i j (by simpa using a) c];simp
theorem qF {α:Type} (f:α->List Value) (k:Nat) (a:∀x,(f x).length=k) (l:List α):(l.flatMap f).length=l.length*k:=by
 induction l with
 |nil=>simp
 |cons x l ih=>simp[ape,ih,a,aqJ];omega
theorem bp{w:World}{base:Nat}{e:TypeId}{size:Nat}{v:Value}{n:Nat}(h:w.ownsRow base e size v n l):
  ∃a b,v=.slice a n b/\n<=b/\b<=maxLen/\∀i,i<n->∃g,a=some (H g):=by
 rcases h.2 with⟨rfl,rfl⟩|⟨g,b,j,rfl,k,m,c,d,o⟩
 ·exact⟨none,0,rfl,aoP _,aoR _,fun i f=>absurd f (ap5 _)⟩
 ·exact⟨_,b,rfl,c,d,fun _ _=>⟨g,rfl⟩⟩
theorem iw {α:Type} {base:Nat} {k:Nat} {f:α->List Value} (e:∀x,(f x).length=k) {g:Nat} {l:List α}
  (h:b.ownsRow base r k (.slice (some (H g)) a d) a (l.flatMap f)) (m:a=l.length) (i:Nat) (c:i<l.length) (j:Nat) (n:j<k):
  b.cell? (K g (i*k+j))=(f l[i])[j]?:=by
 rw[<-Nf f k e l i j c n];exact h.cellAt (i*k+j) (by subst m;have :(i+1)*k<=l.length*k:=apJ _ c;rw[aqJ]at this;omega)
theorem af{w w':World}(h:J w w'){a:Addr}{v:Value}(b:w.cell? a=some v):w'.cell? a=some v:=by
 rw[h.cell (ao4 w a b)];exact b
theorem gC{base base':Nat}{size:Nat}(h:b.ownsRow base f size i a l)(c:base'<=base):b.ownsRow base' f size i a l:=
 ⟨h.1,h.2.imp id fun⟨g,d,e,j,k,m⟩=>⟨g,d,e,j,aoS c k,m⟩⟩
theorem aaZ{base:Nat}{size:Nat}(h:b.ownsRow base f size i d l)(c:Below a b s)(e:∀k,i.ownBlock=some k->k<a):s.ownsRow base f size i d l:=by
 refine⟨h.1,?_⟩;rcases h.2 with j|⟨g,m,n,rfl,o,p,rest⟩
 ·exact .inl j
 ·refine .inr ⟨g,m,n,rfl,o,?_,rest⟩
  rw[c.block g (e g rfl)];exact p
theorem c5{w:World}{base:Nat}{size:Nat}{v:Value}(h:w.ownsRow base f size v a l)(c:J w b):b.ownsRow base f size v a l:=aaZ h c fun k d=>(h.lt k d).2
theorem l9{a b:Bool}(h:a=b):Ending.returned (.bool a)=.returned (.bool b):=by rw[h]
theorem JI(h:j=m):Ending.returned (A j)=.returned (A m):=by rw[h]
def er (w:World) (v:Value) (l:List PId):Prop:=w.ownsRow 0 36 2 v l.length (l.flatMap lL)
def k1 (w:World) (v:Value) (l:List cE):Prop:=w.ownsRow 0 243 5 v l.length (l.flatMap pf)
def hy (B:Nat) (w:World) (v:Value) (l:List bD):Prop:=w.ownsRow B 269 4 v l.length (l.flatMap gZ)/\∀s∈l,k1 w s.gr s.ad
def xa (B:Nat) (w:World) (v:Value) (l:List dA):Prop:=
 w.ownsRow B 272 4 v l.length (l.flatMap jG)/\(∀o∈l,hy B w o.gY o.ss)/\
 ∀(i j:Nat) (a:i<l.length) (b:j<l.length),i≠j->l[i].gY.ownBlock=none\/l[i].gY.ownBlock≠l[j].gY.ownBlock
theorem er.af{w v l}{w':World}(h:er w v l)(a:J w w'):er w' v l:=c5 h a
theorem k1.af{w v l}{w':World}(h:k1 w v l)(a:J w w'):k1 w' v l:=c5 h a
theorem hy.af{B w v l}{w':World}(h:hy B w v l)(a:J w w'):hy B w' v l:=
 ⟨c5 h.1 a,fun s b=>(h.2 s b).af a⟩
theorem xa.af{B w v l}{w':World}(h:xa B w v l)(a:J w w'):xa B w' v l:=
 ⟨c5 h.1 a,fun s b=>(h.2.1 s b).af a,h.2.2⟩
theorem er.cells{w}{g n cap:Nat}(h:er w (.slice (some (H g)) n cap) k)(d:n=k.length)(i:Nat)(c:i<k.length):
  w.cell? (K g (i*2))=some (A k[i].1)/\w.cell? (K g (i*2+1))=some (A k[i].2):=by
 subst d;have a:=iw (f:=lL) (fun _=>rfl) h rfl i c 0 (by omega);have b:=iw (f:=lL) (fun _=>rfl) h rfl i c 1 (by omega);exact⟨a,b⟩
theorem k1.cells{w l}{g n cap:Nat}(h:k1 w (.slice (some (H g)) n cap) l)(b:n=l.length)(i:Nat)(a:i<l.length):
  w.cell? (K g (i*5))=some (A l[i].cD.1)/\w.cell? (K g (i*5+1))=some (A l[i].cD.2)/\w.cell? (K g (i*5+2))=some (A l[i].num)/\
   w.cell? (K g (i*5+3))=some (A l[i].obj.1)/\w.cell? (K g (i*5+4))=some (A l[i].obj.2):=by
 subst b;exact⟨iw (f:=pf) (fun _=>rfl) h rfl i a 0 (by omega),iw (f:=pf) (fun _=>rfl) h rfl i a 1 (by omega),iw (f:=pf) (fun _=>rfl) h rfl i a 2 (by omega),
  iw (f:=pf) (fun _=>rfl) h rfl i a 3 (by omega),iw (f:=pf) (fun _=>rfl) h rfl i a 4 (by omega)⟩
theorem hy.cells{w l}{g n cap:Nat}(h:hy a w (.slice (some (H g)) n cap) l)(c:n=l.length)(i:Nat)(b:i<l.length):
  w.cell? (K g (i*4))=some (.string l[i].key)/\w.cell? (K g (i*4+1))=some (A l[i].id.1)/\w.cell? (K g (i*4+2))=some (A l[i].id.2)/\
   w.cell? (K g (i*4+3))=some l[i].gr:=by
 subst c;exact⟨iw (f:=gZ) (fun _=>rfl) h.1 rfl i b 0 (by omega),iw (f:=gZ) (fun _=>rfl) h.1 rfl i b 1 (by omega),iw (f:=gZ) (fun _=>rfl) h.1 rfl i b 2 (by omega),
  iw (f:=gZ) (fun _=>rfl) h.1 rfl i b 3 (by omega)⟩
theorem xa.cells{w l}{g n cap:Nat}(h:xa a w (.slice (some (H g)) n cap) l)(c:n=l.length)(i:Nat)(b:i<l.length):
  w.cell? (K g (i*4))=some (A l[i].id.1)/\w.cell? (K g (i*4+1))=some (A l[i].id.2)/\w.cell? (K g (i*4+2))=some (.bool l[i].list)/\
   w.cell? (K g (i*4+3))=some l[i].gY:=by
 subst c;exact⟨iw (f:=jG) (fun _=>rfl) h.1 rfl i b 0 (by omega),iw (f:=jG) (fun _=>rfl) h.1 rfl i b 1 (by omega),iw (f:=jG) (fun _=>rfl) h.1 rfl i b 2 (by omega),
  iw (f:=jG) (fun _=>rfl) h.1 rfl i b 3 (by omega)⟩
def et (a b c d:Int):Bool:=decide (a=c/\b=d)
theorem B6{d:Int}:et j m u d=true↔(j,m)=(u,d):=by simp[et]
theorem yx{a:Int}:et a j m u=false↔(a,j)≠(m,u):=by simp[et]
theorem uv(a b c d:Int)(W:World):(binOp .eql 36 (.agg #[A a,A b]) (.agg #[A c,A d])).run prog W=.ok (.bool (et a b c d)) W:=by
 go_simp;unfold et;by_cases e:a=c<;>by_cases f:b=d<;>simp[e,f]
def cX (x:PId):Value:=.agg #[A x.1,A x.2]
theorem aa0(x y:PId)(W:World):(Op.equal 36 (cX x) (cX y)).run prog W=.ok (et x.1 x.2 y.1 y.2) W:=by
 unfold cX;show(Op.equalIn (9998+1+1) 36 _ _).run prog W=_;go_simp;unfold et;by_cases a:x.1=y.1<;>by_cases b:x.2=y.2<;>simp[a,b]
theorem aa1(b:Bool)(x:PId)(W:World):(Instr.checkKey b 10000 36 (cX x)).run prog W=.ok () W:=by
 unfold cX;have c:∀(n:Nat) (a:Int),(Instr.checkKey b (n+1) 3 (A a)).run prog W=.ok () W:=fun n a=>by
  rw[Instr.checkKey];go_simp
 show(Instr.checkKey b (9998+1+1) 36 _).run prog W=_;rw[Instr.checkKey];go_simp
def kk {κ ν:Type} [DecidableEq κ] (x:κ):List (κ×ν)->Nat->Option (Nat×ν)
 |[],_=>none
 |p::m,i=>if x=p.1 then some (i,p.2) else kk x m (i+1)
def bq {κ ν:Type} [DecidableEq κ] (x:κ) (m:List (κ×ν)):Option ν:=(m.find? fun p=>decide (x=p.1)).map (·.2)
theorem aa2 {κ ν:Type} [DecidableEq κ] (x:κ) (m:List (κ×ν)):∀i,(kk x m i).map (·.2)=bq x m:=by
 induction m with
 |nil=>intro i;rfl
 |cons p m ih=>
  intro i;unfold kk bq;by_cases h:x=p.1
  ·simp[h]
  ·rw[if_neg h,ih]
   simp[bq,aqB,h]
def kL {κ ν:Type} (a:κ->Value) (b:ν->Value) (c:List MapEntry) (m:List (κ×ν)):Prop:=c.map (fun e=>(e.key,e.val))=m.map fun p=>(a p.1,b p.2)
theorem Ng(x y:PId):et x.1 x.2 y.1 y.2=decide (x=y):=by
 obtain⟨a,b⟩:=x;obtain⟨c,d⟩:=y;simp[et]
theorem SS {ν:Type} (b:ν->Value) (x:PId) (W:World):∀(a:List MapEntry) (m:List (PId×ν)) (i:Nat),kL cX b a m->
  (Instr.findAsking 36 (cX x) a i).run prog W=.ok ((kk x m i).map fun r=>(r.1,b r.2)) W
 |[],[],i,_=>rfl
 |[],p::m,i,h=>by simp[kL]at h
 |e::a,[],i,h=>by simp[kL]at h
 |e::a,p::m,i,h=>by
  unfold kL at h;simp only[apb,aq2,aqC]at h;obtain⟨⟨d,f⟩,g⟩:=h;rw[Instr.findAsking,d];have :=aa0 x p.1 W;simp only[apk,this,apq,Ng];unfold kk;by_cases c:x=p.1
  ·simp[c,f]
  ·simp only[c,decide_false,if_false,apG]
   exact SS b x W a m (i+1) g
theorem aa3 {ν:Type} (b:ν->Value) (x:PId) (W:World) (a:List MapEntry) (m:List (PId×ν)) (h:kL cX b a m):
  (Instr.findKey 36 (cX x) a).run prog W=.ok ((kk x m 0).map fun r=>(r.1,b r.2)) W:=by
 have c:=underlying36;unfold Instr.findKey;rw[apk,run_underlying c,apq];cases a with
 |nil=>
  have :m=[]:=by unfold kL at h;simpa using h.symm
  subst this;rfl
 |cons e a=>
  have d:Instr.findNow (TypeDesc.struct #[{name:= "Counter",type:=3,offset:=0,embedded:=false,tag:= "",pkgPath:= "",byteOffset:=0},{name:= "Copy",type:=3,offset:=1,embedded:=false,tag:= "",pkgPath:= "",byteOffset:=8}]) (cX x) (e::a) 0=none:=rfl;rw[d];exact SS b x W _ m 0 h
structure isMap {κ ν:Type} (ft:κ->Value) (dF:ν->Value) (w:World) (b:Nat) (m:List (κ×ν)) (es:Array MapEntry) (aR:Nat):Prop where
 blk:w.heap[b]?=some (.map es aR)
 mD:kL ft dF es.toList m
 nodup:(es.toList.map (·.born)).Nodup
 old:∀e∈es.toList,e.born<aR
theorem isMap.len {κ ν:Type} {c:κ->Value} {f:ν->Value} {m:List (κ×ν)} (h:isMap c f b a m e d):e.size=m.length:=by
 have :=congrArg List.length h.mD;simpa using this
structure xb (κ:Type) [DecidableEq κ] (si:TypeId) (ft:κ->Value):Prop where
 check:∀(b:Bool) (x:κ) (W:World),(Instr.checkKey b 10000 si (ft x)).run prog W=.ok () W
 find:∀{ν:Type} (dF:ν->Value) (x:κ) (W:World) (es:List MapEntry) (m:List (κ×ν)),kL ft dF es m->(Instr.findKey si (ft x) es).run prog W=.ok ((kk x m 0).map fun r=>(r.1,dF r.2)) W
 bits:∀x:κ,Instr.sameBits 10000 (ft x) (ft x)=true
theorem JJ{P:Program}(h:b.heap[a]?=some (.map e d)):(getObj a).run P b=.ok (.map e d) b:=by
 simp[getObj,Sem.run,h]
theorem yy {κ ν:Type} [DecidableEq κ] {k:κ->Value} (c:xb κ f k) {j:ν->Value} {m:List (κ×ν)} (h:isMap k j b a m e d) (l:prog.underlying r=some (.map f v)) (n:(zeroValue v).run prog b=.ok i b) (x:κ) (ok:Bool):
  (Instr.lookup r (.map (some a)) (k x) ok).run prog b=.ok (if ok then .tuple #[((bq x m).map j).getD i,.bool (bq x m).isSome] else((bq x m).map j).getD i) b:=by
 unfold Instr.lookup;rw[apk,run_underlying l,apq];have o:=JJ (P:=prog) h.blk;have p:=c.check e.isEmpty x b;have q:=c.find j x b e.toList m h.mD;have s:=aa2 x m 0;simp only[apk,o,apq,apZ,p,q];rw[<-s];cases kk x m 0 with
 |none=>cases ok<;>simp[n,apk]
 |some g=>cases ok<;>simp
def cv {κ ν:Type} [DecidableEq κ] (x:κ) (v:ν):List (κ×ν)->List (κ×ν)
 |[]=>[(x,v)]
 |p::m=>if x=p.1 then(x,v)::m else p::cv x v m
def pg {κ ν:Type} [DecidableEq κ] (x:κ):List (κ×ν)->List (κ×ν)
 |[]=>[]
 |p::m=>if x=p.1 then m else p::pg x m
theorem SU {κ ν:Type} [DecidableEq κ] (x:κ) (m:List (κ×ν)):∀i j,kk x m (i+j)=(kk x m i).map fun r=>(r.1+j,r.2):=by
 induction m with
 |nil=>intro i j;rfl
 |cons p m ih=>
  intro i j;unfold kk;by_cases h:x=p.1
  ·simp[h]
  ·rw[if_neg h,if_neg h,show i+j+1=(i+1)+j by omega,ih]
theorem SV {κ ν:Type} [DecidableEq κ] {x:κ} {m:List (κ×ν)} {i:Nat} {v:ν}:kk x m 0=some (i,v)->i<m.length/\m[i]?=some (x,v)/\(∀u,cv x u m=m.set i (x,u))/\pg x m=m.eraseIdx i:=by
 induction m generalizing i with
 |nil=>intro h;simp[kk]at h
 |cons p m ih=>
  intro h;unfold kk at h;by_cases a:x=p.1
  ·rw[if_pos a]at h
   injection h with h;injection h with b c;subst b;refine⟨by simp,?_,fun u=> ?_,?_⟩
   ·simp[a,<-c]
   ·unfold cv;rw[if_pos a];rfl
   ·unfold pg;rw[if_pos a];rfl
  ·rw[if_neg a]at h
   have e:=SU x m 0 1;rw[apF]at e;rw[e]at h;cases d:kk x m 0 with
   |none=>rw[d]at h;cases h
   |some r=>
    rw[d]at h;simp at h;obtain⟨b,c⟩:=h;subst b;obtain⟨k,f,g,j⟩:=ih (i:=r.1) (by rw[d,<-c]);refine⟨by simp;omega,by simpa using f,fun u=> ?_,?_⟩
    ·unfold cv;rw[if_neg a,g];rfl
    ·unfold pg;rw[if_neg a,j];rfl
theorem Nh {κ ν:Type} [DecidableEq κ] {x:κ} {m:List (κ×ν)}:kk x m 0=none->(∀u,cv x u m=m++[(x,u)])/\pg x m=m:=by
 induction m with
 |nil=>intro _;exact⟨fun u=>rfl,rfl⟩
 |cons p m ih=>
  intro h;unfold kk at h;by_cases a:x=p.1
  ·rw[if_pos a]at h;cases h
  ·rw[if_neg a]at h
   have b:=SU x m 0 1;rw[apF]at b;rw[b]at h;have c:kk x m 0=none:=by simpa using h
   obtain⟨d,e⟩:=ih c;refine⟨fun u=> ?_,?_⟩
   ·unfold cv;rw[if_neg a,d];rfl
   ·unfold pg;rw[if_neg a,e]
def putObj (w:World) (b:Nat) (o:Obj):World:={w with heap:=w.heap.setIfInBounds b o}
theorem JK{o:Obj}(h:a<b.heap.size):(putObj b a o).heap[a]?=some o:=by simp[putObj,h]
theorem tA{o:Obj}(h:a≠d):(putObj b d o).heap[a]?=b.heap[a]?:=by simp[putObj,aqj,ao5 h]
theorem JL{P:Program}(h:b.heap[a]?=some (.map e d))(o:Obj):(setObj a o).run P b=.ok () (putObj b a o):=by
 simp[setObj,Sem.run,putObj,h]
theorem SX(x:PId):Instr.sameBits 10000 (cX x) (cX x)=true:=by
 simp[cX,Instr.sameBits]
theorem isMap.lt {κ ν:Type} {c:κ->Value} {d:ν->Value} {w:World} {b:Nat} {m:List (κ×ν)} (h:isMap c d w b m e a):b<w.heap.size:=(ao1.1 h.blk).1
theorem SY{v:Value}:(e.modify a fun b=>{b with key:=i,val:=v}).toList.map (·.born)=e.toList.map (·.born):=by
 rw[Array.toList_modify];apply ap6;intro j;rw[ap7,ap7,arc];by_cases b:a=j
 ·subst b;cases e.toList[a]?<;>simp
 ·cases e.toList[j]?<;>simp[b]
theorem Ni(a:Array MapEntry)(i:Nat):(a.eraseIdxIfInBounds i).toList=a.toList.eraseIdx i:=by
 unfold Array.eraseIdxIfInBounds;split
 ·simp
 ·rename_i h
  rw[List.eraseIdx_of_length_le (by simpa using h)]
theorem Nj {α β:Type} (f:α->β) (l:List α):∀i,(l.eraseIdx i).map f=(l.map f).eraseIdx i:=by
 induction l with
 |nil=>intro i;rfl
 |cons a l ih=>
  intro i;cases i with
  |zero=>rfl
  |succ i=>simp[ih]
theorem xc {κ ν:Type} [DecidableEq κ] {p:κ->Value} (k:xb κ f p) {q:ν->Value} {m:List (κ×ν)} (h:isMap p q b d m e a) {g:TypeId} (L:prog.underlying r=some (.map f g)) (x:κ) (v:ν):
  ∃t w,(Instr.mapUpdate r (.map (some d)) (p x) (q v)).run prog b=.ok () (putObj b d (.map t w))/\isMap p q (putObj b d (.map t w)) d (cv x v m) t w:=by
 have M:=JJ (P:=prog) h.blk;have N:=k.check false x b;have Q:=k.find q x b e.toList m h.mD;have B:=h.lt;unfold Instr.mapUpdate;rw[apk,run_underlying L,apq];simp only[apk,M,apq,apZ,N,Q];cases C:kk x m 0 with
 |none=>
  obtain⟨y,_⟩:=Nh C;refine⟨e.push {key:=p x,val:=q v,born:=a},a+1,?_,JK B,?_,?_,?_⟩
  ·simp only[aqt]
   exact JL h.blk _
  ·rw[y v]
   unfold kL;rw[Array.toList_push,ao8,ao8];have :=h.mD;unfold kL at this;rw[this];rfl
  ·rw[Array.toList_push,ao8]
   refine aps.2 ⟨h.nodup,by simp,fun n R c D=> ?_⟩;simp at D;subst D;obtain⟨s,o,rfl⟩:=aoX.1 R;exact Nat.ne_of_lt (h.old s o)
  ·intro s o
   rw[Array.toList_push]at o;rcases aoZ.1 o with o|o
   ·have :=h.old s o;omega
   ·simp at o;subst o;show a<a+1;omega
 |some l=>
  obtain⟨i,u⟩:=l;obtain⟨E,S,y,_⟩:=SV C;have z:i<e.size:=by rw[h.len];exact E
  have U:e[i].key=p x:=by
   have :=congrArg (·[i]?) h.mD;simp[S,z]at this;exact this.1
  refine⟨e.modify i fun g=>{g with key:=p x,val:=q v},a,?_,JK B,?_,?_,?_⟩
  ·simp only[apw,z,ard,apr,U]
   unfold Instr.keyThatStays;simp only[k.bits,if_true,apk,apZ,apq];exact JL h.blk _
  ·rw[y v]
   unfold kL;have :=h.mD;unfold kL at this;rw[Array.toList_modify];apply ap6;intro j;have F:=congrArg (·[j]?) this;simp only[ap7]at F;rw[ap7,ap7,arc,arf];by_cases g:i=j
   ·subst g
    simp[z,E]
   ·rw[if_neg g,<-F]
    cases e.toList[j]?<;>simp[g]
  ·rw[SY];exact h.nodup
  ·intro s o
   have I:s.born∈(e.modify i fun g=>{g with key:=p x,val:=q v}).toList.map (·.born):=aoX.2 ⟨s,o,rfl⟩;rw[SY]at I;obtain⟨W,X,Y⟩:=aoX.1 I;rw[<-Y];exact h.old W X
theorem SZ {κ ν:Type} [DecidableEq κ] {j:κ->Value} (c:xb κ f j) {k:ν->Value} {m:List (κ×ν)} (h:isMap j k b a m e d) {ty:TypeId} {t2:TypeId} (s:prog.underlying r=some (.map f v)) (x:κ):
  ∃l,(Builtin.delete_ #[r,t2] ty #[.map (some a),j x]).run prog b=.ok (.tuple #[]) (putObj b a (.map l d))/\isMap j k (putObj b a (.map l d)) a (pg x m) l d:=by
 have t:=JJ (P:=prog) h.blk;have w:=c.check e.isEmpty x b;have y:=c.find k x b e.toList m h.mD;have o:=h.lt;unfold Builtin.delete_;simp only[List.getElem?_toArray,aqb,aqW];simp only[apk,run_underlying s,t,apq,apZ,w,y];cases p:kk x m 0 with
 |none=>
  obtain⟨_,n⟩:=Nh p;refine⟨e,?_,JK o,by rw[n];exact h.mD,h.nodup,h.old⟩;simp only[aqt,apk,JL h.blk,apq,apZ]
 |some g=>
  obtain⟨i,u⟩:=g;obtain⟨z,C,_,n⟩:=SV p;have D:i<e.size:=by rw[h.len];exact z
  refine⟨e.eraseIdxIfInBounds i,?_,JK o,?_,?_,?_⟩
  ·simp only[apw,apk,JL h.blk,apq,apZ]
  ·rw[n]
   have :=h.mD;unfold kL at this⊢;rw[Ni,Nj,Nj,this]
  ·rw[Ni,Nj]
   exact h.nodup.sublist (List.eraseIdx_sublist _ _)
  ·intro B q
   rw[Ni]at q;exact h.old B (List.mem_of_mem_eraseIdx q)
theorem xd:xb PId 36 cX:=⟨aa1,fun a x W b m h=>aa3 a x W b m h,SX⟩
def mE (s:ByteArray):Value:=.string s
theorem aa4(b:Bool)(x:ByteArray)(W:World):(Instr.checkKey b 10000 9 (mE x)).run prog W=.ok () W:=by
 unfold mE;show(Instr.checkKey b (9999+1) 9 _).run prog W=_;rw[Instr.checkKey];go_simp
theorem S0(a b:ByteArray):(a==b)=decide (a=b):=by
 by_cases h:a=b
 ·rw[(arh a b).2 h];simp[h]
 ·cases c:a==b
  ·simp[h]
  ·exact absurd ((arh a b).1 c) h
theorem S1 {ν:Type} (b:ν->Value) (x:ByteArray):∀(a:List MapEntry) (m:List (ByteArray×ν)) (i:Nat),kL mE b a m->Instr.findNow .string (mE x) a i=some ((kk x m i).map fun r=>(r.1,b r.2))
 |[],[],i,_=>rfl
 |[],p::m,i,h=>by simp[kL]at h
 |e::a,[],i,h=>by simp[kL]at h
 |e::a,p::m,i,h=>by
  unfold kL at h;simp only[apb,aq2,aqC]at h;obtain⟨⟨d,f⟩,g⟩:=h;unfold Instr.findNow;have j:Instr.sameNow .string (mE x) e.key=some (decide (x=p.1)):=by
   rw[d];show some (x==p.1)=_;rw[S0]
  rw[j];unfold kk;by_cases c:x=p.1
  ·simp[c,f]
  ·simp only[c,decide_false,if_false]
   exact S1 b x a m (i+1) g
theorem Gs:xb ByteArray 9 mE:=⟨aa4,fun a x W b m h=>by
 unfold Instr.findKey;rw[apk,run_underlying underlying9,apq,S1 a x b m 0 h];rfl,fun x=>by simp[mE,Instr.sameBits,S0]⟩
def cK {α:Type} (p:α->Bool) (l:List α):Int:=match l.findIdx? p with |some i=>(i:Int)|none=> -1
theorem Nk {α:Type} {p:α->Bool} {l:List α} (c:a<l.length) (d:∀j (b:j<l.length),j<a->p l[j]=false) (e:p l[a]=true):cK p l=a:=by
 unfold cK;rw[aqc.2 ⟨c,e,fun j b=>by simp[d j (by omega) b]⟩]
theorem Gt {α:Type} {p:α->Bool} {l:List α} (b:∀j (a:j<l.length),p l[j]=false):cK p l= -1:=by
 unfold cK;rw[aqX.2 (fun x c=>by obtain⟨j,a,rfl⟩:=apl.1 c;exact b j a)]
theorem JN {α:Type} {p:α->Bool} {l:List α} (f:a<l.length) (c:∀j (b:j<l.length),j<a->p l[j]=false) (d:p l[a]=false):∀j (b:j<l.length),j<a+1->p l[j]=false:=by
 intro j b g;by_cases e:j=a
 ·subst e;exact d
 ·exact c j b (by omega)
theorem aa5(a b c d:Int)(w:World):
  O 158 #[.agg #[A a,A b],.agg #[A c,A d]] w fun e h=>
   e=.returned (.bool (decide (a<c\/(a=c/\b<d))))/\J w h:=by
 by_cases f:a<c
 ·go_enter func158,ntmps158
  go_wp2;go_ret
  exact⟨l9 (by simp[f]),((aoQ _ _).alloc (aoP _) _).alloc (by simp) _⟩
 ·by_cases g:a=c
  ·subst g
   go_enter func158,ntmps158;go_wp2;go_ret
   exact⟨l9 (by simp),((aoQ _ _).alloc (aoP _) _).alloc (by simp) _⟩
  ·go_enter func158,ntmps158
   go_wp2;go_ret
   exact⟨l9 (by simp[f,g]),((aoQ _ _).alloc (aoP _) _).alloc (by simp) _⟩
def B7 (x:PId) (y:PId):Bool:=et y.1 y.2 x.1 x.2
theorem aa6{x:PId}:decide (x∈k)=decide (0<=cK (B7 x) k):=by
 by_cases h:x∈k
 ·obtain⟨j,b,e⟩:=apl.1 h
  have :∃i,k.findIdx? (B7 x)=some i:=by
   cases a:k.findIdx? (B7 x) with
   |some i=>exact⟨i,rfl⟩
   |none=>
    rw[aqX]at a;have :=a x h;simp[B7,et]at this
  obtain⟨i,c⟩:=this;simp[h,cK,c]
 ·have :cK (B7 x) k= -1:=Gt fun j b=>by
   unfold B7;rw[yx];intro e;exact h (by rw[show x=k[j] from e.symm];exact aoY _)
  simp[h,this]
theorem S2(v:Value)(l:List PId)(b c:Int)(w:World)(h:er w v l):
  O 237 #[v,.agg #[A b,A c]] w fun e r=>
   e=.returned (.bool (decide ((b,c)∈l)))/\J w r:=by
 obtain⟨a,y,rfl,z,s,m⟩:=bp h;unfold maxLen at s;rw[aa6];have t:=aa (m);clear m;have u:=aa (h);clear h;go_enter func237,ntmps237;go_wp2;go_loopw [5] (fun i wr=>∃k:Nat,k<=l.length/\i=A k/\Hq (∀j (p:j<l.length),j<k->B7 (b,c) l[j]=false)/\∃n,wr=(w.alloc (.cells #[A b,A c] 36)).drewN n) (fun i _=>l.length-(intOf i).toNat)
 case atStart=>exact⟨0,aoR _,rfl,fun _ _ h=>absurd h (ap5 _),0,rfl⟩
 case round=>
  obtain⟨k,B,rfl,f,n,rfl⟩:=hrel;by_cases d:k<l.length
  ·obtain⟨g,rfl⟩:=t.o k d
   obtain⟨x,C⟩:=er.cells u.o rfl k d;have heq:=uv;have D:g<w.heap.size:=ao4 w _ x;go_wp2;go_region
   cases q:et l[k].1 l[k].2 b c
   ·go_wp2
    go_roundw
    case rel=>exact⟨k+1,by omega,by go_num,JN d f.o q,_,rfl⟩
    case measure=>simp[intOf];omega
   ·go_wp2
    go_ret
    exact⟨l9 (by rw[Nk d f.o q];simp),below_drewN ((aoQ _ _).alloc (aoP _) _) _⟩
  ·go_wp2
   go_ret
   exact⟨l9 (by rw[Gt (fun j p=>f.o j p (by omega))];rfl),below_drewN ((aoQ _ _).alloc (aoP _) _) _⟩
def lo (x:PId) (o:dA):Bool:=et o.id.1 o.id.2 x.1 x.2
theorem B8(B f:Nat)(v:Value)(l:List dA)(b c:Int)(w:World)(s:w.cell? (H f)=some v)(h:xa B w v l):
  O 174 #[Z f,.agg #[A b,A c]] w fun e t=>
   e=.returned (A (cK (lo (b,c)) l))/\J w t:=by
 obtain⟨a,C,rfl,D,u,p⟩:=bp h.1;unfold maxLen at u;have E:f<w.heap.size:=ao4 w _ s;have x:=aa (p);clear p;have y:=aa (h);clear h;go_enter func174,ntmps174;go_wp2;go_loopw [5] (fun i wr=>∃k:Nat,k<=l.length/\i=A k/\Hq (∀j (q:j<l.length),j<k->lo (b,c) l[j]=false)/\∃n,wr=(w.alloc (.cells #[A b,A c] 36)).drewN n) (fun i _=>l.length-(intOf i).toNat)
 case atStart=>exact⟨0,aoR _,rfl,fun _ _ h=>absurd h (ap5 _),0,rfl⟩
 case round=>
  obtain⟨k,F,rfl,m,n,rfl⟩:=hrel;by_cases d:k<l.length
  ·obtain⟨g,rfl⟩:=x.o k d
   obtain⟨z,I,L,M⟩:=xa.cells y.o rfl k d;have heq:=uv;have N:g<w.heap.size:=ao4 w _ z;go_wp2;go_region
   cases r:et l[k].id.1 l[k].id.2 b c
   ·go_wp2
    go_roundw
    case rel=>exact⟨k+1,by omega,by go_num,JN d m.o r,_,rfl⟩
    case measure=>simp[intOf];omega
   ·go_wp2
    go_ret
    exact⟨JI (by rw[Nk d m.o r]),below_drewN ((aoQ _ _).alloc (aoP _) _) _⟩
  ·go_wp2
   go_ret
   exact⟨JI (by rw[Gt (fun j q=>m.o j q (by omega))]),below_drewN ((aoQ _ _).alloc (aoP _) _) _⟩
def hz (key:ByteArray) (x:PId) (s:bD):Bool:=(s.key.toList==key.toList)&&et s.id.1 s.id.2 x.1 x.2
theorem Ca(B m p:Nat)(v:Value)(l:List bD)(key:ByteArray)(b c:Int)(w:World)(u:w.cell? (K m (p+3))=some v)(h:hy B w v l):
  O 172 #[.pointer (some (K m p)),.string key,.agg #[A b,A c]] w fun e x=>
   e=.returned (A (cK (hz key (b,c)) l))/\J w x:=by
 obtain⟨a,E,rfl,F,y,q⟩:=bp h.1;unfold maxLen at y;have I:m<w.heap.size:=ao4 w _ u;have z:=aa (q);clear q;have C:=aa (h);clear h;go_enter func172,ntmps172;go_wp2;go_loopw [7] (fun i wr=>∃k:Nat,k<=l.length/\i=A k/\Hq (∀j (r:j<l.length),j<k->hz key (b,c) l[j]=false)/\∃n,wr=(w.alloc (.cells #[A b,A c] 36)).drewN n) (fun i _=>l.length-(intOf i).toNat)
 case atStart=>exact⟨0,aoR _,rfl,fun _ _ h=>absurd h (ap5 _),0,rfl⟩
 case round=>
  obtain⟨k,L,rfl,f,n,rfl⟩:=hrel;by_cases d:k<l.length
  ·obtain⟨g,rfl⟩:=z.o k d
   obtain⟨D,M,N,P⟩:=hy.cells C.o rfl k d;have heq:=uv;have Q:g<w.heap.size:=ao4 w _ D;cases s:(l[k].key.toList==key.toList)
   ·go_wp2
    go_region
    go_wp2;go_roundw
    case rel=>exact⟨k+1,by omega,by go_num,JN d f.o (by simp[hz,s]),_,rfl⟩
    case measure=>simp[intOf];omega
   ·cases t:et l[k].id.1 l[k].id.2 b c
    ·go_wp2
     go_region
     go_wp2;go_roundw
     case rel=>exact⟨k+1,by omega,by go_num,JN d f.o (by simp[hz,t]),_,rfl⟩
     case measure=>simp[intOf];omega
    ·go_wp2
     go_region
     go_wp2;go_ret
     exact⟨JI (by rw[Nk d f.o (by simp[hz,s,t])]),below_drewN ((aoQ _ _).alloc (aoP _) _) _⟩
  ·go_wp2
   go_ret
   exact⟨JI (by rw[Gt (fun j r=>f.o j r (by omega))]),below_drewN ((aoQ _ _).alloc (aoP _) _) _⟩
theorem aa7(c:a<h.size)(d:a<q.size)(b:h[a]=q[a]):
  Op.bytesLess (h.data.toList.drop a) (q.data.toList.drop a)=Op.bytesLess (h.data.toList.drop (a+1)) (q.data.toList.drop (a+1)):=by
 have f:a<h.data.toList.length:=by simpa using c
 have g:a<q.data.toList.length:=by simpa using d
 rw[aqK f,aqK g];have e:h.data.toList[a]=q.data.toList[a]:=b;simp[Op.bytesLess,e]
theorem aa8(c:a<h.size)(d:a<q.size)(b:h[a]≠q[a]):
  Op.bytesLess (h.data.toList.drop a) (q.data.toList.drop a)=decide ((h[a].toNat:Int)<q[a].toNat):=by
 have f:a<h.data.toList.length:=by simpa using c
 have g:a<q.data.toList.length:=by simpa using d
 rw[aqK f,aqK g];have e:h.data.toList[a]≠q.data.toList[a]:=b;have i:h.data.toList[a]=h[a]:=rfl;have j:q.data.toList[a]=q[a]:=rfl;simp[Op.bytesLess,i,j,b,UInt8.lt_iff_toNat_lt]
theorem S3(b:q.size<=a\/h.size<=a)(d:a<=q.size)(e:a<=h.size):
  Op.bytesLess (q.data.toList.drop a) (h.data.toList.drop a)=decide ((q.size:Int)<h.size):=by
 rcases b with b|b
 ·have :q.data.toList.drop a=[]:=ari (by simpa using b)
  rw[this];by_cases c:a<h.size
  ·rw[aqK (by simpa using c)];simp[Op.bytesLess];omega
  ·have :h.data.toList.drop a=[]:=ari (by simp;omega)
   rw[this];simp[Op.bytesLess];omega
 ·have :h.data.toList.drop a=[]:=ari (by simpa using b)
  rw[this];simp[Op.bytesLess];omega
def hA (a b:ByteArray):Bool:=Op.bytesLess a.data.toList b.data.toList
theorem S4(a b:ByteArray)(w:World)(p:a.size<=maxLen)(q:b.size<=maxLen):
  O 193 #[.string a,.string b] w fun e r=>e=.returned (.bool (hA a b))/\∃n,r=w.drewN n:=by
 unfold maxLen at p q;go_enter func193,ntmps193;go_wp2;go_loopw [5] (fun i wr=>∃k:Nat,k<=a.size/\k<=b.size/\i=A k/\Hq (hA a b=Op.bytesLess (a.data.toList.drop k) (b.data.toList.drop k))/\∃n,wr=w.drewN n) (fun i _=>a.size-(intOf i).toNat)
 case atStart=>exact⟨0,aoR _,aoR _,rfl,rfl,0,rfl⟩
 case round=>
  obtain⟨k,g,j,rfl,d,n,rfl⟩:=hrel;by_cases l:k<a.size
  ·by_cases m:k<b.size
   ·by_cases c:a[k]=b[k]
    ·have s:(a[k].toNat:Int)=b[k].toNat:=by rw[c]
     have f:=aa (aa7 l m c);clear c;go_wp2;go_region
     go_wp2;go_roundw
     case rel=>exact⟨k+1,by omega,by omega,by go_num,d.o.trans f.o,_,rfl⟩
     case measure=>simp[intOf];omega
    ·have s:¬(a[k].toNat:Int)=b[k].toNat:=by
      intro e;apply c;exact UInt8.toNat_inj.1 (by omega)
     have f:=aa (aa8 l m c);clear c;go_wp2;go_region
     go_wp2;go_region
     go_wp2;go_ret
     exact⟨l9 (by rw[d.o,f.o];simp),_,rfl⟩
   ·go_wp2
    go_ret
    exact⟨l9 (by rw[d.o,S3 (.inr (by omega)) g j];simp),_,rfl⟩
  ·go_wp2
   go_ret
   exact⟨l9 (by rw[d.o,S3 (.inl (by omega)) g j];simp),_,rfl⟩
theorem JO {α:Type} (f:α->List Value) (size bytes:Nat) (t e:TypeId) (z:Value) (n:(prog.info? e).map (fun i=>(i.zero,i.size,i.bytes))=some (some z,size,bytes))
  (p:prog.underlying t=some (.slice e)) (q:z.cells.size=size) (r:0<size) (w:∀x,(f x).length=size)
  {m:Array Oper} {rest:List Oper} {o:Oper} {a:Act} {Q:Exit->Act->World->Prop} (C:o.guard=none) (s x:Operand)
  (D:o.op=.call {callee:=.builtin .append,args:= #[s,x],argTypes:= #[t,t]}) (B:Nat) (v:Value) (l:List α) (E:a.eval s=v)
  (F:b.ownsRow B e size v l.length (l.flatMap f)) (g c:Nat) (y:α) (I:a.eval x=.slice (some (H g)) 1 c)
  (L:∀j u,(f y)[j]?=some u->b.cell? (K g j)=some u) (M:∀u∈f y,u.oneCell'=true) (N:(l.length+1)*bytes<=140737488355328) (tC:l.length<maxLen) (R:B<=b.heap.size)
  (h:∀k d,d.ownsRow B e size k (l.length+1) ((l++[y]).flatMap f)->b.grownBy d v.ownBlock->wpList prog m Q rest (a.put o.dst k) d):wpList prog m Q (o::rest) a b:=by
 obtain⟨i,S,U,W,X⟩:=info_parts n;refine wpList_append_own (P:=prog) b C s x t D B e i z size bytes p S U W X q r v l.length (l.flatMap f) E F (H g) 1 c (f y) I (by rw[w];simp) ?_ M (by omega) N R ?_
 ·intro j u Y
  have :((H g):Addr).add j=(K g j):=by unfold Addr.add;split <;>simp_all
  rw[this];exact L j u Y
 ·intro k d h2 ak _
  exact h k d (by simpa using h2) ak
theorem JP:∀u∈lL (j,m),u.oneCell'=true:=by
 intro u a;simp[lL]at a;rcases a with rfl|rfl<;>rfl
theorem JQ{x1 x2:Int}(d:b.cell? (H a)=some (A x1))(e:b.cell? (K a 1)=some (A x2)):
  ∀j u,(lL (x1,x2))[j]?=some u->b.cell? (K a j)=some u:=by
 intro j u c
 match j with
 |0=>simp[lL]at c;rw[<-c];exact d
 |1=>simp[lL]at c;rw[<-c];exact e
 |j+2=>simp[lL]at c
def gu (B:Nat) (w:World) (v:Value) (l:List PId):Prop:=w.ownsRow B 36 2 v l.length (l.flatMap lL)
theorem gu.ids{v}(h:gu a b v k):er b v k:=gC h (aoR _)
theorem gu.alloc{B w v l}(h:gu B w v l)(o:Obj):gu B (w.alloc o) v l:=aqd h o
theorem gu.below{d:World}(h:gu a b i k)(e:Below a s b)(f:a<=b.heap.size)(g:b.grownBy d i.ownBlock):Below a s d:=
 e.grown g f fun c j=>(aoT h c j).1
theorem El {α β:Type} (f:α->β) {l:List α} (h:a<l.length):(l.take (a+1)).map f=(l.take a).map f++[f l[a]]:=by
 rw[aph h,ao8];rfl
theorem Nl{j:Array Oper}{rest:List Oper}{o:Oper}{a:Act}{Q:Exit->Act->World->Prop}(k:o.guard=none)(s x:Operand)(m:o.op=.call {callee:=.builtin .append,args:= #[s,x],argTypes:= #[65,65]})(B:Nat)(v:Value)(l:List PId)(n:a.eval s=v)(p:gu B b v l)(g c:Nat)(f i:Int)(q:a.eval x=.slice (some (H g)) 1 c)(r:b.cell? (H g)=some (A f))(t:b.cell? (K g 1)=some (A i))(z:l.length<1000000000000)(u:B<=b.heap.size)(h:∀e d,gu B d e (l++[(f,i)])->b.grownBy d v.ownBlock->wpList prog j Q rest (a.put o.dst e) d):wpList prog j Q (o::rest) a b:=
 JO lL 2 16 65 36 (.agg #[A 0,A 0]) (by kernel_rfl) underlying65 rfl (by omega) (fun _=>rfl) k s x m B v l n p g c (f,i) q
  (JQ r t) JP (by omega) (by unfold maxLen;omega) u (fun e d w y=>h e d (by unfold gu;simpa using w) y)
theorem JR(v:Value)(l:List cE)(w:World)(h:k1 w v l)(z:l.length<1000000):
  O 146 #[v] w fun e f=>
   ∃u,e=.returned u/\gu w.heap.size f u (l.map (·.cD))/\J w f:=by
 obtain⟨a,B,rfl,C,r,j⟩:=bp h;unfold maxLen at r;have s:=aa (j);clear j;have t:=aa (h);clear h;go_enter func146,ntmps146;go_wp2;go_loopw [3,4] (fun u i wr=>∃k:Nat,k<=l.length/\i=A k/\gu w.heap.size wr u ((l.take k).map (·.cD))/\J w wr) (fun _ i _=>l.length-(intOf i).toNat)
 case atStart=>exact⟨0,aoR _,rfl,ao9 _ _ _ _,aoQ _ _⟩
 case round=>
  obtain⟨k,D,rfl,c,b⟩:=hrel;by_cases d:k<l.length
  ·obtain⟨g,rfl⟩:=s.o k d
   obtain⟨m,h1,h2,ak,aL⟩:=k1.cells t.o rfl k d;replace m:=af b m;replace h1:=af b h1;clear h2 ak aL;have n:=aa (c);clear c;go_wp2_with (at_builtin;go_must (refine Nl rfl (.tmp 11) (.tmp 17) rfl w.heap.size _ ((l.take k).map (·.cD)) rfl ?h1 wr.heap.size 1 l[k].cD.1 l[k].cD.2 rfl ?h2 ?ak ?aL ?bW ?_;(case h1=>exact n.o.alloc _);(case h2=>simp[go_sem]);(case ak=>simp[go_sem]);(case aL=>simp;omega);(case bW=>have :=b.size;simp;omega);intro E F p q;have x:=aa (q);clear q;have y:=aa (p);clear p))
   go_roundw
   case rel=>exact⟨k+1,by omega,by go_num,by rw[El _ d];exact y.o,gu.below (n.o.alloc _) (b.alloc b.size _) (by have :=b.size;simp;omega) x.o⟩
   case measure=>simp[intOf];omega
  ·go_wp2
   go_ret
   refine⟨_,rfl,?_,b⟩;rw[apc (by omega)]at c;exact c
def jH (l:List bD):List PId:=(l.filter fun s=>decide (0<s.ad.length)).map (·.id)
theorem aa9(h:a<n.length)(b:0<n[a].ad.length):jH (n.take (a+1))=jH (n.take a)++[n[a].id]:=by
 unfold jH;rw[aph h,aqu];simp[b]
theorem aba(h:a<n.length)(b:n[a].ad.length=0):jH (n.take (a+1))=jH (n.take a):=by
 unfold jH;rw[aph h,aqu];simp[b]
theorem Gu(l:List bD)(k:Nat):(jH (l.take k)).length<=k:=by
 unfold jH;rw[aoU];exact aoS (apK _ _) (List.length_take_le _ _)
theorem JS(B n p:Nat)(v:Value)(l:List bD)(w:World)(f:w.cell? (K n (p+3))=some v)(h:hy B w v l)(L:l.length<1000000):
  O 149 #[.pointer (some (K n p))] w fun e q=>
   ∃u,e=.returned u/\gu w.heap.size q u (jH l)/\J w q:=by
 obtain⟨a,M,rfl,N,y,r⟩:=bp h.1;unfold maxLen at y;have z:=aa (r);clear r;have s:=aa (h);clear h;have C:=aa (f);clear f;go_enter func149,ntmps149;go_wp2;go_loopw [3,4] (fun u i wr=>∃k:Nat,k<=l.length/\i=A k/\gu w.heap.size wr u (jH (l.take k))/\J w wr) (fun _ i _=>l.length-(intOf i).toNat)
 case atStart=>exact⟨0,aoR _,rfl,ao9 _ _ _ _,aoQ _ _⟩
 case round=>
  obtain⟨k,P,rfl,c,b⟩:=hrel;have f:=af b C.o;by_cases d:k<l.length
  ·obtain⟨g,rfl⟩:=z.o k d
   obtain⟨Q,h1,h2,ak⟩:=hy.cells s.o rfl k d;obtain⟨R,S,j,U,D,_⟩:=bp (s.o.2 l[k] (aoY _));unfold maxLen at D;rw[j]at ak;replace h1:=af b h1;replace h2:=af b h2;replace ak:=af b ak;have W:=Gu l k;have m:=aa (c);clear c;have X:=aa (j);clear j;by_cases E:0<l[k].ad.length
   ·go_wp2_with (at_builtin;go_must (refine Nl rfl (.tmp 24) (.tmp 33) rfl w.heap.size _ (jH (l.take k)) rfl ?h1 wr.heap.size 1 l[k].id.1 l[k].id.2 rfl ?h2 ?ak ?aL ?bW ?_;(case h1=>exact m.o.alloc _);(case h2=>simp[go_sem]);(case ak=>simp[go_sem]);(case aL=>omega);(case bW=>have :=b.size;simp;omega);intro Y w1 t x;have F:=aa (x);clear x;have I:=aa (t);clear t))
    go_roundw
    case rel=>exact⟨k+1,by omega,by go_num,by rw[aa9 d E];exact I.o,gu.below (m.o.alloc _) (b.alloc b.size _) (by have :=b.size;simp;omega) F.o⟩
    case measure=>simp[intOf];omega
   ·go_wp2
    go_roundw
    case rel=>exact⟨k+1,by omega,by go_num,by rw[aba d (by omega)];exact m.o,b⟩
    case measure=>simp[intOf];omega
  ·go_wp2
   go_ret
   refine⟨_,rfl,?_,b⟩;rw[apc (by omega)]at c;exact c
def letters (s:List UInt8):Bool:=s.all fun c=>97<=c&&c<=122
def km (s:ByteArray):Bool:=letters s.data.toList&&decide (0<s.size/\s.size<=4)
theorem S6(b:a<h.size)(c:letters (h.data.toList.take a)=true)(f:(97:Int)<=h[a].toNat)(g:(h[a].toNat:Int)<=122):letters (h.data.toList.take (a+1))=true:=by
 have d:a<h.data.toList.length:=by simpa using b
 unfold letters at *;rw[aph d,List.all_append,c];have e:h.data.toList[a]=h[a]:=rfl;simp[e,UInt8.le_iff_toNat_le];omega
theorem JT(b:a<h.size)(c:¬((97:Int)<=h[a].toNat/\(h[a].toNat:Int)<=122)):km h=false:=by
 have d:a<h.data.toList.length:=by simpa using b
 have :letters h.data.toList=false:=by
  unfold letters;rw[List.all_eq_false];refine⟨h.data.toList[a],aoY _,?_⟩;have e:h.data.toList[a]=h[a]:=rfl;simp[e,UInt8.le_iff_toNat_le];omega
 simp[km,this]
theorem abb(s:ByteArray)(w:World)(j:s.size<=maxLen):
  O 171 #[.string s] w fun e l=>e=.returned (.bool (km s))/\l=w:=by
 unfold maxLen at j;go_enter func171,ntmps171;go_wp2;go_loop [3] (fun i=>∃k:Nat,k<=s.size/\i=A k/\Hq (letters (s.data.toList.take k)=true)) (fun i=>s.size-(intOf i).toNat)
 case atStart=>exact⟨0,aoR _,rfl,rfl⟩
 case round=>
  obtain⟨k,m,rfl,c⟩:=hrel;by_cases b:k<s.size
  ·by_cases d:(97:Int)<=s[k].toNat
   ·by_cases f:(s[k].toNat:Int)<=122
    ·have a:=aa (S6 b c.o d f)
     go_wp2;go_round
     case rel=>exact⟨k+1,by omega,by go_num,a⟩
     case measure=>simp[intOf];omega
    ·have a:Hq _:=JT b (fun h=>f h.2)
     go_wp2;go_ret
     exact⟨l9 a.o.symm,rfl⟩
   ·have a:Hq _:=JT b (fun h=>d h.1)
    go_wp2;go_ret
    exact⟨l9 a.o.symm,rfl⟩
  ·have e:letters s.data.toList=true:=by
    have :=c.o;rwa [apc (by simp;omega)]at this
   have a:Hq (km s=decide (0<s.size/\s.size<=4)):=by unfold km;rw[e];rfl
   clear e;by_cases g:0<s.size
   ·go_wp2
    go_ret
    exact⟨l9 (by rw[a.o];simp[g];omega),rfl⟩
   ·go_wp2
    go_ret
    exact⟨l9 (by rw[a.o];simp[g]),rfl⟩
end Go.Proofs.YtnkpogjiiohapaaGreatDoor
