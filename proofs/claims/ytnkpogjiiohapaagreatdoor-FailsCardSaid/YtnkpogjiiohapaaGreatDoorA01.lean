/- Our own text. -/
import Derived.Test.YtnkpogjiiohapaaGreatDoorProg
import Derived.WalkKit
import Derived.WalkSpells
import Derived.WalkLawsBesides
import Derived.Deep.QuietTactic
import Derived.BigQuiet
import Derived.Handy
set_option linter.unusedSimpArgs false
set_option linter.unusedVariables false
set_option linter.defProp false
set_option maxRecDepth 1000000
set_option maxHeartbeats 800000
namespace Go.Proofs.YtnkpogjiiohapaaGreatDoor
open Go.RowKit Tryz
def apX:=@Nat.le_refl
def apY:=@Below.refl
def apZ:=@Nat.zero_le
def ap0:=@Nat.le_trans
def ap1:=@World.ownsRow.lt
def ap2:=@List.length_map
def ap3:=@Nat.lt_of_lt_of_le
def ap4:=@List.length_append
def ap5:=@List.mem_map
def ap6:=@List.getElem_mem
def ap7:=@List.mem_append
def ap8:=@Array.getElem?_eq_some_iff
def ap9:=@List.mem_singleton
def aqa:=@Ne.symm
def aqb:=@List.mem_cons
def aqc:=@Int.natCast_nonneg
def aqd:=@World.block_lt_of_cell?
def aqe:=@World.ownsRow_nil
def aqf:=@List.mem_cons_self
def aqg:=@List.length_take
def aqh:=@List.mem_cons_of_mem
def aqi:=@List.map_append
def aqj:=@List.map_cons
def aqk:=@List.length_cons
def aql:=@List.take_of_length_le
def aqm:=@List.flatMap_cons
def aqn:=@Value.slice.injEq
def aqo:=@Option.some.injEq
def aqp:=@List.take_succ_eq_append_getElem
def aqq:=@List.mem_flatMap
def aqr:=@Below.heap_setCell
def aqs:=@List.append_assoc
def aqt:=@Sem.run_bind
def aqu:=@Option.getD_some
def aqv:=@List.mem_iff_getElem
def aqw:=@List.nodup_cons
def aqx:=@Addr.mk.injEq
def aqy:=@Nat.le_succ
def aqz:=@Result.andThen_ok
def aqA:=@List.length_drop
def aqB:=@List.append_nil
def aqC:=@List.length_nil
def aqD:=@List.cons_append
def aqE:=@List.mem_of_mem_take
def aqF:=@List.nodup_append
def aqG:=@List.flatMap_append
def aqH:=@List.getElem_map
def aqI:=@List.range_succ
def aqJ:=@Option.map_some
def aqK:=@List.nil_append
def aqL:=@List.mem_filter
def aqM:=@Bool.false_eq_true
def aqN:=@List.pairwise_map
def aqO:=@List.map_map
def aqP:=@Option.some.inj
def aqQ:=@Nat.zero_add
def aqR:=@List.length_filter_le
def aqS:=@Go.IntWalk.i64_in
def aqT:=@List.pairwise_iff_getElem
def aqU:=@List.pairwise_cons
def aqV:=@Nat.mul_le_mul_right
def aqW:=@Nat.add_zero
def aqX:=@List.mem_range
def aqY:=@List.map_nil
def aqZ:=@Nat.add_mul
def aq0:=@World.cell?_of_block
def aq1:=@List.length_singleton
def aq2:=@List.getElem?_eq_getElem
def aq3:=@List.mem_append_left
def aq4:=@Sem.run_pure
def aq5:=@Array.getElem_modify_self
def aq6:=@List.length_range
def aq7:=@Nat.not_lt_zero
def aq8:=@List.mem_of_mem_drop
def aq9:=@List.ext_getElem?
def ara:=@List.foldl_append
def arb:=@List.eq_nil_of_length_eq_zero
def arc:=@List.pairwise_append
def ard:=@List.getElem?_cons_zero
def arf:=@List.take_append_of_le_length
def arh:=@List.nodup_nil
def ari:=@List.take_length
def arj:=@World.ownsRow.alloc
def ark:=@List.getElem?_map
def arl:=@Int.eq_ofNat_of_zero_le
def arn:=@Nat.mul_one
def aro:=@Int.le_trans
def arp:=@List.size_toArray
def arq:=@List.filter_append
def ars:=@Array.getElem?_modify
def art:=@List.getElem?_take
def aru:=@List.map_take
def arv:=@List.getElem_append_left
def arw:=@List.find?_eq_none
def arx:=@List.map_congr_left
def ary:=@Int.le_refl
def arz:=@List.mem_of_find?_eq_some
def arA:=@List.findIdx?_eq_some_iff_getElem
def arB:=@List.getElem?_eq_some_iff
def arC:=@Option.map_none
def arD:=@List.length_set
def arE:=@List.foldl_cons
def arF:=@List.ext_getElem
def arG:=@List.take_take
def arH:=@Nat.min_eq_left
def arI:=@List.take_append_drop
def arJ:=@Array.getElem?_setIfInBounds
def arK:=@List.find?_cons
def arL:=@Prod.mk.injEq
def arM:=@List.set_cons_succ
def arN:=@World.ownsRow.cellAt
def arO:=@List.find?_some
def arP:=@List.drop_eq_getElem_cons
def arQ:=@List.map_toArray
def arR:=@List.getElem_take
def arS:=@ByteArray.ext
def arT:=@List.mergeSort_perm
def arU:=@List.mem_map_of_mem
def arV:=@Option.isSome_some
def arW:=@List.mem_append_right
def arX:=@List.mem_of_getElem?
def arY:=@List.getElem?_append_left
def arZ:=@List.getElem?_append_right
def ar0:=@Nat.succ_mul
def ar1:=@List.findIdx?_eq_none_iff
def ar2:=@List.getElem?_cons_succ
def ar3:=@List.filter_cons
def ar4:=@Int.toNat_natCast
def ar5:=@List.find?_eq_some_iff_getElem
def ar6:=@Option.getD_none
def ar7:=@Array.replicate_succ
def ar8:=@Array.replicate_zero
def ar9:=@List.push_toArray
def asa:=@List.append_toArray
def asb:=@List.pairwise_singleton
def asc:=@List.getD_eq_getElem?_getD
def asd:=@List.cons.injEq
def ase:=@World.ownsRow.frozenAt
def asf:=@List.getElem_set_ne
def asg:=@Addr.add_lit
def ash:=@List.flatMap_nil
def asi:=@List.not_mem_nil
def asj:=@Nat.mul_comm
def asl:=@List.drop_eq_nil_of_le
def asm:=@World.cell?_alloc_at
def asn:=@List.getElem?_modify
def aso:=@List.getElem?_set
def asp:=@Go.MapKept.bytes_beq
def asq:=@List.getElem_cons_succ
def asr:=@World.ownsRow.stored
def ass:=@World.frozen?_of_block
def ast:=@Nat.lt_or_gt_of_ne
def asu:=@World.ownsRow.drew
def asv:=@Array.length_toList
def asw:=@List.pairwise_mergeSort
def asx:=@List.Perm.append_left
def asy:=@List.perm_append_comm
def asz:=@Option.isSome_none
def asA:=@Function.comp_def
def asB:=@List.findIdx?_cons
def asC:=@List.modify_zero_cons
def asD:=@List.modify_succ_cons
def asE:=@List.getElem?_eq_none
def asF:=@Nat.lt_of_le_of_lt
def asG:=@List.getElem?_range
def asH:=@Decidable.not_not
def asI:=@List.drop_append_of_le_length
def asJ:=@List.getElem_cons_zero
def asK:=@Array.getElem?_eq_getElem
def asL:=@List.getElem_drop
abbrev A(n:Int):Value:=.int .i64 n
abbrev Z(n:Nat):Value:=.pointer (some ⟨n,0,none⟩)
abbrev H(n:Nat):Addr:=⟨n,0,none⟩
abbrev K(n k:Nat):Addr:=⟨n,k,none⟩
abbrev V(w:World)(k:Nat):Addr:=⟨w.heap.size,k,none⟩
abbrev J(w v:World):Prop:=Below w.heap.size w v
abbrev O:=Calls Tryz.prog
variable {a f m C:Nat}{b l B:World}{d y:ByteArray}{e:Value}{h k z:Int}{i:TypeId}{j:List Value}{n:Act}{q:Array Oper}{r:Exit->Act->World->Prop}{u:Oper}{v:Array Value}
abbrev PId:=Int×Int
variable {s:List PId}{w:PId}
def Hq (p:Prop):Prop:=p
theorem Hq.o{p:Prop}(h:Hq p):p:=h
theorem aa{p:Prop}(h:p):Hq p:=h
structure cP where
 cQ:PId
 num:Int
 obj:PId
structure bD where
 key:ByteArray
 id:PId
 fX:Value
 ad:List cP
variable {c:List bD}
structure dE where
 id:PId
 list:Bool
 hr:Value
 ss:List bD
def lO (x:PId):List Value:=[A x.1,A x.2]
def pF (h:cP):List Value:=[A h.cQ.1,A h.cQ.2,A h.num,A h.obj.1,A h.obj.2]
def iq (s:bD):List Value:=[.string s.key,A s.id.1,A s.id.2,s.fX]
def k0 (o:dE):List Value:=[A o.id.1,A o.id.2,.bool o.list,o.hr]
theorem N6 {α:Type} (f:α->List Value) (k:Nat) (b:∀x,(f x).length=k):
  ∀(l:List α) (i j:Nat) (a:i<l.length),j<k->(l.flatMap f)[i*k+j]?=(f l[i])[j]?:=by
 intro l
 induction l with
 |nil=>intro i j a;simp at a
 |cons x l ih=>
  intro i j a c;rw[aqm];cases i with
  |zero=>simp only[Nat.zero_mul,aqQ,asJ];rw[arY (by rw[b];exact c)]
  |succ i=>
   rw[arZ (by rw[b,ar0];omega),b];have :(i+1)*k+j-k=i*k+j:=by rw[ar0];omega
   rw[this,ih i j (by simpa using a) c];simp
theorem qS {α:Type} (f:α->List Value) (k:Nat) (a:∀x,(f x).length=k) (l:List α):(l.flatMap f).length=l.length*k:=by
 induction l with
 |nil=>simp
 |cons x l ih=>simp[aqm,ih,a,ar0];omega
theorem bm{w:World}{base:Nat}{e:TypeId}{size:Nat}{v:Value}{n:Nat}(h:w.ownsRow base e size v n j):
  ∃a b,v=.slice a n b/\n<=b/\b<=maxLen/\∀i,i<n->∃g,a=some (H g):=by
 rcases h.2 with⟨rfl,rfl⟩|⟨g,b,k,rfl,l,m,c,d,o⟩
 ·exact⟨none,0,rfl,apX _,apZ _,fun i f=>absurd f (aq7 _)⟩
 exact⟨_,b,rfl,c,d,fun _ _=>⟨g,rfl⟩⟩
theorem ir {α:Type} {base:Nat} {e:TypeId} {k:Nat} {f:α->List Value} (d:∀x,(f x).length=k) {g:Nat} {l:List α}
  (h:b.ownsRow base e k (.slice (some (H g)) a m) a (l.flatMap f)) (n:a=l.length) (i:Nat) (c:i<l.length) (j:Nat) (o:j<k):
  b.cell? (K g (i*k+j))=(f l[i])[j]?:=by
 rw[<-N6 f k d l i j c o];exact h.cellAt (i*k+j) (by subst n;have :(i+1)*k<=l.length*k:=aqV _ c;rw[ar0]at this;omega)
theorem ae{w w':World}(h:J w w'){a:Addr}{v:Value}(b:w.cell? a=some v):w'.cell? a=some v:=by
 rw[h.cell (aqd w a b)];exact b
theorem gT{base base':Nat}{size:Nat}(h:b.ownsRow base i size e a j)(c:base'<=base):b.ownsRow base' i size e a j:=
 ⟨h.1,h.2.imp id fun⟨g,d,f,k,l,m⟩=>⟨g,d,f,k,ap0 c l,m⟩⟩
theorem aby{base:Nat}{size:Nat}(h:b.ownsRow base i size e f j)(c:Below a b l)(d:∀k,e.ownBlock=some k->k<a):l.ownsRow base i size e f j:=by
 refine⟨h.1,?_⟩;rcases h.2 with m|⟨g,n,o,rfl,p,q,rest⟩
 ·exact .inl m
 refine .inr ⟨g,n,o,rfl,p,?_,rest⟩;rw[c.block g (d g rfl)];exact q
theorem c7{w:World}{base:Nat}{size:Nat}{v:Value}(h:w.ownsRow base i size v a j)(c:J w b):b.ownsRow base i size v a j:=aby h c fun k d=>(h.lt k d).2
theorem mf{a b:Bool}(h:a=b):Ending.returned (.bool a)=.returned (.bool b):=by rw[h]
theorem Ku(a:h=k):Ending.returned (A h)=.returned (A k):=by rw[a]
def eE (w:World) (v:Value) (l:List PId):Prop:=w.ownsRow 0 36 2 v l.length (l.flatMap lO)
def k1 (w:World) (v:Value) (l:List cP):Prop:=w.ownsRow 0 243 5 v l.length (l.flatMap pF)
def ib (B:Nat) (w:World) (v:Value) (l:List bD):Prop:=w.ownsRow B 269 4 v l.length (l.flatMap iq)/\∀s∈l,k1 w s.fX s.ad
def xG (B:Nat) (w:World) (v:Value) (l:List dE):Prop:=
 w.ownsRow B 272 4 v l.length (l.flatMap k0)/\(∀o∈l,ib B w o.hr o.ss)/\
 ∀(i j:Nat) (a:i<l.length) (b:j<l.length),i≠j->l[i].hr.ownBlock=none\/l[i].hr.ownBlock≠l[j].hr.ownBlock
theorem eE.ae{w v l}{w':World}(h:eE w v l)(a:J w w'):eE w' v l:=c7 h a
theorem k1.ae{w v l}{w':World}(h:k1 w v l)(a:J w w'):k1 w' v l:=c7 h a
theorem ib.ae{B w v l}{w':World}(h:ib B w v l)(a:J w w'):ib B w' v l:=
 ⟨c7 h.1 a,fun s b=>(h.2 s b).ae a⟩
theorem xG.ae{B w v l}{w':World}(h:xG B w v l)(a:J w w'):xG B w' v l:=
 ⟨c7 h.1 a,fun s b=>(h.2.1 s b).ae a,h.2.2⟩
theorem eE.cells{w}{g n cap:Nat}(h:eE w (.slice (some (H g)) n cap) s)(d:n=s.length)(i:Nat)(c:i<s.length):
  w.cell? (K g (i*2))=some (A s[i].1)/\w.cell? (K g (i*2+1))=some (A s[i].2):=by
 subst d;have a:=ir (f:=lO) (fun _=>rfl) h rfl i c 0 (by omega);have b:=ir (f:=lO) (fun _=>rfl) h rfl i c 1 (by omega);exact⟨a,b⟩
theorem k1.cells{w l}{g n cap:Nat}(h:k1 w (.slice (some (H g)) n cap) l)(b:n=l.length)(i:Nat)(a:i<l.length):
  w.cell? (K g (i*5))=some (A l[i].cQ.1)/\w.cell? (K g (i*5+1))=some (A l[i].cQ.2)/\w.cell? (K g (i*5+2))=some (A l[i].num)/\
   w.cell? (K g (i*5+3))=some (A l[i].obj.1)/\w.cell? (K g (i*5+4))=some (A l[i].obj.2):=by
 subst b;exact⟨ir (f:=pF) (fun _=>rfl) h rfl i a 0 (by omega),ir (f:=pF) (fun _=>rfl) h rfl i a 1 (by omega),ir (f:=pF) (fun _=>rfl) h rfl i a 2 (by omega),
  ir (f:=pF) (fun _=>rfl) h rfl i a 3 (by omega),ir (f:=pF) (fun _=>rfl) h rfl i a 4 (by omega)⟩
theorem ib.cells{w}{g n cap:Nat}(h:ib a w (.slice (some (H g)) n cap) c)(d:n=c.length)(i:Nat)(b:i<c.length):
  w.cell? (K g (i*4))=some (.string c[i].key)/\w.cell? (K g (i*4+1))=some (A c[i].id.1)/\w.cell? (K g (i*4+2))=some (A c[i].id.2)/\
   w.cell? (K g (i*4+3))=some c[i].fX:=by
 subst d;exact⟨ir (f:=iq) (fun _=>rfl) h.1 rfl i b 0 (by omega),ir (f:=iq) (fun _=>rfl) h.1 rfl i b 1 (by omega),ir (f:=iq) (fun _=>rfl) h.1 rfl i b 2 (by omega),
  ir (f:=iq) (fun _=>rfl) h.1 rfl i b 3 (by omega)⟩
theorem xG.cells{w l}{g n cap:Nat}(h:xG a w (.slice (some (H g)) n cap) l)(c:n=l.length)(i:Nat)(b:i<l.length):
  w.cell? (K g (i*4))=some (A l[i].id.1)/\w.cell? (K g (i*4+1))=some (A l[i].id.2)/\w.cell? (K g (i*4+2))=some (.bool l[i].list)/\
   w.cell? (K g (i*4+3))=some l[i].hr:=by
 subst c;exact⟨ir (f:=k0) (fun _=>rfl) h.1 rfl i b 0 (by omega),ir (f:=k0) (fun _=>rfl) h.1 rfl i b 1 (by omega),ir (f:=k0) (fun _=>rfl) h.1 rfl i b 2 (by omega),
  ir (f:=k0) (fun _=>rfl) h.1 rfl i b 3 (by omega)⟩
def eF (a b c d:Int):Bool:=decide (a=c/\b=d)
theorem CL{d:Int}:eF h k z d=true↔(h,k)=(z,d):=by simp[eF]
theorem yX{a:Int}:eF a h k z=false↔(a,h)≠(k,z):=by simp[eF]
theorem uZ(a b c d:Int)(W:World):(binOp .eql 36 (.agg #[A a,A b]) (.agg #[A c,A d])).run prog W=.ok (.bool (eF a b c d)) W:=by
 go_simp;unfold eF;by_cases e:a=c<;>by_cases f:b=d<;>simp[e,f]
def cM {α:Type} (p:α->Bool) (l:List α):Int:=match l.findIdx? p with |some i=>(i:Int)|none=> -1
theorem N7 {α:Type} {p:α->Bool} {l:List α} (c:a<l.length) (d:∀j (b:j<l.length),j<a->p l[j]=false) (e:p l[a]=true):cM p l=a:=by
 unfold cM;rw[arA.2 ⟨c,e,fun j b=>by simp[d j (by omega) b]⟩]
theorem G8 {α:Type} {p:α->Bool} {l:List α} (b:∀j (a:j<l.length),p l[j]=false):cM p l= -1:=by
 unfold cM;rw[ar1.2 (fun x c=>by obtain⟨j,a,rfl⟩:=aqv.1 c;exact b j a)]
theorem Kv {α:Type} {p:α->Bool} {l:List α} (f:a<l.length) (c:∀j (b:j<l.length),j<a->p l[j]=false) (d:p l[a]=false):∀j (b:j<l.length),j<a+1->p l[j]=false:=by
 intro j b g;by_cases e:j=a
 ·subst e;exact d
 exact c j b (by omega)
theorem abz(a b c d:Int)(w:World):
  O 158 #[.agg #[A a,A b],.agg #[A c,A d]] w fun e h=>
   e=.returned (.bool (decide (a<c\/(a=c/\b<d))))/\J w h:=by
 by_cases f:a<c
 ·go_enter func158,ntmps158;go_wp2;go_ret
  exact⟨mf (by simp[f]),((apY _ _).alloc (apX _) _).alloc (by simp) _⟩
 by_cases g:a=c
 ·subst g;go_enter func158,ntmps158;go_wp2;go_ret
  exact⟨mf (by simp),((apY _ _).alloc (apX _) _).alloc (by simp) _⟩
 go_enter func158,ntmps158;go_wp2;go_ret
 exact⟨mf (by simp[f,g]),((apY _ _).alloc (apX _) _).alloc (by simp) _⟩
def CM (x:PId) (y:PId):Bool:=eF y.1 y.2 x.1 x.2
theorem abA:decide (w∈s)=decide (0<=cM (CM w) s):=by
 by_cases h:w∈s
 ·obtain⟨j,b,e⟩:=aqv.1 h;have :∃i,s.findIdx? (CM w)=some i:=by
   cases a:s.findIdx? (CM w) with
   |some i=>exact⟨i,rfl⟩
   |none=>
    rw[ar1]at a;have :=a w h;simp[CM,eF]at this
  obtain⟨i,c⟩:=this;simp[h,cM,c]
 have :cM (CM w) s= -1:=G8 fun j b=>by
  unfold CM;rw[yX];intro e;exact h (by rw[show w=s[j] from e.symm];exact ap6 _)
 simp[h,this]
theorem TD(v:Value)(l:List PId)(b c:Int)(w:World)(h:eE w v l):
  O 237 #[v,.agg #[A b,A c]] w fun e r=>
   e=.returned (.bool (decide ((b,c)∈l)))/\J w r:=by
 obtain⟨a,y,rfl,z,s,m⟩:=bm h;unfold maxLen at s;rw[abA];have t:=aa (m);clear m;have u:=aa (h);clear h;go_enter func237,ntmps237;go_wp2;go_loopw [5] (fun i wr=>∃k:Nat,k<=l.length/\i=A k/\Hq (∀j (p:j<l.length),j<k->CM (b,c) l[j]=false)/\∃n,wr=(w.alloc (.cells #[A b,A c] 36)).drewN n) (fun i _=>l.length-(intOf i).toNat)
 case atStart=>exact⟨0,apZ _,rfl,fun _ _ h=>absurd h (aq7 _),0,rfl⟩
 case round=>
  obtain⟨k,B,rfl,f,n,rfl⟩:=hrel;by_cases d:k<l.length
  ·obtain⟨g,rfl⟩:=t.o k d;obtain⟨x,C⟩:=eE.cells u.o rfl k d;have heq:=uZ;have D:g<w.heap.size:=aqd w _ x;go_wp2;go_region
   cases q:eF l[k].1 l[k].2 b c
   ·go_wp2;go_roundw
    case rel=>exact⟨k+1,by omega,by go_num,Kv d f.o q,_,rfl⟩
    case measure=>simp[intOf];omega
   go_wp2;go_ret
   exact⟨mf (by rw[N7 d f.o q];simp),below_drewN ((apY _ _).alloc (apX _) _) _⟩
  go_wp2;go_ret
  exact⟨mf (by rw[G8 (fun j p=>f.o j p (by omega))];rfl),below_drewN ((apY _ _).alloc (apX _) _) _⟩
def lu (x:PId) (o:dE):Bool:=eF o.id.1 o.id.2 x.1 x.2
theorem CN(B f:Nat)(v:Value)(l:List dE)(b c:Int)(w:World)(s:w.cell? (H f)=some v)(h:xG B w v l):
  O 174 #[Z f,.agg #[A b,A c]] w fun e t=>
   e=.returned (A (cM (lu (b,c)) l))/\J w t:=by
 obtain⟨a,C,rfl,D,u,p⟩:=bm h.1;unfold maxLen at u;have E:f<w.heap.size:=aqd w _ s;have x:=aa (p);clear p;have y:=aa (h);clear h;go_enter func174,ntmps174;go_wp2;go_loopw [5] (fun i wr=>∃k:Nat,k<=l.length/\i=A k/\Hq (∀j (q:j<l.length),j<k->lu (b,c) l[j]=false)/\∃n,wr=(w.alloc (.cells #[A b,A c] 36)).drewN n) (fun i _=>l.length-(intOf i).toNat)
 case atStart=>exact⟨0,apZ _,rfl,fun _ _ h=>absurd h (aq7 _),0,rfl⟩
 case round=>
  obtain⟨k,F,rfl,m,n,rfl⟩:=hrel;by_cases d:k<l.length
  ·obtain⟨g,rfl⟩:=x.o k d;obtain⟨z,I,L,M⟩:=xG.cells y.o rfl k d;have heq:=uZ;have N:g<w.heap.size:=aqd w _ z;go_wp2;go_region
   cases r:eF l[k].id.1 l[k].id.2 b c
   ·go_wp2;go_roundw
    case rel=>exact⟨k+1,by omega,by go_num,Kv d m.o r,_,rfl⟩
    case measure=>simp[intOf];omega
   go_wp2;go_ret
   exact⟨Ku (by rw[N7 d m.o r]),below_drewN ((apY _ _).alloc (apX _) _) _⟩
  go_wp2;go_ret
  exact⟨Ku (by rw[G8 (fun j q=>m.o j q (by omega))]),below_drewN ((apY _ _).alloc (apX _) _) _⟩
def hC (key:ByteArray) (x:PId) (s:bD):Bool:=(s.key.toList==key.toList)&&eF s.id.1 s.id.2 x.1 x.2
theorem CP(B m p:Nat)(v:Value)(l:List bD)(key:ByteArray)(b c:Int)(w:World)(u:w.cell? (K m (p+3))=some v)(h:ib B w v l):
  O 172 #[.pointer (some (K m p)),.string key,.agg #[A b,A c]] w fun e x=>
   e=.returned (A (cM (hC key (b,c)) l))/\J w x:=by
 obtain⟨a,E,rfl,F,y,q⟩:=bm h.1;unfold maxLen at y;have I:m<w.heap.size:=aqd w _ u;have z:=aa (q);clear q;have C:=aa (h);clear h;go_enter func172,ntmps172;go_wp2;go_loopw [7] (fun i wr=>∃k:Nat,k<=l.length/\i=A k/\Hq (∀j (r:j<l.length),j<k->hC key (b,c) l[j]=false)/\∃n,wr=(w.alloc (.cells #[A b,A c] 36)).drewN n) (fun i _=>l.length-(intOf i).toNat)
 case atStart=>exact⟨0,apZ _,rfl,fun _ _ h=>absurd h (aq7 _),0,rfl⟩
 case round=>
  obtain⟨k,L,rfl,f,n,rfl⟩:=hrel;by_cases d:k<l.length
  ·obtain⟨g,rfl⟩:=z.o k d;obtain⟨D,M,N,P⟩:=ib.cells C.o rfl k d;have heq:=uZ;have Q:g<w.heap.size:=aqd w _ D;cases s:(l[k].key.toList==key.toList)
   ·go_wp2;go_region
    go_wp2;go_roundw
    case rel=>exact⟨k+1,by omega,by go_num,Kv d f.o (by simp[hC,s]),_,rfl⟩
    case measure=>simp[intOf];omega
   cases t:eF l[k].id.1 l[k].id.2 b c
   ·go_wp2;go_region
    go_wp2;go_roundw
    case rel=>exact⟨k+1,by omega,by go_num,Kv d f.o (by simp[hC,t]),_,rfl⟩
    case measure=>simp[intOf];omega
   go_wp2;go_region
   go_wp2;go_ret
   exact⟨Ku (by rw[N7 d f.o (by simp[hC,s,t])]),below_drewN ((apY _ _).alloc (apX _) _) _⟩
  go_wp2;go_ret
  exact⟨Ku (by rw[G8 (fun j r=>f.o j r (by omega))]),below_drewN ((apY _ _).alloc (apX _) _) _⟩
theorem abB(b:a<d.size)(c:a<y.size)(h:d[a]=y[a]):
  Op.bytesLess (d.data.toList.drop a) (y.data.toList.drop a)=Op.bytesLess (d.data.toList.drop (a+1)) (y.data.toList.drop (a+1)):=by
 have f:a<d.data.toList.length:=by simpa using b
 have g:a<y.data.toList.length:=by simpa using c
 rw[arP f,arP g];have e:d.data.toList[a]=y.data.toList[a]:=h;simp[Op.bytesLess,e]
theorem abC(b:a<d.size)(c:a<y.size)(h:d[a]≠y[a]):
  Op.bytesLess (d.data.toList.drop a) (y.data.toList.drop a)=decide ((d[a].toNat:Int)<y[a].toNat):=by
 have f:a<d.data.toList.length:=by simpa using b
 have g:a<y.data.toList.length:=by simpa using c
 rw[arP f,arP g];have e:d.data.toList[a]≠y.data.toList[a]:=h;have i:d.data.toList[a]=d[a]:=rfl;have j:y.data.toList[a]=y[a]:=rfl;simp[Op.bytesLess,i,j,h,UInt8.lt_iff_toNat_lt]
theorem TE(h:y.size<=a\/d.size<=a)(c:a<=y.size)(e:a<=d.size):
  Op.bytesLess (y.data.toList.drop a) (d.data.toList.drop a)=decide ((y.size:Int)<d.size):=by
 rcases h with h|h
 ·have :y.data.toList.drop a=[]:=asl (by simpa using h);rw[this];by_cases b:a<d.size
  ·rw[arP (by simpa using b)];simp[Op.bytesLess];omega
  have :d.data.toList.drop a=[]:=asl (by simp;omega);rw[this];simp[Op.bytesLess];omega
 have :d.data.toList.drop a=[]:=asl (by simpa using h);rw[this];simp[Op.bytesLess];omega
def hD (a b:ByteArray):Bool:=Op.bytesLess a.data.toList b.data.toList
theorem TF(a b:ByteArray)(w:World)(p:a.size<=maxLen)(q:b.size<=maxLen):
  O 193 #[.string a,.string b] w fun e r=>e=.returned (.bool (hD a b))/\∃n,r=w.drewN n:=by
 unfold maxLen at p q;go_enter func193,ntmps193;go_wp2;go_loopw [5] (fun i wr=>∃k:Nat,k<=a.size/\k<=b.size/\i=A k/\Hq (hD a b=Op.bytesLess (a.data.toList.drop k) (b.data.toList.drop k))/\∃n,wr=w.drewN n) (fun i _=>a.size-(intOf i).toNat)
 case atStart=>exact⟨0,apZ _,apZ _,rfl,rfl,0,rfl⟩
 case round=>
  obtain⟨k,g,j,rfl,d,n,rfl⟩:=hrel;by_cases l:k<a.size
  ·by_cases m:k<b.size
   ·by_cases c:a[k]=b[k]
    ·have s:(a[k].toNat:Int)=b[k].toNat:=by rw[c]
     have f:=aa (abB l m c);clear c;go_wp2;go_region
     go_wp2;go_roundw
     case rel=>exact⟨k+1,by omega,by omega,by go_num,d.o.trans f.o,_,rfl⟩
     case measure=>simp[intOf];omega
    have s:¬(a[k].toNat:Int)=b[k].toNat:=by
     intro e;apply c;exact UInt8.toNat_inj.1 (by omega)
    have f:=aa (abC l m c);clear c;go_wp2;go_region
    go_wp2;go_region
    go_wp2;go_ret
    exact⟨mf (by rw[d.o,f.o];simp),_,rfl⟩
   go_wp2;go_ret
   exact⟨mf (by rw[d.o,TE (.inr (by omega)) g j];simp),_,rfl⟩
  go_wp2;go_ret
  exact⟨mf (by rw[d.o,TE (.inl (by omega)) g j];simp),_,rfl⟩
theorem Kw {α:Type} (f:α->List Value) (size bytes:Nat) (t e:TypeId) (z:Value) (m:(prog.info? e).map (fun i=>(i.zero,i.size,i.bytes))=some (some z,size,bytes))
  (o:prog.underlying t=some (.slice e)) (p:z.cells.size=size) (w:0<size) (C:∀x,(f x).length=size)
  {rest:List Oper} (D:u.guard=none) (s x:Operand)
  (E:u.op=.call {callee:=.builtin .append,args:= #[s,x],argTypes:= #[t,t]}) (B:Nat) (v:Value) (l:List α) (F:n.eval s=v)
  (I:b.ownsRow B e size v l.length (l.flatMap f)) (g c:Nat) (y:α) (L:n.eval x=.slice (some (H g)) 1 c)
  (M:∀j a,(f y)[j]?=some a->b.cell? (K g j)=some a) (N:∀a∈f y,a.oneCell'=true) (Q:(l.length+1)*bytes<=140737488355328) (p9:l.length<maxLen) (R:B<=b.heap.size)
  (h:∀k d,d.ownsRow B e size k (l.length+1) ((l++[y]).flatMap f)->b.grownBy d v.ownBlock->wpList prog q r rest (n.put u.dst k) d):wpList prog q r (u::rest) n b:=by
 obtain⟨i,S,U,W,X⟩:=info_parts m;refine wpList_append_own (P:=prog) b D s x t E B e i z size bytes o S U W X p w v l.length (l.flatMap f) F I (H g) 1 c (f y) L (by rw[C];simp) ?_ N (by omega) Q R ?_
 ·intro j a Y;have :((H g):Addr).add j=(K g j):=by unfold Addr.add;split <;>simp_all
  rw[this];exact M j a Y
 intro k d h2 al _;exact h k d (by simpa using h2) al
theorem Kx:∀u∈lO (h,k),u.oneCell'=true:=by
 intro u a;simp[lO]at a;rcases a with rfl|rfl<;>rfl
theorem Ky{x1 x2:Int}(d:b.cell? (H a)=some (A x1))(e:b.cell? (K a 1)=some (A x2)):
  ∀j u,(lO (x1,x2))[j]?=some u->b.cell? (K a j)=some u:=by
 intro j u c
 match j with
 |0=>simp[lO]at c;rw[<-c];exact d
 |1=>simp[lO]at c;rw[<-c];exact e
 |j+2=>simp[lO]at c
def gA (B:Nat) (w:World) (v:Value) (l:List PId):Prop:=w.ownsRow B 36 2 v l.length (l.flatMap lO)
theorem gA.ids{v}(h:gA a b v s):eE b v s:=gT h (apZ _)
theorem gA.alloc{B w v l}(h:gA B w v l)(o:Obj):gA B (w.alloc o) v l:=arj h o
theorem gA.below(h:gA a b e s)(c:Below a l b)(d:a<=b.heap.size)(f:b.grownBy B e.ownBlock):Below a l B:=
 c.grown f d fun k g=>(ap1 h k g).1
theorem EY {α β:Type} (f:α->β) {l:List α} (h:a<l.length):(l.take (a+1)).map f=(l.take a).map f++[f l[a]]:=by
 rw[aqp h,aqi];rfl
theorem N8{rest:List Oper}(i:u.guard=none)(s x:Operand)(j:u.op=.call {callee:=.builtin .append,args:= #[s,x],argTypes:= #[65,65]})(B:Nat)(v:Value)(l:List PId)(k:n.eval s=v)(m:gA B b v l)(g c:Nat)(e f:Int)(o:n.eval x=.slice (some (H g)) 1 c)(p:b.cell? (H g)=some (A e))(t:b.cell? (K g 1)=some (A f))(C:l.length<1000000000000)(w:B<=b.heap.size)(h:∀d a,gA B a d (l++[(e,f)])->b.grownBy a v.ownBlock->wpList prog q r rest (n.put u.dst d) a):wpList prog q r (u::rest) n b:=
 Kw lO 2 16 65 36 (.agg #[A 0,A 0]) (by kernel_rfl) underlying65 rfl (by omega) (fun _=>rfl) i s x j B v l k m g c (e,f) o
  (Ky p t) Kx (by omega) (by unfold maxLen;omega) w (fun d a y z=>h d a (by unfold gA;simpa using y) z)
theorem Kz(v:Value)(l:List cP)(w:World)(h:k1 w v l)(z:l.length<1000000):
  O 146 #[v] w fun e f=>
   ∃u,e=.returned u/\gA w.heap.size f u (l.map (·.cQ))/\J w f:=by
 obtain⟨a,B,rfl,C,r,j⟩:=bm h;unfold maxLen at r;have s:=aa (j);clear j;have t:=aa (h);clear h;go_enter func146,ntmps146;go_wp2;go_loopw [3,4] (fun u i wr=>∃k:Nat,k<=l.length/\i=A k/\gA w.heap.size wr u ((l.take k).map (·.cQ))/\J w wr) (fun _ i _=>l.length-(intOf i).toNat)
 case atStart=>exact⟨0,apZ _,rfl,aqe _ _ _ _,apY _ _⟩
 case round=>
  obtain⟨k,D,rfl,c,b⟩:=hrel;by_cases d:k<l.length
  ·obtain⟨g,rfl⟩:=s.o k d;obtain⟨m,h1,h2,al,aL⟩:=k1.cells t.o rfl k d;replace m:=ae b m;replace h1:=ae b h1;clear h2 al aL;have n:=aa (c);clear c;go_wp2_with (at_builtin;go_must (refine N8 rfl (.tmp 11) (.tmp 17) rfl w.heap.size _ ((l.take k).map (·.cQ)) rfl ?h1 wr.heap.size 1 l[k].cQ.1 l[k].cQ.2 rfl ?h2 ?al ?aL ?b1 ?_;(case h1=>exact n.o.alloc _);(case h2=>simp[go_sem]);(case al=>simp[go_sem]);(case aL=>simp;omega);(case b1=>have :=b.size;simp;omega);intro E F p q;have x:=aa (q);clear q;have y:=aa (p);clear p))
   go_roundw
   case rel=>exact⟨k+1,by omega,by go_num,by rw[EY _ d];exact y.o,gA.below (n.o.alloc _) (b.alloc b.size _) (by have :=b.size;simp;omega) x.o⟩
   case measure=>simp[intOf];omega
  go_wp2;go_ret
  refine⟨_,rfl,?_,b⟩;rw[aql (by omega)]at c;exact c
def jI (l:List bD):List PId:=(l.filter fun s=>decide (0<s.ad.length)).map (·.id)
theorem abD(h:a<c.length)(b:0<c[a].ad.length):jI (c.take (a+1))=jI (c.take a)++[c[a].id]:=by
 unfold jI;rw[aqp h,arq];simp[b]
theorem abE(h:a<c.length)(b:c[a].ad.length=0):jI (c.take (a+1))=jI (c.take a):=by
 unfold jI;rw[aqp h,arq];simp[b]
theorem G9(l:List bD)(k:Nat):(jI (l.take k)).length<=k:=by
 unfold jI;rw[ap2];exact ap0 (aqR _ _) (List.length_take_le _ _)
theorem KA(B n p:Nat)(v:Value)(l:List bD)(w:World)(f:w.cell? (K n (p+3))=some v)(h:ib B w v l)(L:l.length<1000000):
  O 149 #[.pointer (some (K n p))] w fun e q=>
   ∃u,e=.returned u/\gA w.heap.size q u (jI l)/\J w q:=by
 obtain⟨a,M,rfl,N,y,r⟩:=bm h.1;unfold maxLen at y;have z:=aa (r);clear r;have s:=aa (h);clear h;have C:=aa (f);clear f;go_enter func149,ntmps149;go_wp2;go_loopw [3,4] (fun u i wr=>∃k:Nat,k<=l.length/\i=A k/\gA w.heap.size wr u (jI (l.take k))/\J w wr) (fun _ i _=>l.length-(intOf i).toNat)
 case atStart=>exact⟨0,apZ _,rfl,aqe _ _ _ _,apY _ _⟩
 case round=>
  obtain⟨k,P,rfl,c,b⟩:=hrel;have f:=ae b C.o;by_cases d:k<l.length
  ·obtain⟨g,rfl⟩:=z.o k d;obtain⟨Q,h1,h2,al⟩:=ib.cells s.o rfl k d;obtain⟨R,S,j,U,D,_⟩:=bm (s.o.2 l[k] (ap6 _));unfold maxLen at D;rw[j]at al;replace h1:=ae b h1;replace h2:=ae b h2;replace al:=ae b al;have W:=G9 l k;have m:=aa (c);clear c;have X:=aa (j);clear j;by_cases E:0<l[k].ad.length
   ·go_wp2_with (at_builtin;go_must (refine N8 rfl (.tmp 24) (.tmp 33) rfl w.heap.size _ (jI (l.take k)) rfl ?h1 wr.heap.size 1 l[k].id.1 l[k].id.2 rfl ?h2 ?al ?aL ?b1 ?_;(case h1=>exact m.o.alloc _);(case h2=>simp[go_sem]);(case al=>simp[go_sem]);(case aL=>omega);(case b1=>have :=b.size;simp;omega);intro Y w1 t x;have F:=aa (x);clear x;have I:=aa (t);clear t))
    go_roundw
    case rel=>exact⟨k+1,by omega,by go_num,by rw[abD d E];exact I.o,gA.below (m.o.alloc _) (b.alloc b.size _) (by have :=b.size;simp;omega) F.o⟩
    case measure=>simp[intOf];omega
   go_wp2;go_roundw
   case rel=>exact⟨k+1,by omega,by go_num,by rw[abE d (by omega)];exact m.o,b⟩
   case measure=>simp[intOf];omega
  go_wp2;go_ret
  refine⟨_,rfl,?_,b⟩;rw[aql (by omega)]at c;exact c
def letters (s:List UInt8):Bool:=s.all fun c=>97<=c&&c<=122
def kr (s:ByteArray):Bool:=letters s.data.toList&&decide (0<s.size/\s.size<=4)
theorem TH(h:a<d.size)(b:letters (d.data.toList.take a)=true)(f:(97:Int)<=d[a].toNat)(g:(d[a].toNat:Int)<=122):letters (d.data.toList.take (a+1))=true:=by
 have c:a<d.data.toList.length:=by simpa using h
 unfold letters at *;rw[aqp c,List.all_append,b];have e:d.data.toList[a]=d[a]:=rfl;simp[e,UInt8.le_iff_toNat_le];omega
theorem KB(h:a<d.size)(b:¬((97:Int)<=d[a].toNat/\(d[a].toNat:Int)<=122)):kr d=false:=by
 have c:a<d.data.toList.length:=by simpa using h
 have :letters d.data.toList=false:=by
  unfold letters;rw[List.all_eq_false];refine⟨d.data.toList[a],ap6 _,?_⟩;have e:d.data.toList[a]=d[a]:=rfl;simp[e,UInt8.le_iff_toNat_le];omega
 simp[kr,this]
theorem abF(s:ByteArray)(w:World)(j:s.size<=maxLen):
  O 171 #[.string s] w fun e l=>e=.returned (.bool (kr s))/\l=w:=by
 unfold maxLen at j;go_enter func171,ntmps171;go_wp2;go_loop [3] (fun i=>∃k:Nat,k<=s.size/\i=A k/\Hq (letters (s.data.toList.take k)=true)) (fun i=>s.size-(intOf i).toNat)
 case atStart=>exact⟨0,apZ _,rfl,rfl⟩
 case round=>
  obtain⟨k,m,rfl,c⟩:=hrel;by_cases b:k<s.size
  ·by_cases d:(97:Int)<=s[k].toNat
   ·by_cases f:(s[k].toNat:Int)<=122
    ·have a:=aa (TH b c.o d f);go_wp2;go_round
     case rel=>exact⟨k+1,by omega,by go_num,a⟩
     case measure=>simp[intOf];omega
    have a:Hq _:=KB b (fun h=>f h.2);go_wp2;go_ret
    exact⟨mf a.o.symm,rfl⟩
   have a:Hq _:=KB b (fun h=>d h.1);go_wp2;go_ret
   exact⟨mf a.o.symm,rfl⟩
  have e:letters s.data.toList=true:=by
   have :=c.o;rwa [aql (by simp;omega)]at this
  have a:Hq (kr s=decide (0<s.size/\s.size<=4)):=by unfold kr;rw[e];rfl
  clear e;by_cases g:0<s.size
  ·go_wp2;go_ret
   exact⟨mf (by rw[a.o];simp[g];omega),rfl⟩
  go_wp2;go_ret
  exact⟨mf (by rw[a.o];simp[g]),rfl⟩
def Oa (b:ByteArray) (a:List bD) (r:Int):Prop:=
 (r= -1/\∀j (c:j<a.length),hD b a[j].key=false)\/
 ∃i,∃d:i<a.length,r=(i:Int)/\hD b a[i].key=true/\∀j (c:j<a.length),hD b a[j].key=true->hD a[j].key a[i].key=false
def qa (b:ByteArray) (a:List bD) (k:Nat) (r:Int):Prop:=
 (r= -1/\∀j (c:j<a.length),j<k->hD b a[j].key=false)\/
 ∃i,∃d:i<a.length,i<k/\r=(i:Int)/\hD b a[i].key=true/\∀j (c:j<a.length),j<k->hD b a[j].key=true->hD a[j].key a[i].key=false
theorem qa.all(a:qa d c c.length h):Oa d c h:=by
 rcases a with⟨e,f⟩|⟨i,g,_,e,f,k⟩
 ·exact .inl ⟨e,fun j b=>f j b b⟩
 exact .inr ⟨i,g,e,f,fun j b=>k j b b⟩
theorem Ob(l:List UInt8):Op.bytesLess l l=false:=by
 induction l with
 |nil=>rfl
 |cons a l ih=>simp[Op.bytesLess,ih,UInt8.lt_iff_toNat_lt]
theorem qa.no(q:a<c.length)(b:qa d c a h)(m:hD d c[a].key=false):qa d c (a+1) h:=by
 rcases b with⟨f,g⟩|⟨i,n,r,f,g,o⟩
 ·refine .inl ⟨f,fun j k p=> ?_⟩;by_cases e:j=a
  ·subst e;exact m
  exact g j k (by omega)
 refine .inr ⟨i,n,by omega,f,g,fun j k p l=> ?_⟩;by_cases e:j=a
 ·subst e;rw[m]at l;cases l
 exact o j k (by omega) l
theorem qa.first{k:Nat}(b:k<c.length)(h:qa d c k (-1))(f:hD d c[k].key=true):qa d c (k+1) k:=by
 rcases h with⟨_,g⟩|⟨i,m,n,o,_⟩
 ·refine .inr ⟨k,b,by omega,rfl,f,fun j l p a=> ?_⟩;by_cases e:j=k
  ·subst e;exact Ob _
  rw[g j l (by omega)]at a;cases a
 omega
theorem Oc:∀(a b c:List UInt8),Op.bytesLess a b=true->Op.bytesLess b c=true->Op.bytesLess a c=true
 |_,_,[],_,h=>by simp[Op.bytesLess]at h
 |[],_,_::_,_,_=>by simp[Op.bytesLess]
 |_::_,[],_::_,h,_=>by simp[Op.bytesLess]at h
 |x::a,y::b,z::c,e,d=>by
  simp[Op.bytesLess,UInt8.lt_iff_toNat_lt]at e d⊢;rcases e with e|⟨rfl,e⟩
  ·rcases d with d|⟨rfl,d⟩
   ·left;omega
   left;exact e
  rcases d with d|⟨rfl,d⟩
  ·left;exact d
  right;exact⟨rfl,Oc a b c e d⟩
theorem qa.better(b:a<c.length)(q:f<c.length)(h:qa d c a f)(g:hD d c[a].key=true)(k:hD c[a].key c[f].key=true):qa d c (a+1) a:=by
 rcases h with⟨l,_⟩|⟨i,r,s,l,t,m⟩
 ·omega
 have :f=i:=by omega
 subst this;refine .inr ⟨a,b,by omega,rfl,g,fun j n u o=> ?_⟩;by_cases e:j=a
 ·subst e;exact Ob _
 have :=m j n (by omega) o;cases p:hD c[j].key c[a].key
 ·rfl
 have :=Oc _ _ _ p k;unfold hD at *;simp_all
theorem qa.Od(p:f<c.length)(b:a<c.length)(h:qa d c f a)(g:hD c[f].key c[a].key=false):qa d c (f+1) a:=by
 rcases h with⟨k,_⟩|⟨i,q,r,k,l,m⟩
 ·omega
 have :a=i:=by omega
 subst this;refine .inr ⟨a,b,by omega,rfl,l,fun j n s o=> ?_⟩;by_cases e:j=f
 ·subst e;exact g
 exact m j n (by omega) o
theorem qa.shape(b:qa d c a h):h= -1\/∃m:Nat,∃_:m<c.length,h=(m:Int):=by
 rcases b with⟨e,_⟩|⟨i,f,_,e,_⟩
 ·exact .inl e
 exact .inr ⟨i,f,e⟩
theorem abG{P:Program}{d:FuncId}{args:Array Value}(h:Calls P d args (b.drewN (a+f)) fun c g=>c=.returned e/\∃m,g=(b.drewN (a+f)).drewN m):Calls P d args (b.drewN (a+f)) fun c i=>c=.returned e/\∃m,i=b.drewN (a+m):=
 h.mono fun _ _ ⟨j,m,k⟩=>⟨j,f+m,by rw[k,World.drewN_drewN,Nat.add_assoc]⟩
theorem abH(B u x:Nat)(v:Value)(l:List bD)(c:ByteArray)(w:World)(ah:w.cell? (K u (x+3))=some v)(h:ib B w v l)(y:∀s∈l,s.key.size<=maxLen)(L:c.size<=maxLen):
  O 176 #[.pointer (some (K u x)),.string c] w fun e j=>
   ∃r,e=.returned (A r)/\Oa c l r/\∃n,j=w.drewN n:=by
 obtain⟨a,cap,rfl,jq,M,z⟩:=bm h.1;unfold maxLen at M;have N:=aa (z);clear z;have C:=aa (h);clear h;have D:=aa (y);clear y;go_enter func176,ntmps176;go_wp2;go_loopw [5,6] (fun b i wr=>∃k:Nat,∃r:Int,k<=l.length/\i=A k/\b=A r/\qa c l k r/\∃n,wr=w.drewN n) (fun _ i _=>l.length-(intOf i).toNat)
 case atStart=>exact⟨0,-1,apZ _,rfl,rfl,.inl ⟨rfl,fun _ _ h=>absurd h (aq7 _)⟩,0,rfl⟩
 case round=>
  obtain⟨k,r,hk,rfl,rfl,d,n,rfl⟩:=hrel;by_cases f:k<l.length
  ·obtain⟨g,rfl⟩:=N.o k f;obtain⟨h0,P,Q,R⟩:=ib.cells C.o rfl k f;have E:=D.o l[k] (ap6 _);clear P Q R;have p:=fun W=>TF c l[k].key W L E
   cases q:hD c l[k].key
   ·go_wp2_with (go_at_call 193;refine(p _).mono ?_;rintro e j ⟨rfl,F,rfl⟩)
    go_roundw
    case rel=>exact⟨k+1,r,by omega,by go_num,rfl,d.no f q,_,rfl⟩
    case measure=>simp[intOf];omega
   rcases d.shape with rfl|⟨m,t,rfl⟩
   ·go_wp2_with (go_at_call 193;refine(p _).mono ?_;rintro e j ⟨rfl,F,rfl⟩)
    go_roundw
    case rel=>exact⟨k+1,k,by omega,by go_num,rfl,d.first f q,_,rfl⟩
    case measure=>simp[intOf];omega
   obtain⟨m0,S,U,X⟩:=ib.cells C.o rfl m t;have Y:=D.o l[m] (ap6 _);clear S U X;have aK:=fun W=>TF l[k].key l[m].key W E Y
   have EZ:¬(m:Int)<0:=by omega
   go_wp2_with (go_at_call 193;refine(p _).mono ?_;rintro e j ⟨rfl,F,rfl⟩)
   go_quiet ((go_at_call 193;exact abG (aK _)))
   cases I:hD l[k].key l[m].key
   ·go_wp2;go_roundw
    case rel=>exact⟨k+1,m,by omega,by go_num,rfl,d.Od f t I,_,rfl⟩
    case measure=>simp[intOf];omega
   go_wp2;go_roundw
   case rel=>exact⟨k+1,k,by omega,by go_num,rfl,d.better f t q I,_,rfl⟩
   case measure=>simp[intOf];omega
  go_wp2;go_ret
  exact⟨r,rfl,(by have e:k=l.length:=(by omega);subst e;exact d.all),_,rfl⟩
def rF {α:Type} (w:World) (f:α->List Value) (x:Value) (l:List α):Prop:=
 (x=.slice none 0 0/\l=[])\/∃a c,x=.slice (some a) l.length c/\∀j u,(l.flatMap f)[j]?=some u->w.cell? (a.add j)=some u
theorem Ha {α:Type} (f:α->List Value) (size bytes:Nat) (t e:TypeId) (z:Value) (E:(prog.info? e).map (fun i=>(i.zero,i.size,i.bytes))=some (some z,size,bytes))
  (m:prog.underlying t=some (.slice e)) (F:z.cells.size=size) (I:0<size) (L:∀x,(f x).length=size)
  {rest:List Oper} (o:u.guard=none) (s x:Operand)
  (p:u.op=.call {callee:=.builtin .append,args:= #[s,x],argTypes:= #[t,t]}) (B:Nat) (v:Value) (l d:List α) (w:n.eval s=v)
  (k:b.ownsRow B e size v l.length (l.flatMap f)) (y:Value) (C:n.eval x=y) (M:rF b f y d) (N:∀a∈d.flatMap f,a.oneCell'=true)
  (Q:(l.length+d.length)*bytes<=140737488355328) (R:l.length+d.length<=maxLen) (S:B<=b.heap.size)
  (h:∀j g,g.ownsRow B e size j (l.length+d.length) ((l++d).flatMap f)->b.grownBy g v.ownBlock->wpList prog q r rest (n.put u.dst j) g):wpList prog q r (u::rest) n b:=by
 obtain⟨i,D,U,W,X⟩:=info_parts E;rcases M with⟨rfl,rfl⟩|⟨Y,c,rfl,hc⟩
 ·refine wpList_plain o fun _ ck=> ?_
  have aH:=run_append_owned_none (P:=prog) b B t u.type e i size m D v l.length _ k;unfold Oper.wp execOp;simp only[p,resolve,invoke,builtin,aqt,aq4,aqz,arQ,aqj,aqY,w,C,aH];exact ck _ _ (h v b (by simpa using k) (World.grownBy.refl b _))
 refine wpList_append_own (P:=prog) b o s x t p B e i z size bytes m D U W X F I v l.length (l.flatMap f) w k Y d.length c (d.flatMap f) C (qS f size L d) hc N R Q S ?_;intro j g h2 al _;exact h j g (by simpa using h2) al
theorem KE(h:ib a b e c):∀u∈c.flatMap iq,u.oneCell'=true:=by
 intro u g;obtain⟨s,i,g⟩:=aqq.1 g;obtain⟨d,f,j,_⟩:=bm (h.2 s i);simp[iq]at g;rcases g with rfl|rfl|rfl|rfl
 ·rfl
 ·rfl
 ·rfl
 rw[j];rfl
def jd (key:ByteArray) (x:PId):bD:=⟨key,x,.slice none 0 0,[]⟩
def k2 (B:Nat) (w:World) (v:Value) (l:List bD):Prop:=w.ownsRow B 269 4 v l.length (l.flatMap iq)
theorem k2.alloc{B w v l}(h:k2 B w v l)(o:Obj):k2 B (w.alloc o) v l:=arj h o
theorem E0{rest:List Oper}(g:u.guard=none)(s x:Operand)(i:u.op=.call {callee:=.builtin .append,args:= #[s,x],argTypes:= #[270,270]})(B:Nat)(v:Value)(l c:List bD)(j:n.eval s=v)(k:k2 B b v l)(f:Value)(m:n.eval x=f)(o:rF b iq f c)(p:∀a∈c.flatMap iq,a.oneCell'=true)(z:l.length+c.length<10000000)(t:B<=b.heap.size)(h:∀e d,k2 B d e (l++c)->b.grownBy d v.ownBlock->wpList prog q r rest (n.put u.dst e) d):wpList prog q r (u::rest) n b:=
 Ha iq 4 56 270 269 (.agg #[.string ⟨#[]⟩,A 0,A 0,.slice none 0 0]) (by kernel_rfl) underlying270 rfl (by omega) (fun _=>rfl)
  g s x i B v l c j k f m o p (by omega) (by unfold maxLen;omega) t (fun e d w y=>h e d (by unfold k2;simpa using w) y)
theorem Hc {α:Type} {d:α->List Value} {e:Option Addr} {l:List α} (h:b.ownsRow m i a (.slice e f C) f (l.flatMap d)) (p:∀x,(d x).length=a) (t:f=l.length)
  (k:Nat) (o:k<=f) (c:Nat) (v:k=0->e=none->c=0):rF b d (.slice e k c) (l.take k):=by
 subst t;rcases h.2 with⟨n,B⟩|⟨g,D,E,n,F,I,L,M,N,P⟩
 ·injection n with n w q;subst n;have :k=0:=by omega
  subst this;exact .inl ⟨by rw[v rfl rfl],by simp⟩
 injection n with n w q;subst n;subst q;refine .inr ⟨(H g),c,by rw[aqg,arH o],fun j u r=> ?_⟩;have y:(((H g):Addr).add j)=(K g j):=by unfold Addr.add;split <;>simp_all
 rw[y];have s:j<k*a:=by
  have :=(arB.1 r).1;rw[qS d a p,aqg,arH o]at this;exact this
 have z:j<l.length*a:=ap3 s (aqV _ o);rw[h.cellAt j z];have i:l.flatMap d=(l.take k).flatMap d++(l.drop k).flatMap d:=by rw[<-aqG,arI]
 rw[i,arY (by rw[qS d a p,aqg,arH o];exact s)];exact r
theorem TI {α:Type} {c:α->List Value} {d:Option Addr} {l:List α} (h:b.ownsRow C i a (.slice d f m) f (l.flatMap c)) (q:∀x,(c x).length=a) (w:f=l.length)
  (e:Nat) (y:e<=f) (r:Option Addr) (k:r=if m=e then d else d.map (·.add (e*a))):rF b c (.slice r (f-e) (m-e)) (l.drop e):=by
 subst w;rcases h.2 with⟨n,s⟩|⟨g,F,I,n,L,M,N,P,Q,R⟩
 ·injection n with n z p;subst n;subst p;have :e=0:=by omega
  subst this;simp at k;subst k;exact .inl ⟨by rw[s],by simpa using s⟩
 injection n with n z p;subst n;subst p;by_cases t:m=e
 ·rw[if_pos t]at k;subst k;have :l.drop e=[]:=asl (by omega);refine .inr ⟨(H g),_,by rw[aqA],fun j u o=> ?_⟩;rw[this]at o;simp at o
 rw[if_neg t]at k;simp at k;subst k;refine .inr ⟨_,_,by rw[aqA],fun j u o=> ?_⟩;have B:((((H g):Addr).add (e*a)).add j)=(K g (e*a+j)):=by
  unfold Addr.add;split <;>split <;>simp_all
 rw[B];have D:j<(l.length-e)*a:=by
  have :=(arB.1 o).1;rw[qS c a q,aqA]at this;exact this
 have E:e*a+j<l.length*a:=by rw[Nat.sub_mul]at D;omega
 rw[h.cellAt _ E];have i:l.flatMap c=(l.take e).flatMap c++(l.drop e).flatMap c:=by rw[<-aqG,arI]
 have v:((l.take e).flatMap c).length=e*a:=by rw[qS c a q,aqg,arH y]
 rw[i,arZ (by rw[v];omega),v];rw[Nat.add_sub_cancel_left];exact o
theorem AO(a b c d:Int)(W:World):(binOp .neq 36 (.agg #[A a,A b]) (.agg #[A c,A d])).run prog W=.ok (.bool (!eF a b c d)) W:=by
 go_simp;unfold eF;by_cases e:a=c<;>by_cases f:b=d<;>simp[e,f]
structure nj (B:Nat) (w w':World) (go cd:Nat) (cm:Array Value) (v:Value) (l':List bD):Prop where
 ex:∃v',ib B w' v' l'/\w'.heap[go]?=some (.cells (cm.setIfInBounds (cd+3) v') 272 (0,0))/\(v'.ownBlock=v.ownBlock\/∀k,v'.ownBlock=some k->w.heap.size<=k)
 os:w'.os=w.os
 tape:w'.tape=w.tape
 output:w'.output=w.output
 size:w.heap.size<=w'.heap.size
 other:∀k,k<w.heap.size->k≠go->some k≠v.ownBlock->w'.heap[k]?=w.heap[k]?
theorem TL(h:v[a]?=some e):v.setIfInBounds a e=v:=by
 apply Array.ext_getElem?;intro j;rw[arJ];split
 ·rename_i b;subst b;split
  ·exact h.symm
  rename_i c;rw[Array.getElem?_eq_none (by omega)]
 rfl
theorem nj.same{l}{w w':World}(c:w.heap[a]?=some (.cells v 272 (0,0)))(d:v[m+3]?=some e)(h:ib f w e l)(b:J w w'):nj f w w' a m v e l:=
 ⟨⟨e,h.ae b,by rw[TL d,b.block a (ap8.1 c).1];exact c,.inl rfl⟩,b.os,b.tape,b.output,b.size,fun k g _ _=>b.block k g⟩
theorem nj.stored{v'}(u:l.heap[a]?=some (.cells v 272 (0,0)))(i:J l b)(x:m<=l.heap.size)(o:k2 l.heap.size b v' c)(y:∀s∈c,k1 b s.fX s.ad):
  nj m l (b.setCell (K a (f+3)) v') a f v e c:=by
 have z:a<l.heap.size:=(ap8.1 u).1;have w:b.heap[a]?=some (.cells v 272 (0,0)):=by rw[i.block a z];exact u
 have p:∀k,k≠a->(b.setCell (K a (f+3)) v').heap[k]?=b.heap[k]?:=fun k j=>aqr _ _ _ _ j
 refine⟨⟨v',⟨?_,?_⟩,?_,.inr fun k j=>(ap1 o k j).1⟩,i.os,i.tape,i.output,by simpa[World.setCell]using i.size,fun k j n _=>by rw[p k n,i.block k j]⟩
 ·refine⟨o.1,?_⟩;rcases o.2 with q|⟨g,r,t,rfl,n,h,rest⟩
  ·exact .inl q
  exact .inr ⟨g,r,t,rfl,ap0 x n,by rw[p g (by omega)];exact h,rest⟩
 ·intro s B;have :=y s B;refine⟨this.1,?_⟩;rcases this.2 with q|⟨g,r,t,d,n,h,rest⟩
  ·exact .inl q
  refine .inr ⟨g,r,t,d,n,?_,rest⟩;have :g≠a:=by
   intro d;subst d;rw[w]at h;injection h with h;injection h with _ h _;exact absurd h (by decide)
  rw[p g this];exact h
 simp[World.setCell,ars,w]
def rG (l:List bD) (n:Nat) (s:bD):List bD:=l.take n++s::l.drop n
theorem KF(l:List bD)(n:Nat)(s:bD):l.take n++[s]++l.drop n=rG l n s:=by simp[rG]
theorem TM{f:List bD}(h:k2 a b e c)(d:c=f):k2 a b e f:=d▸h
def wo (l:List bD) (b x:PId):List bD:=
 if eF b.1 b.2 0 0 then rG l 0 (jd ⟨#[]⟩ x)
 else if cM (hC ⟨#[]⟩ b) l<0 then l
 else rG l ((cM (hC ⟨#[]⟩ b) l).toNat+1) (jd ⟨#[]⟩ x)
theorem yY {α:Type} (p:α->Bool) (l:List α):cM p l<l.length:=by
 unfold cM;split
 ·rename_i i h;have :=(arA.1 h).1;omega
 omega
theorem CR {α:Type} (p:α->Bool) (l:List α): -1<=cM p l:=by
 unfold cM;split <;>omega
theorem TN:rF (b.alloc (.cells #[.string ⟨#[]⟩,A h,A k,.slice none 0 0] 269)) iq (.slice (some (V b 0)) 1 1) [jd ⟨#[]⟩ (h,k)]:=by
 refine .inr ⟨_,_,rfl,fun j u a=> ?_⟩;have c:(((V b 0):Addr).add j)=(V b j):=by unfold Addr.add;split <;>simp_all
 rw[c,asm _ _ _ _ rfl]
 match j with
 |0=>simpa[iq,jd]using a
 |1=>simpa[iq,jd]using a
 |2=>simpa[iq,jd]using a
 |3=>simpa[iq,jd]using a
 |j+4=>simp[iq,jd]at a
theorem TO:∀u∈[jd d w].flatMap iq,u.oneCell'=true:=by
 intro u a;simp[jd,iq]at a;rcases a with rfl|rfl|rfl|rfl<;>rfl
theorem Oe(w:World):k1 w (.slice none 0 0) []:=aqe _ _ _ _
theorem k2.below(h:k2 a b e c)(d:Below a l b)(f:a<=b.heap.size)(g:b.grownBy B e.ownBlock):Below a l B:=
 d.grown g f fun k i=>(ap1 h k i).1
theorem TP(h:∀u∈c.flatMap iq,u.oneCell'=true)(n:Nat):∀u∈(c.take n).flatMap iq,u.oneCell'=true:=fun u a=>by
 obtain⟨s,b,a⟩:=aqq.1 a;exact h u (aqq.2 ⟨s,aqE b,a⟩)
theorem TQ(h:∀u∈c.flatMap iq,u.oneCell'=true)(n:Nat):∀u∈(c.drop n).flatMap iq,u.oneCell'=true:=fun u a=>by
 obtain⟨s,b,a⟩:=aqq.1 a;exact h u (aqq.2 ⟨s,aq8 b,a⟩)
theorem Of{base:Nat}{size:Nat}(h:b.ownsRow base i size (.slice none f a) m j):a=0:=by
 rcases h.2 with⟨d,_⟩|⟨g,c,e,d,_⟩
 ·injection d
 injection d with d;cases d
theorem TR(h:∀s∈c,k1 b s.fX s.ad)(d:J b l)(n m:Nat):∀s∈(c.take n++[jd ⟨#[]⟩ w])++c.drop m,k1 l s.fX s.ad:=by
 intro s a;rw[ap7,ap7]at a;rcases a with(a|a)|a
 ·exact(h s (aqE a)).ae d
 ·simp at a;subst a;exact Oe _
 exact(h s (aq8 a)).ae d
theorem abI(B b c:Nat)(x:Array Value)(v:Value)(l:List bD)(d f:Int)(w:World)(m:w.heap[b]?=some (.cells x 272 (0,0)))(y:x[c+3]?=some v)(h:ib B w v l)(hl:l.length<1000000)(U:B<=w.heap.size):
  O 214 #[.pointer (some (K b c)),.agg #[A 0,A 0],.agg #[A d,A f]] w fun e W=>
   e=.returned (.tuple #[])/\nj B w W b c x v (rG l 0 (jd ⟨#[]⟩ (d,f))):=by
 obtain⟨a,z,rfl,jq,X,Y⟩:=bm h.1;unfold maxLen at X;have i:w.cell? (K b (c+3))=some (.slice a l.length z):=by simp[World.cell?,m,y]
 have C:=aa (i);have kK:Hq (w.frozen? (K b (c+3))=false):=by simp[Hq,World.frozen?,m]
 have c9:b<w.heap.size:=aqd w _ i;have E:w.heap.size<=w.heap.size:=apX _;have g:=aa (h);clear h;have oM:=aa (m);clear m;have CS:=aa (y);clear y;clear Y;have bp:=AO;have h00:eF 0 0 0 0=true:=rfl;go_enter func214,ntmps214;go_wp2_with (first
  |(at_builtin;refine E0 rfl (.tmp 19) (.tmp 25) rfl w.heap.size (.slice none 0 0) [] (l.take (0)) rfl ?h1 (.slice a (0) z) rfl ?h2 ?al ?aL ?b1 ?_;(case h1=>exact aqe _ _ _ _);(case h2=>exact Hc (g.o.ae (((apY w.heap.size w).alloc (apX _) _).alloc (by simp) _)).1 (fun _=>rfl) rfl (0) (by omega) z (fun _ e=>by have :=g.o.1;rw[e]at this;exact Of this));(case al=>exact TP (KE g.o) _);(case aL=>simp <;>omega);(case b1=>exact(((apY w.heap.size w).alloc (apX _) _).alloc (by simp) _).size);intro v1 D F n;have q:J w D:=(((apY w.heap.size w).alloc (apX _) _).alloc (by simp) _).grown n (((apY w.heap.size w).alloc (apX _) _).alloc (by simp) _).size (fun k hk=>by cases hk);have wq:D.cell? (H (w.heap.size+1))=some (A d):=n.cell (by simp[go_sem]) (by simp[Value.ownBlock]);have qT:D.cell? (K (w.heap.size+1) 1)=some (A f):=n.cell (by simp[go_sem]) (by simp[Value.ownBlock]);clear n;replace i:=ae q C.o;replace E:=q.size;have I:=aa (F);clear F;have r:=aa (q);clear q)
  |(at_builtin;refine E0 rfl (.tmp 27) (.tmp 30) rfl w.heap.size _ (l.take (0)) [jd ⟨#[]⟩ (d,f)] rfl ?h1 _ rfl ?h2 ?al ?aL ?b1 ?_;(case h1=>exact I.o.alloc _);(case h2=>exact TN);(case al=>exact TO);(case aL=>simp <;>omega);(case b1=>have :=r.o.size;simp;omega);intro v2 w2 L M;have s:J w w2:=k2.below (I.o.alloc _) (r.o.alloc r.o.size _) (by have :=r.o.size;simp;omega) M;clear M;replace i:=ae s C.o;replace E:=s.size;have N:=aa (L);clear L;have t:=aa (s);clear s)
  |(at_builtin;refine E0 rfl (.tmp 33) (.tmp 39) rfl w.heap.size _ (l.take (0)++[jd ⟨#[]⟩ (d,f)]) (l.drop (0)) rfl ?h1 _ rfl ?h2 ?al ?aL ?b1 ?_;(case h1=>exact N.o);(case h2=>exact TI (g.o.ae t.o).1 (fun _=>rfl) rfl (0) (by omega) _ (by split <;>simp[Addr.add]));(case al=>exact TQ (KE g.o) _);(case aL=>simp <;>omega);(case b1=>exact t.o.size);intro v3 P j Q;replace j:=TM j (KF _ _ _);obtain⟨a3,bZ,R,_,_,_⟩:=bm j;generalize(rG l 0 (jd ⟨#[]⟩ (d,f))).length=oN at R;subst R;have u:J w P:=k2.below N.o t.o t.o.size Q;clear Q;replace i:=ae u C.o;have hf3:P.frozen? (K b (c+3))=false:=(u.frozen (p:=(K b (c+3))) c9).trans kK.o;have js:=aa (j);clear j;have S:=aa (u);clear u))
 go_end0
 exact⟨rfl,nj.stored oM.o S.o U js.o (by rw[<-KF];exact TR g.o.2 S.o 0 0)⟩
theorem abJ(B b c:Nat)(I:Array Value)(v:Value)(l:List bD)(j m d f:Int)(k:Nat)(w:World)(r:w.heap[b]?=some (.cells I 272 (0,0)))(L:I[c+3]?=some v)(h:ib B w v l)(hl:l.length<1000000)(hB:B<=w.heap.size)(sC:eF j m 0 0=false)(P:cM (hC ⟨#[]⟩ (j,m)) l=(k:Int)):
  O 214 #[.pointer (some (K b c)),.agg #[A j,A m],.agg #[A d,A f]] w fun e w'=>
   e=.returned (.tuple #[])/\nj B w w' b c I v (rG l (k+1) (jd ⟨#[]⟩ (d,f))):=by
 have dZ:k<l.length:=by have :=yY (hC ⟨#[]⟩ (j,m)) l;omega
 obtain⟨a,s,rfl,jq,cZ,fK⟩:=bm h.1;unfold maxLen at cZ;have i:w.cell? (K b (c+3))=some (.slice a l.length s):=by simp[World.cell?,r,L]
 have n:=aa (i);have kK:Hq (w.frozen? (K b (c+3))=false):=by simp[Hq,World.frozen?,r]
 have c9:b<w.heap.size:=aqd w _ i;have M:w.heap.size<=w.heap.size:=apX _;have g:=aa (h);clear h;have oM:=aa (r);clear r;have CS:=aa (L);clear L;clear fK;have bp:=AO;go_enter func214,ntmps214;go_wp2_with (first
  |(go_at_call 172;refine(CP B b c (.slice a l.length s) l ⟨#[]⟩ j m _ ?av ?ab).mono ?_;(case av=>exact ae (((apY w.heap.size w).alloc (apX _) _).alloc (by simp) _) n.o);(case ab=>exact g.o.ae (((apY w.heap.size w).alloc (apX _) _).alloc (by simp) _));rintro e w0 ⟨rfl,t⟩;have u:J w w0:=(((apY w.heap.size w).alloc (apX _) _).alloc (by simp) _).trans (t.mono (by simp;omega));have bW:=aa (ae (a:=(H (w.heap.size+1))) (v:=A d) t (by simp[go_sem]));have cB:=aa (ae (a:=(K (w.heap.size+1) 1)) (v:=A f) t (by simp[go_sem]));clear t;replace i:=ae u n.o;replace M:=u.size;have x:=aa (u);clear u)
  |(at_builtin;refine E0 rfl (.tmp 19) (.tmp 25) rfl w.heap.size (.slice none 0 0) [] (l.take (k+1)) rfl ?h1 (.slice a (k+1) s) rfl ?h2 ?al ?aL ?b1 ?_;(case h1=>exact aqe _ _ _ _);(case h2=>exact Hc (g.o.ae (x.o)).1 (fun _=>rfl) rfl (k+1) (by omega) s (fun _ e=>by have :=g.o.1;rw[e]at this;exact Of this));(case al=>exact TP (KE g.o) _);(case aL=>simp <;>omega);(case b1=>exact(x.o).size);intro v1 N Q y;have z:J w N:=(x.o).grown y (x.o).size (fun k P=>by cases P);have wq:N.cell? (H (w.heap.size+1))=some (A d):=y.cell bW.o (by simp[Value.ownBlock]);have qT:N.cell? (K (w.heap.size+1) 1)=some (A f):=y.cell cB.o (by simp[Value.ownBlock]);clear y;replace i:=ae z n.o;replace M:=z.size;have R:=aa (Q);clear Q;have C:=aa (z);clear z)
  |(at_builtin;refine E0 rfl (.tmp 27) (.tmp 30) rfl w.heap.size _ (l.take (k+1)) [jd ⟨#[]⟩ (d,f)] rfl ?h1 _ rfl ?h2 ?al ?aL ?b1 ?_;(case h1=>exact R.o.alloc _);(case h2=>exact TN);(case al=>exact TO);(case aL=>simp <;>omega);(case b1=>have :=C.o.size;simp;omega);intro v2 w2 S U;have D:J w w2:=k2.below (R.o.alloc _) (C.o.alloc C.o.size _) (by have :=C.o.size;simp;omega) U;clear U;replace i:=ae D n.o;replace M:=D.size;have W:=aa (S);clear S;have E:=aa (D);clear D)
  |(at_builtin;refine E0 rfl (.tmp 33) (.tmp 39) rfl w.heap.size _ (l.take (k+1)++[jd ⟨#[]⟩ (d,f)]) (l.drop (k+1)) rfl ?h1 _ rfl ?h2 ?al ?aL ?b1 ?_;(case h1=>exact W.o);(case h2=>exact TI (g.o.ae E.o).1 (fun _=>rfl) rfl (k+1) (by omega) _ (by first |rfl|(split <;>simp[Addr.add])|simp_all));(case al=>exact TQ (KE g.o) _);(case aL=>simp <;>omega);(case b1=>exact E.o.size);intro v3 X q Y;replace q:=TM q (KF _ _ _);obtain⟨a3,bZ,iD,_,_,_⟩:=bm q;generalize(rG l (k+1) (jd ⟨#[]⟩ (d,f))).length=oN at iD;subst iD;have F:J w X:=k2.below W.o E.o E.o.size Y;clear Y;replace i:=ae F n.o;have hf3:X.frozen? (K b (c+3))=false:=(F.frozen (p:=(K b (c+3))) c9).trans kK.o;have js:=aa (q);clear q;have bB:=aa (F);clear F))
 all_goals go_end0
 all_goals exact⟨rfl,nj.stored oM.o bB.o hB js.o (by rw[<-KF];exact TR g.o.2 bB.o (k+1) (k+1))⟩
theorem abK(B b c:Nat)(i:Array Value)(v:Value)(l:List bD)(d f r s:Int)(w:World)(g:w.heap[b]?=some (.cells i 272 (0,0)))(j:i[c+3]?=some v)(h:ib B w v l)(F:l.length<1000000)(I:eF d f 0 0=false)(L:cM (hC ⟨#[]⟩ (d,f)) l= -1):
  O 214 #[.pointer (some (K b c)),.agg #[A d,A f],.agg #[A r,A s]] w fun e t=>
   e=.returned (.tuple #[])/\nj B w t b c i v l:=by
 obtain⟨a,k,rfl,M,u,x⟩:=bm h.1;unfold maxLen at u;have m:w.cell? (K b (c+3))=some (.slice a l.length k):=by simp[World.cell?,g,j]
 have y:=aa (m);have N:Hq (w.frozen? (K b (c+3))=false):=by simp[Hq,World.frozen?,g]
 have P:b<w.heap.size:=aqd w _ m;have Q:w.heap.size<=w.heap.size:=apX _;have n:=aa (h);clear h;have z:=aa (g);clear g;have C:=aa (j);clear j;clear x;have R:=AO;go_enter func214,ntmps214;go_wp2_with (go_at_call 172;refine(CP B b c (.slice a l.length k) l ⟨#[]⟩ d f _ ?av ?ab).mono ?_;(case av=>exact ae (((apY w.heap.size w).alloc (apX _) _).alloc (by simp) _) y.o);(case ab=>exact n.o.ae (((apY w.heap.size w).alloc (apX _) _).alloc (by simp) _));rintro e D ⟨rfl,p⟩;have q:J w D:=(((apY w.heap.size w).alloc (apX _) _).alloc (by simp) _).trans (p.mono (by simp;omega));clear p;have E:=aa (q);clear q)
 refine bodyPost_ret (results_none rfl _ _ _) rfl ?_;exact⟨rfl,nj.same z.o C.o n.o E.o⟩
end Go.Proofs.YtnkpogjiiohapaaGreatDoor
