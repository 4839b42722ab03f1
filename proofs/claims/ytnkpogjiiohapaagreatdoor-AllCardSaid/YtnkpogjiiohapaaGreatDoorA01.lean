/- Our own text. -/
import Derived.Test.YtnkpogjiiohapaaGreatDoorProg
import Derived.WalkSpells
import Derived.WalkLawsBesides
import Derived.BigQuiet
import Derived.Handy
set_option linter.unusedSimpArgs false
set_option linter.unusedVariables false
set_option linter.defProp false
set_option maxRecDepth 1000000
set_option maxHeartbeats 800000
namespace Go.Proofs.YtnkpogjiiohapaaGreatDoor
open Go.RowKit Tryz
def aN:=@And.intro
def a7:=@if_neg
def bn:=@if_pos
def bW:=@Nat.le_refl
def b6:=@Nat.zero_le
def ca:=@Below.refl
def cd:=@Nat.le_trans
def cX:=@World.ownsRow.lt
def c0:=@Nat.lt_of_lt_of_le
def c2:=@List.length_map
def dh:=@List.length_append
def dB:=@List.getElem_mem
def dF:=@List.mem_map
def dZ:=@List.mem_append
def ey:=@bodyPost_ret
def eE:=@Ne.symm
def e7:=@World.block_lt_of_cell?
def e8:=@Array.getElem?_eq_some_iff
def ft:=@List.mem_cons
def fM:=@if_false
def fR:=@List.mem_singleton
def ga:=@List.map_append
def gU:=@List.length_take
def hg:=@World.ownsRow_nil
def hQ:=@if_true
def io:=@below_drewN
def ip:=@List.map_cons
def iq:=@List.length_cons
def jk:=@List.mem_cons_of_mem
def jI:=@List.flatMap_cons
def kp:=@List.take_of_length_le
def kq:=@congrArg
def kr:=@List.append_assoc
def kG:=@Int.natCast_nonneg
def kH:=@List.mem_cons_self
def lg:=@List.mem_flatMap
def lx:=@List.take_succ_eq_append_getElem
def ly:=@List.length_drop
def mm:=@List.mem_iff_getElem
def mn:=@Below.heap_setCell
def mo:=@List.mem_of_mem_take
def mL:=@Sem.run_bind
def mM:=@List.range_succ
def mN:=@Go.IntWalk.i64_in
def nb:=@Option.getD_some
def nI:=@List.nodup_append
def nJ:=@decide_eq_true
def oe:=@Nat.le_succ
def oK:=@Result.andThen_ok
def oL:=@List.flatMap_append
def oM:=@List.append_nil
def oN:=@List.nodup_cons
def oO:=@Value.slice.injEq
def pn:=@List.getElem_map
def po:=@Option.some.injEq
def p2:=@decide_eq_false
def p3:=@List.mem_append_left
def p4:=@List.mem_filter
def p5:=@List.cons_append
def qH:=@info_parts
def qI:=@Option.map_some
def qJ:=@true_and
def ry:=@List.pairwise_map
def rz:=@List.map_map
def rA:=@List.mem_range
def r6:=@List.filter_append
def r7:=@List.length_filter_le
def r8:=@Bool.false_eq_true
def r9:=@Nat.add_zero
def sa:=@List.length_nil
def sb:=@and_true
def sY:=@Nat.zero_add
def sZ:=@List.nil_append
def s9:=@List.pairwise_cons
def ta:=@Option.some.inj
def tS:=@List.mem_of_mem_drop
def tT:=@List.pairwise_iff_getElem
def tU:=@Addr.mk.injEq
def uV:=@List.map_nil
def uW:=@Nat.add_mul
def uX:=@List.getElem?_eq_getElem
def wn:=@Nat.mul_le_mul_right
def wo:=@World.cell?_of_block
def wq:=@List.getElem?_take
def wu:=@List.length_singleton
def wv:=@List.take_length
def ww:=@List.length_range
def xK:=@Nat.not_lt_zero
def xL:=@Sem.run_pure
def xM:=@run_underlying
def xN:=@List.ext_getElem?
def xO:=@Nat.mul_one
def xP:=@Int.toNat_natCast
def xQ:=@List.pairwise_append
def xR:=@Array.getElem_modify_self
def za:=@List.take_append_drop
def zb:=@cell_of_row
def Au:=@List.getElem?_eq_some_iff
def Av:=@List.getElem?_map
def Aw:=@List.getElem?_cons_zero
def Ax:=@List.foldl_append
def Ay:=@List.take_append_of_le_length
def Cb:=@List.drop_eq_getElem_cons
def Cc:=@World.ownsRow.alloc
def Cd:=@List.map_take
def Ce:=@Int.eq_ofNat_of_zero_le
def Cf:=@List.getElem_append_left
def Cg:=@Int.le_trans
def D4:=@Array.getElem?_modify
def D5:=@heap_alloc_new
def D6:=@List.find?_eq_none
def D7:=@List.eq_nil_of_length_eq_zero
def D8:=@Int.le_refl
def D9:=@List.mem_of_find?_eq_some
def Ea:=@List.ext_getElem
def Eb:=@decide_eq_true_eq
def F4:=@List.findIdx?_eq_some_iff_getElem
def F5:=@Array.getElem?_setIfInBounds
def F6:=@List.filter_cons
def F7:=@List.length_set
def F8:=@List.map_congr_left
def F9:=@callsIn_wide
def Ga:=@List.take_zero
def Gb:=@List.take_take
def Gc:=@List.mem_append_right
def Iw:=@results_none
def Ix:=@List.find?_cons
def Iy:=@World.ownsRow.cellAt
def Iz:=@List.foldl_cons
def IA:=@List.find?_some
def IB:=@List.nodup_nil
def IC:=@Nat.mod_lt
def ID:=@getElem!_pos
def IE:=@List.mem_of_getElem?
def KU:=@List.getElem?_append_left
def KV:=@List.getElem?_append_right
def KW:=@List.map_toArray
def KX:=@Nat.min_eq_left
def KY:=@List.set_cons_succ
def KZ:=@wp_loop_rounds
def K0:=@rounds_succ
def K1:=@List.getElem_take
def K2:=@decide_eq_false_iff_not
def K3:=@List.mem_map_of_mem
def K4:=@Option.isSome_some
def K5:=@List.size_toArray
def K6:=@not_or
def K7:=@Nat.mul_comm
def K8:=@Frame.finish_at
def K9:=@List.sum_cons
def Oy:=@Nat.succ_mul
def Oz:=@List.findIdx?_eq_none_iff
def OA:=@UInt8.lt_iff_toNat_lt
def OB:=@List.drop_eq_nil_of_le
def OC:=@Prod.mk.injEq
def OD:=@List.getElem_cons_succ
def OE:=@List.find?_eq_some_iff_getElem
def OF:=@List.mergeSort_perm
def OG:=@setRow_heap
def OH:=@beq_iff_eq
def OI:=@List.getElem_drop
def OJ:=@List.pairwise_singleton
def OK:=@List.getD_eq_getElem?_getD
def OL:=@List.sum_append
def SB:=@Nat.zero_mul
def SC:=@List.cons.injEq
def SD:=@World.ownsRow.frozenAt
def SE:=@run_append_own
def SF:=@List.getElem_set_ne
def SG:=@List.map_singleton
def SH:=@toList_madeCells_one
def SI:=@ByteArray.ext
def SJ:=@and_self
def SK:=@run_range_map
def SL:=@callsIn_of_wp
def SM:=@Array.replicate_succ
def SN:=@Array.replicate_zero
def SO:=@List.push_toArray
def SP:=@List.append_toArray
def SQ:=@run_next_at
def SR:=@run_entry_at
def SS:=@Addr.add_lit
def SU:=@setRow_other
def SV:=@setRow_size
def SX:=@Nat.div_le_self
def SY:=@List.flatMap_nil
def SZ:=@List.not_mem_nil
def S0:=@or_false
def S1:=@Array.getElem?_toList
def S2:=@List.getElem?_eq_none
def S3:=@Nat.eq_zero_or_pos
def S4:=@List.all_eq_true
def S5:=@Prod.ext
def S6:=@of_decide_eq_true
def S7:=@Int.tmod_eq_emod_of_nonneg
def YD:=@List.getElem_cons_zero
def YE:=@UInt8.le_iff_toNat_le
def YF:=@World.cell?_alloc_at
def YG:=@decide_false
def YH:=@List.getElem?_modify
def YI:=@List.getElem?_set
def YJ:=@List.getElem?_cons_succ
def YK:=@Option.map_none
def YL:=@Go.MapKept.bytes_beq
def YM:=@World.ownsRow.stored
def YN:=@World.frozen?_of_block
def YO:=@Nat.lt_or_gt_of_ne
def YP:=@World.ownsRow.drew
def YQ:=@List.pairwise_mergeSort
def YR:=@List.Perm.append_left
def YS:=@List.perm_append_comm
def YT:=@run_range_nilMap
def YU:=@run_next_nilMap
def YV:=@List.filterMap_append
def YW:=@Bool.and_eq_true
def YX:=@Oper.upon_value
def YY:=@List.getElem?_drop
def YZ:=@List.findIdx?_cons
def Y0:=@List.modify_zero_cons
def Y1:=@List.modify_succ_cons
def Y2:=@List.map_id
def Y3:=@List.find?_nil
def Y4:=@List.take_add
def Y5:=@Nat.div_add_mod
def Y6:=@Nat.one_mul
def Y7:=@List.take_sublist
def Y8:=@World.size_alloc
def Y9:=@Int.lt_of_le_of_lt
def Za:=@Bool.not_eq_true'
def Zb:=@Int.not_lt
def Zc:=@List.takeWhile_cons
def Zd:=@Nat.lt_of_le_of_lt
def Ze:=@Decidable.not_not
def Zf:=@List.filter_nil
def afM:=@UInt8.toNat_inj
def afN:=@Array.ext_getElem?
def afO:=@Array.toList_push
def afP:=@Array.getElem?_eq_getElem
def afQ:=@List.mem_or_eq_of_mem_set
def afR:=@growslice_fits
def afS:=@List.getElem_set_self
def afT:=@List.map_drop
def afU:=@Array.toList_inj
def afV:=@List.Perm.refl
def afW:=@List.filter_map
def afX:=@Array.length_toList
def afY:=@World.grownBy_alloc
def afZ:=@Function.comp_def
def af0:=@results_tmp
def af1:=@List.filter_eq_self
def af2:=@run_callFunc_extern
def af3:=@Nat.min_def
def af4:=@List.perm_middle
def af5:=@List.getElem_concat_length
def af6:=@Array.size_setIfInBounds
def af7:=@Bool.or_eq_true
def af8:=@List.take_succ_cons
def af9:=@Nat.le_zero
def aga:=@Array.getElem?_setIfInBounds_ne
def agb:=@List.getElem_range
def agc:=@List.takeWhile_prefix
def agd:=@List.takeWhile_cons_of_pos
def age:=@List.length_eq_zero_iff
def agf:=@List.flatMap_map
def agh:=@List.set_cons_zero
def agi:=@List.nodup_range
def agj:=@List.getElem?_range
def agk:=@List.drop_append_of_le_length
def agl:=@List.getElem_of_mem
def agm:=@List.sum_nil
def agn:=@Bool.eq_iff_iff
def atx:=@List.length_take_le
def aty:=@run_append_owned_none
def atz:=@Array.toList_modify
def atA:=@List.set_append_right
def atB:=@Array.toList_setIfInBounds
def atC:=@Classical.byContradiction
def atD:=@List.Pairwise.of_map
def atE:=@List.perm_ext_iff_of_nodup
def atF:=@Array.size_filter_le
def atG:=@Classical.choose_spec
def atH:=@List.map_eq_flatMap
def atI:=@Array.getElem?_append
def atJ:=@Array.getElem_modify
def atK:=@Nat.div_le_div_right
def atL:=@step_leave_returned
def atM:=@List.range_succ_eq_map
def atN:=@List.Pairwise.imp_of_mem
def atO:=@List.getElem_append_right
def atP:=@List.length_reverse
def atQ:=@List.map_eq_append_iff
def atR:=@run_append_arg_grows
def atS:=@Decidable.or_iff_not_not_and_not
def atT:=@List.take_length_add_append
def atU:=@List.filter_sublist
def atV:=@List.filter_eq_nil_iff
def atW:=@Bool.or_eq_false_iff
abbrev A(n:Int):Value:=.int .i64 n
abbrev Z(n:Nat):Value:=.pointer (some ⟨n,0,none⟩)
abbrev H(n:Nat):Addr:=⟨n,0,none⟩
abbrev K(n k:Nat):Addr:=⟨n,k,none⟩
abbrev V(w:World)(k:Nat):Addr:=⟨w.heap.size,k,none⟩
abbrev J(w v:World):Prop:=Below w.heap.size w v
abbrev O:=Calls Tryz.prog
abbrev aa(b n k:Nat):Value:=.slice (some ⟨b,0,none⟩) n k
abbrev ad(v:Value):Ending:=.returned v
abbrev af(a b:Int):Obj:=.cells #[.int .i64 a,.int .i64 b] 36
variable {a e m B:Nat}{b l:World}{d y:ByteArray}{f k z:Int}{h:Value}{i:TypeId}{j:List Value}{n:Act}{q:Array Oper}{r:Exit->Act->World->Prop}{s:Oper}{u:Array Value}
abbrev PId:=Int×Int
variable {v:List PId}{w:PId}
def Hq (p:Prop):Prop:=p
theorem Hq.o{p:Prop}(h:Hq p):p:=h
theorem ag{p:Prop}(h:p):Hq p:=h
structure dr where
 dt:PId
 kW:Int
 obj:PId
structure bX where
 key:ByteArray
 id:PId
 hh:Value
 aj:List dr
variable {c:List bX}
structure ep where
 id:PId
 aS:Bool
 ix:Value
 ss:List bX
def nc (x:PId):List Value:=[A x.1,A x.2]
def sc (h:dr):List Value:=[A h.dt.1,A h.dt.2,A h.kW,A h.obj.1,A h.obj.2]
def kX (s:bX):List Value:=[.string s.key,A s.id.1,A s.id.2,s.hh]
def nd (o:ep):List Value:=[A o.id.1,A o.id.2,.bool o.aS,o.ix]
theorem S8 {α:Type} (f:α->List Value) (k:Nat) (b:∀x,(f x).length=k):
  ∀(l:List α) (i j:Nat) (a:i<l.length),j<k->(l.flatMap f)[i*k+j]?=(f l[i])[j]?:=by
 intro l
 induction l with
 |nil=>intro i j a;simp at a
 |cons x l ih=>
  intro i j a c;rw[jI];cases i with
  |zero=>simp only[SB,sY,YD];rw[KU (by simp_all)]
  |succ i=>
   rw[KV (by rw[b,Oy];omega),b];have :(i+1)*k+j-k=i*k+j:=by rw[Oy];omega
   rw[this,ih i j (by simp_all) c];simp
theorem rB {α:Type} (f:α->List Value) (k:Nat) (a:∀x,(f x).length=k) (l:List α):(l.flatMap f).length=l.length*k:=by
 induction l with
 |nil=>simp
 |cons x l ih=>simp[jI,ih,a,Oy];omega
theorem bz{w:World}{base:Nat}{e:TypeId}{size:Nat}{v:Value}{n:Nat}(h:w.ownsRow base e size v n j):
  ∃a b,v=.slice a n b/\n<=b/\b<=maxLen/\∀i,i<n->∃g,a=some (H g):=by
 rcases h.2 with⟨rfl,rfl⟩|⟨g,b,k,rfl,l,m,c,d,o⟩
 .exact⟨none,0,rfl,bW _,b6 _,λi f=>absurd f (xK _)⟩
 exact⟨_,b,rfl,c,d,λ_ _=>⟨g,rfl⟩⟩
theorem jl {α:Type} {base:Nat} {c:TypeId} {k:Nat} {f:α->List Value} (m:∀x,(f x).length=k) {g:Nat} {l:List α}
  (h:b.ownsRow base c k (aa g a e) a (l.flatMap f)) (n:a=l.length) (i:Nat) (d:i<l.length) (j:Nat) (o:j<k):
  b.cell? (K g (i*k+j))=(f l[i])[j]?:=by
 rw[<-S8 f k m l i j d o];exact h.cellAt (i*k+j) (by subst n;have :(i+1)*k<=l.length*k:=wn _ d;rw[Oy]at this;omega)
theorem OM(w:World):J w w:=ca _ _
theorem aV(w:World)(o:Obj):J w (w.alloc o):=(ca _ w).alloc (bW _) o
theorem gb(w:World):J w w.drew:=(ca _ w).drew
theorem bp{a b:World}(h:J a b)(g:J b l):J a l:=h.trans (g.mono h.size)
theorem ak{w w':World}(h:J w w'){a:Addr}{v:Value}(b:w.cell? a=some v):w'.cell? a=some v:=by rw[h.cell (e7 w a b)];exact b
theorem ii{base base':Nat}{size:Nat}(c:b.ownsRow base i size h a j)(d:base'<=base):b.ownsRow base' i size h a j:=
 ⟨c.1,c.2.imp id λ⟨g,e,f,k,l,m⟩=>⟨g,e,f,k,cd d l,m⟩⟩
theorem ago{base:Nat}{size:Nat}(c:b.ownsRow base i size h e j)(d:Below a b l)(f:∀k,h.ownBlock=some k->k<a):l.ownsRow base i size h e j:=by
 refine⟨c.1,?_⟩;rcases c.2 with q|⟨g,m,n,rfl,o,p,rest⟩
 .simp_all
 refine .inr ⟨g,m,n,rfl,o,?_,rest⟩;rw[d.block g (f g rfl)];exact p
theorem dI{w:World}{base:Nat}{size:Nat}{v:Value}{n:Nat}(h:w.ownsRow base i size v n j)(a:J w b):b.ownsRow base i size v n j:=ago h a λk c=>(h.lt k c).2
theorem og{a b:Bool}(h:a=b):Ending.returned (.bool a)=ad (.bool b):=by rw[h]
theorem ON(h:f=k):Ending.returned (A f)=ad (A k):=by rw[h]
def fu (w:World) (v:Value) (l:List PId):Prop:=w.ownsRow 0 36 2 v l.length (l.flatMap nc)
def mp (w:World) (v:Value) (l:List dr):Prop:=w.ownsRow 0 243 5 v l.length (l.flatMap sc)
def jm (B:Nat) (w:World) (v:Value) (l:List bX):Prop:=w.ownsRow B 269 4 v l.length (l.flatMap kX)/\∀s∈l,mp w s.hh s.aj
def Az (B:Nat) (w:World) (v:Value) (l:List ep):Prop:=
 w.ownsRow B 272 4 v l.length (l.flatMap nd)/\(∀o∈l,jm B w o.ix o.ss)/\
 ∀(i j:Nat) (a:i<l.length) (b:j<l.length),i≠j->l[i].ix.ownBlock=none\/l[i].ix.ownBlock≠l[j].ix.ownBlock
theorem fu.ak{w v l}{w':World}(h:fu w v l)(a:J w w'):fu w' v l:=dI h a
theorem mp.ak{w v l}{w':World}(h:mp w v l)(a:J w w'):mp w' v l:=dI h a
theorem jm.ak{B w v l}{w':World}(h:jm B w v l)(a:J w w'):jm B w' v l:=
 ⟨dI h.1 a,λs b=>(h.2 s b).ak a⟩
theorem Az.ak{B w v l}{w':World}(h:Az B w v l)(a:J w w'):Az B w' v l:=
 ⟨dI h.1 a,λs b=>(h.2.1 s b).ak a,h.2.2⟩
theorem fu.cells{w}{g n cap:Nat}(h:fu w (aa g n cap) v)(b:n=v.length)(i:Nat)(a:i<v.length):
  w.cell? (K g (i*2))=some (A v[i].1)/\w.cell? (K g (i*2+1))=some (A v[i].2):=by
 subst b;exact⟨jl (f:=nc) (λ_=>rfl) h rfl i a 0 (by omega),jl (f:=nc) (λ_=>rfl) h rfl i a 1 (by omega)⟩
theorem mp.cells{w l}{g n cap:Nat}(h:mp w (aa g n cap) l)(b:n=l.length)(i:Nat)(a:i<l.length):
  w.cell? (K g (i*5))=some (A l[i].dt.1)/\w.cell? (K g (i*5+1))=some (A l[i].dt.2)/\w.cell? (K g (i*5+2))=some (A l[i].kW)/\
   w.cell? (K g (i*5+3))=some (A l[i].obj.1)/\w.cell? (K g (i*5+4))=some (A l[i].obj.2):=by
 subst b;exact⟨jl (f:=sc) (λ_=>rfl) h rfl i a 0 (by omega),jl (f:=sc) (λ_=>rfl) h rfl i a 1 (by omega),jl (f:=sc) (λ_=>rfl) h rfl i a 2 (by omega),
  jl (f:=sc) (λ_=>rfl) h rfl i a 3 (by omega),jl (f:=sc) (λ_=>rfl) h rfl i a 4 (by omega)⟩
theorem jm.cells{w}{g n cap:Nat}(h:jm a w (aa g n cap) c)(d:n=c.length)(i:Nat)(b:i<c.length):
  w.cell? (K g (i*4))=some (.string c[i].key)/\w.cell? (K g (i*4+1))=some (A c[i].id.1)/\w.cell? (K g (i*4+2))=some (A c[i].id.2)/\
   w.cell? (K g (i*4+3))=some c[i].hh:=by
 subst d;exact⟨jl (f:=kX) (λ_=>rfl) h.1 rfl i b 0 (by omega),jl (f:=kX) (λ_=>rfl) h.1 rfl i b 1 (by omega),jl (f:=kX) (λ_=>rfl) h.1 rfl i b 2 (by omega),
  jl (f:=kX) (λ_=>rfl) h.1 rfl i b 3 (by omega)⟩
theorem Az.cells{w l}{g n cap:Nat}(h:Az a w (aa g n cap) l)(c:n=l.length)(i:Nat)(b:i<l.length):
  w.cell? (K g (i*4))=some (A l[i].id.1)/\w.cell? (K g (i*4+1))=some (A l[i].id.2)/\w.cell? (K g (i*4+2))=some (.bool l[i].aS)/\
   w.cell? (K g (i*4+3))=some l[i].ix:=by
 subst c;exact⟨jl (f:=nd) (λ_=>rfl) h.1 rfl i b 0 (by omega),jl (f:=nd) (λ_=>rfl) h.1 rfl i b 1 (by omega),jl (f:=nd) (λ_=>rfl) h.1 rfl i b 2 (by omega),
  jl (f:=nd) (λ_=>rfl) h.1 rfl i b 3 (by omega)⟩
def fv (a b c d:Int):Bool:=decide (a=c/\b=d)
theorem Gd{d:Int}:fv f k z d=true↔(f,k)=(z,d):=by simp[fv]
theorem Ch{a:Int}:fv a f k z=false↔(a,f)≠(k,z):=by simp[fv]
theorem xS(a b c d:Int)(W:World):(binOp .eql 36 (.agg #[A a,A b]) (.agg #[A c,A d])).run prog W=.ok (.bool (fv a b c d)) W:=by go_simp;unfold fv;by_cases e:a=c<;>by_cases f:b=d<;>simp[e,f]
def di {α:Type} (p:α->Bool) (l:List α):Int:=match l.findIdx? p with |some i=>(i:Int)|none=> -1
theorem S9 {α:Type} {p:α->Bool} {l:List α} (b:a<l.length) (e:∀j (c:j<l.length),j<a->p l[j]=false) (d:p l[a]=true):di p l=a:=by unfold di;rw[F4.2 ⟨b,d,λj c=>by simp_all⟩]
theorem La {α:Type} {p:α->Bool} {l:List α} (c:∀j (a:j<l.length),p l[j]=false):di p l= -1:=by unfold di;rw[Oz.2 (λx b=>by obtain⟨j,a,rfl⟩:=mm.1 b;simp_all)]
theorem OO {α:Type} {p:α->Bool} {l:List α} (d:a<l.length) (c:∀j (b:j<l.length),j<a->p l[j]=false) (f:p l[a]=false):∀j (b:j<l.length),j<a+1->p l[j]=false:=by
 intro j b g;by_cases e:j=a
 .simp_all
 exact c j b (by omega)
theorem agp (a b c d:Int) (w:World):
  O 158 #[.agg #[A a,A b],.agg #[A c,A d]] w λe f=>e=ad (.bool (decide (a<c\/(a=c/\b<d))))/\J w f:=by
 by_cases g:a<c
 .go_enter func158,ntmps158;go_wp2;go_ret
  exact⟨og (by simp[g]),(aV _ _).alloc (by simp) _⟩
 by_cases h:a=c
 .subst h;go_enter func158,ntmps158;go_wp2;go_ret
  exact⟨og (by simp),(aV _ _).alloc (by simp) _⟩
 go_enter func158,ntmps158;go_wp2;go_ret
 exact⟨og (by simp_all),(aV _ _).alloc (by simp) _⟩
def Ge (x:PId) (y:PId):Bool:=fv y.1 y.2 x.1 x.2
theorem agq:decide (w∈v)=decide (0<=di (Ge w) v):=by
 by_cases h:w∈v
 .obtain⟨j,b,e⟩:=mm.1 h;have :∃i,v.findIdx? (Ge w)=some i:=by
   cases a:v.findIdx? (Ge w) with
   |some i=>exact⟨i,rfl⟩
   |none=>rw[Oz]at a;have :=a w h;simp[Ge,fv]at this
  obtain⟨i,c⟩:=this;simp[h,di,c]
 have :di (Ge w) v= -1:=La λj b=>by unfold Ge;rw[Ch];intro e;exact h (by rw[show w=v[j] from e.symm];simp)
 simp_all
theorem Zg (v:Value) (l:List PId) (b c:Int) (w:World) (h:fu w v l):
  O 237 #[v,.agg #[A b,A c]] w λe q=>e=ad (.bool (decide ((b,c)∈l)))/\J w q:=by
 obtain⟨a,u,rfl,x,r,s⟩:=bz h;unfold maxLen at r;rw[agq];go_enter func237,ntmps237;go_wp2;go_loopw [5] (λi wr=>∃k:Nat,k<=l.length/\i=A k/\Hq (∀j (m:j<l.length),j<k->Ge (b,c) l[j]=false)/\∃n,wr=(w.alloc (af b c)).drewN n) (λi _=>l.length-(intOf i).toNat)
 case atStart=>exact⟨0,b6 _,rfl,λ_ _ h=>absurd h (xK _),0,rfl⟩
 case round=>
  obtain⟨k,y,rfl,f,n,rfl⟩:=hrel;by_cases d:k<l.length
  .obtain⟨g,rfl⟩:=s k d;obtain⟨t,z⟩:=fu.cells h rfl k d;have heq:=xS;have B:=e7 w _ t;go_wp2;go_region
   cases p:fv l[k].1 l[k].2 b c
   .go_wp2;go_roundw
    case rel=>exact⟨k+1,by omega,by go_num,OO d f.o p,_,rfl⟩
    case measure=>simp[intOf];omega
   go_wp2;go_ret
   exact⟨og (by rw[S9 d f.o p];simp),io (aV _ _) _⟩
  go_wp2;go_ret
  exact⟨og (by rw[La (λj m=>f.o j m (by omega))];rfl),io (aV _ _) _⟩
def mO (x:PId) (o:ep):Bool:=fv o.id.1 o.id.2 x.1 x.2
theorem Gf (B m:Nat) (v:Value) (l:List ep) (b c:Int) (w:World) (r:w.cell? (H m)=some v) (h:Az B w v l):
  O 174 #[Z m,.agg #[A b,A c]] w λe s=>e=ad (A (di (mO (b,c)) l))/\J w s:=by
 obtain⟨a,y,rfl,z,t,u⟩:=bz h.1;unfold maxLen at t;have C:=e7 w _ r;go_enter func174,ntmps174;go_wp2;go_loopw [5] (λi wr=>∃k:Nat,k<=l.length/\i=A k/\Hq (∀j (p:j<l.length),j<k->mO (b,c) l[j]=false)/\∃n,wr=(w.alloc (af b c)).drewN n) (λi _=>l.length-(intOf i).toNat)
 case atStart=>exact⟨0,b6 _,rfl,λ_ _ h=>absurd h (xK _),0,rfl⟩
 case round=>
  obtain⟨k,D,rfl,f,n,rfl⟩:=hrel;by_cases d:k<l.length
  .obtain⟨g,rfl⟩:=u k d;obtain⟨x,E,F,I⟩:=Az.cells h rfl k d;have heq:=xS;have L:=e7 w _ x;go_wp2;go_region
   cases q:fv l[k].id.1 l[k].id.2 b c
   .go_wp2;go_roundw
    case rel=>exact⟨k+1,by omega,by go_num,OO d f.o q,_,rfl⟩
    case measure=>simp[intOf];omega
   go_wp2;go_ret
   exact⟨ON (by rw[S9 d f.o q]),io (aV _ _) _⟩
  go_wp2;go_ret
  exact⟨ON (by rw[La (λj p=>f.o j p (by omega))]),io (aV _ _) _⟩
def iG (key:ByteArray) (x:PId) (s:bX):Bool:=(s.key.toList==key.toList)&&fv s.id.1 s.id.2 x.1 x.2
theorem Gh (B m p:Nat) (v:Value) (l:List bX) (key:ByteArray) (b c:Int) (w:World) (t:w.cell? (K m (p+3))=some v) (h:jm B w v l):
  O 172 #[.pointer (some (K m p)),.string key,.agg #[A b,A c]] w λe u=>e=ad (A (di (iG key (b,c)) l))/\J w u:=by
 obtain⟨a,C,rfl,D,x,y⟩:=bz h.1;unfold maxLen at x;have E:=e7 w _ t;go_enter func172,ntmps172;go_wp2;go_loopw [7] (λi wr=>∃k:Nat,k<=l.length/\i=A k/\Hq (∀j (q:j<l.length),j<k->iG key (b,c) l[j]=false)/\∃n,wr=(w.alloc (af b c)).drewN n) (λi _=>l.length-(intOf i).toNat)
 case atStart=>exact⟨0,b6 _,rfl,λ_ _ h=>absurd h (xK _),0,rfl⟩
 case round=>
  obtain⟨k,F,rfl,f,n,rfl⟩:=hrel;by_cases d:k<l.length
  .obtain⟨g,rfl⟩:=y k d;obtain⟨z,I,L,M⟩:=jm.cells h rfl k d;have heq:=xS;have N:=e7 w _ z;cases r:(l[k].key.toList==key.toList)
   .go_wp2;go_region
    go_wp2;go_roundw
    case rel=>exact⟨k+1,by omega,by go_num,OO d f.o (by simp[iG,r]),_,rfl⟩
    case measure=>simp[intOf];omega
   cases s:fv l[k].id.1 l[k].id.2 b c
   .go_wp2;go_region
    go_wp2;go_roundw
    case rel=>exact⟨k+1,by omega,by go_num,OO d f.o (by simp[iG,s]),_,rfl⟩
    case measure=>simp[intOf];omega
   go_wp2;go_region
   go_wp2;go_ret
   exact⟨ON (by rw[S9 d f.o (by simp[iG,r,s])]),io (aV _ _) _⟩
  go_wp2;go_ret
  exact⟨ON (by rw[La (λj q=>f.o j q (by omega))]),io (aV _ _) _⟩
theorem agr(f:a<d.size)(g:a<y.size)(h:d[a]=y[a]):
  Op.bytesLess (d.data.toList.drop a) (y.data.toList.drop a)=Op.bytesLess (d.data.toList.drop (a+1)) (y.data.toList.drop (a+1)):=by
 have b:a<d.data.toList.length:=by simp_all
 have c:a<y.data.toList.length:=by simp_all
 rw[Cb b,Cb c];have e:d.data.toList[a]=y.data.toList[a]:=h;simp[Op.bytesLess,e]
theorem ags(i:a<d.size)(j:a<y.size)(h:d[a]≠y[a]):
  Op.bytesLess (d.data.toList.drop a) (y.data.toList.drop a)=decide ((d[a].toNat:Int)<y[a].toNat):=by
 have b:a<d.data.toList.length:=by simp_all
 have c:a<y.data.toList.length:=by simp_all
 rw[Cb b,Cb c];have e:=h;have f:d.data.toList[a]=d[a]:=rfl;have g:y.data.toList[a]=y[a]:=rfl;simp[Op.bytesLess,f,g,h,OA]
theorem Zh(h:y.size<=a\/d.size<=a)(b:a<=y.size)(c:a<=d.size):
  Op.bytesLess (y.data.toList.drop a) (d.data.toList.drop a)=decide ((y.size:Int)<d.size):=by
 rcases h with h|h
 .have :y.data.toList.drop a=[]:=OB (by simp_all);rw[this];by_cases e:a<d.size
  .rw[Cb (by simp_all)];simp[Op.bytesLess];omega
  have :d.data.toList.drop a=[]:=OB (by simp;omega);rw[this];simp[Op.bytesLess];omega
 have :d.data.toList.drop a=[]:=OB (by simp_all);rw[this];simp[Op.bytesLess];omega
def jn (a b:ByteArray):Bool:=Op.bytesLess a.data.toList b.data.toList
theorem Zi (a b:ByteArray) (w:World) (p:a.size<=maxLen) (q:b.size<=maxLen):
  O 193 #[.string a,.string b] w λe r=>e=ad (.bool (jn a b))/\∃n,r=w.drewN n:=by
 unfold maxLen at p q;go_enter func193,ntmps193;go_wp2;go_loopw [5] (λi wr=>∃k:Nat,k<=a.size/\k<=b.size/\i=A k/\Hq (jn a b=Op.bytesLess (a.data.toList.drop k) (b.data.toList.drop k))/\∃n,wr=w.drewN n) (λi _=>a.size-(intOf i).toNat)
 case atStart=>exact⟨0,b6 _,b6 _,rfl,rfl,0,rfl⟩
 case round=>
  obtain⟨k,g,j,rfl,c,n,rfl⟩:=hrel;by_cases l:k<a.size
  .by_cases m:k<b.size
   .by_cases d:a[k]=b[k]
    .have s:(a[k].toNat:Int)=b[k].toNat:=by rw[d]
     have f:=ag (agr l m d);go_wp2;go_region
     go_wp2;go_roundw
     case rel=>exact⟨k+1,by omega,by omega,by go_num,c.o.trans f.o,_,rfl⟩
     case measure=>simp[intOf];omega
    have s:¬(a[k].toNat:Int)=b[k].toNat:=by intro e;apply d;exact afM.1 (by omega)
    have f:=ag (ags l m d);go_wp2;go_region
    go_wp2;go_region
    go_wp2;go_ret
    exact⟨og (by rw[c.o,f.o];simp),_,rfl⟩
   go_wp2;go_ret
   exact⟨og (by rw[c.o,Zh (.inr (by omega)) g j];simp),_,rfl⟩
  go_wp2;go_ret
  exact⟨og (by rw[c.o,Zh (.inl (by omega)) g j];simp),_,rfl⟩
theorem OP {α:Type} (f:α->List Value) (size bytes:Nat) (t e:TypeId) (z:Value) (m:(prog.info? e).map (λi=>(i.zero,i.size,i.bytes))=some (some z,size,bytes))
  (o:prog.underlying t=some (.slice e)) (p:z.cells.size=size) (w:0<size) (C:∀x,(f x).length=size)
  {rest:List Oper} (D:s.guard=none) (a x:Operand)
  (E:s.op=.call {callee:=.builtin .append,args:= #[a,x],argTypes:= #[t,t]}) (B:Nat) (v:Value) (l:List α) (F:n.eval a=v)
  (I:b.ownsRow B e size v l.length (l.flatMap f)) (g c:Nat) (y:α) (L:n.eval x=aa g 1 c)
  (M:∀j u,(f y)[j]?=some u->b.cell? (K g j)=some u) (N:∀u∈f y,u.oneCell'=true) (Q:(l.length+1)*bytes<=140737488355328) (sd:l.length<maxLen) (R:B<=b.heap.size)
  (h:∀k d,d.ownsRow B e size k (l.length+1) ((l++[y]).flatMap f)->b.grownBy d v.ownBlock->wpList prog q r rest (n.put s.dst k) d):wpList prog q r (s::rest) n b:=by
 obtain⟨i,S,U,W,X⟩:=qH m;refine wpList_append_own (P:=prog) b D a x t E B e i z size bytes o S U W X p w v l.length (l.flatMap f) F I (H g) 1 c (f y) L (by rw[C];simp) ?_ N (by omega) Q R ?_
 .intro j u Y;have :((H g):Addr).add j=(K g j):=by unfold Addr.add;split <;>simp_all
  rw[this];exact M j u Y
 intro k d h2 ax _;exact h k d (by simpa using h2) ax
theorem OQ:∀u∈nc (f,k),u.oneCell'=true:=by intro u a;simp[nc]at a;rcases a with rfl|rfl<;>rfl
theorem OR{x1 x2:Int}(d:b.cell? (H a)=some (A x1))(e:b.cell? (K a 1)=some (A x2)):
  ∀j u,(nc (x1,x2))[j]?=some u->b.cell? (K a j)=some u:=by
 intro j u c
 match j with
 |0=>simp[nc]at c;simp_all
 |1=>simp[nc]at c;simp_all
 |j+2=>simp[nc]at c
def hR (B:Nat) (w:World) (v:Value) (l:List PId):Prop:=w.ownsRow B 36 2 v l.length (l.flatMap nc)
theorem hR.ids{v l}(h:hR a b v l):fu b v l:=ii h (b6 _)
theorem hR.alloc{B w v l}(h:hR B w v l)(o:Obj):hR B (w.alloc o) v l:=Cc h o
theorem hR.dn{w v l}{c:World}(h:hR a w v l)(d:Below a b w)(e:a<=w.heap.size)(f:w.grownBy c v.ownBlock):Below a b c:=
 d.grown f e λk g=>(cX h k g).1
theorem IG {α β:Type} (f:α->β) {l:List α} (h:a<l.length):(l.take (a+1)).map f=(l.take a).map f++[f l[a]]:=by rw[lx h,ga];rfl
theorem Ta{rest:List Oper}(j:s.guard=none)(a x:Operand)(k:s.op=.call {callee:=.builtin .append,args:= #[a,x],argTypes:= #[65,65]})(B:Nat)(v:Value)(l:List PId)(m:n.eval a=v)(o:hR B b v l)(g c:Nat)(f i:Int)(p:n.eval x=aa g 1 c)(t:b.cell? (H g)=some (A f))(u:b.cell? (K g 1)=some (A i))(z:l.length<1000000000000)(w:B<=b.heap.size)(h:∀e d,hR B d e (l++[(f,i)])->b.grownBy d v.ownBlock->wpList prog q r rest (n.put s.dst e) d):wpList prog q r (s::rest) n b:=
 OP nc 2 16 65 36 (.agg #[A 0,A 0]) (by kernel_rfl) underlying65 rfl (by omega) (λ_=>rfl) j a x k B v l m o g c (f,i) p
  (OR t u) OQ (by omega) (by unfold maxLen;omega) w (λe d C y=>h e d (by unfold hR;simp_all) y)
theorem OS (v:Value) (l:List dr) (w:World) (h:mp w v l) (q:l.length<1000000):
  O 146 #[v] w λe f=>
   ∃u,e=ad u/\hR w.heap.size f u (l.map (·.dt))/\J w f:=by
 obtain⟨a,r,rfl,s,t,n⟩:=bz h;go_enter func146,ntmps146;go_wp2;go_loopw [3,4] (λu i wr=>∃k:Nat,k<=l.length/\i=A k/\hR w.heap.size wr u ((l.take k).map (·.dt))/\J w wr) (λ_ i _=>l.length-(intOf i).toNat)
 case atStart=>exact⟨0,b6 _,rfl,hg _ _ _ _,ca _ _⟩
 case round=>
  obtain⟨k,x,rfl,c,b⟩:=hrel;by_cases d:k<l.length
  .obtain⟨g,rfl⟩:=n k d;obtain⟨j,m,y,z,B⟩:=mp.cells h rfl k d;replace j:=ak b j;replace m:=ak b m;go_wp2_with (at_builtin;go_must (refine Ta rfl (.tmp 11) (.tmp 17) rfl w.heap.size _ ((l.take k).map (·.dt)) rfl (by exact c.alloc _) wr.heap.size 1 l[k].dt.1 l[k].dt.2 rfl (by simp) (by simp) (by simp;omega) (by have :=b.size;simp;omega) ?_;intro C D o p))
   go_roundw
   case rel=>exact⟨k+1,by omega,by go_num,by rw[IG _ d];exact o,hR.dn (c.alloc _) (b.alloc b.size _) (by have :=b.size;simp;omega) p⟩
   case measure=>simp[intOf];omega
  go_wp2;go_ret
  refine⟨_,rfl,?_,b⟩;rw[kp (by omega)]at c;exact c
def lz (l:List bX):List PId:=(l.filter λs=>decide (0<s.aj.length)).map (·.id)
theorem agt(h:a<c.length)(b:0<c[a].aj.length):lz (c.take (a+1))=lz (c.take a)++[c[a].id]:=by unfold lz;rw[lx h,r6];simp[b]
theorem agu(h:a<c.length)(b:c[a].aj.length=0):lz (c.take (a+1))=lz (c.take a):=by unfold lz;rw[lx h,r6];simp[b]
theorem Lb(l:List bX)(k:Nat):(lz (l.take k)).length<=k:=by unfold lz;rw[c2];exact cd (r7 _ _) (atx _ _)
theorem OT (B j m:Nat) (v:Value) (l:List bX) (w:World) (n:w.cell? (K j (m+3))=some v) (h:jm B w v l) (z:l.length<1000000):
  O 149 #[.pointer (some (K j m))] w λe o=>
   ∃u,e=ad u/\hR w.heap.size o u (lz l)/\J w o:=by
 obtain⟨a,C,rfl,D,E,s⟩:=bz h.1;go_enter func149,ntmps149;go_wp2;go_loopw [3,4] (λu i wr=>∃k:Nat,k<=l.length/\i=A k/\hR w.heap.size wr u (lz (l.take k))/\J w wr) (λ_ i _=>l.length-(intOf i).toNat)
 case atStart=>exact⟨0,b6 _,rfl,hg _ _ _ _,ca _ _⟩
 case round=>
  obtain⟨k,F,rfl,c,b⟩:=hrel;have n:=ak b n;by_cases d:k<l.length
  .obtain⟨g,rfl⟩:=s k d;obtain⟨I,p,q,f⟩:=jm.cells h rfl k d;obtain⟨L,M,r,N,P,_⟩:=bz (h.2 l[k] (dB _));rw[r]at f;replace p:=ak b p;replace q:=ak b q;replace f:=ak b f;have Q:=Lb l k;have R:=ag (r);by_cases t:0<l[k].aj.length
   .go_wp2_with (at_builtin;go_must (refine Ta rfl (.tmp 24) (.tmp 33) rfl w.heap.size _ (lz (l.take k)) rfl (by exact c.alloc _) wr.heap.size 1 l[k].id.1 l[k].id.2 rfl (by simp) (by simp) (by omega) (by have :=b.size;simp;omega) ?_;intro S U x y))
    go_roundw
    case rel=>exact⟨k+1,by omega,by go_num,by rw[agt d t];exact x,hR.dn (c.alloc _) (b.alloc b.size _) (by have :=b.size;simp;omega) y⟩
    case measure=>simp[intOf];omega
   go_wp2;go_roundw
   case rel=>exact⟨k+1,by omega,by go_num,by rw[agu d (by omega)];exact c,b⟩
   case measure=>simp[intOf];omega
  go_wp2;go_ret
  refine⟨_,rfl,?_,b⟩;rw[kp (by omega)]at c;exact c
def letters (s:List UInt8):Bool:=s.all λc=>97<=c&&c<=122
def lP (s:ByteArray):Bool:=letters s.data.toList&&decide (0<s.size/\s.size<=4)
theorem Zk(h:a<d.size)(b:letters (d.data.toList.take a)=true)(f:(97:Int)<=d[a].toNat)(g:(d[a].toNat:Int)<=122):letters (d.data.toList.take (a+1))=true:=by
 have c:a<d.data.toList.length:=by simp_all
 unfold letters at *;rw[lx c,List.all_append,b];have e:d.data.toList[a]=d[a]:=rfl;simp[e,YE];omega
theorem OU(h:a<d.size)(b:¬((97:Int)<=d[a].toNat/\(d[a].toNat:Int)<=122)):lP d=false:=by
 have c:a<d.data.toList.length:=by simp_all
 have :letters d.data.toList=false:=by unfold letters;rw[List.all_eq_false];refine⟨d.data.toList[a],dB _,?_⟩;have e:d.data.toList[a]=d[a]:=rfl;simp[e,YE];omega
 simp[lP,this]
theorem agv (s:ByteArray) (w:World) (j:s.size<=maxLen):
  O 171 #[.string s] w λe l=>e=ad (.bool (lP s))/\l=w:=by
 unfold maxLen at j;go_enter func171,ntmps171;go_wp2;go_loop [3] (λi=>∃k:Nat,k<=s.size/\i=A k/\Hq (letters (s.data.toList.take k)=true)) (λi=>s.size-(intOf i).toNat)
 case atStart=>exact⟨0,b6 _,rfl,rfl⟩
 case round=>
  obtain⟨k,m,rfl,c⟩:=hrel;by_cases b:k<s.size
  .by_cases d:(97:Int)<=s[k].toNat
   .by_cases f:(s[k].toNat:Int)<=122
    .have a:=ag (Zk b c.o d f);go_wp2;go_round
     case rel=>exact⟨k+1,by omega,by go_num,a⟩
     case measure=>simp[intOf];omega
    have a:Hq _:=OU b (λh=>f h.2);go_wp2;go_ret
    exact⟨og a.o.symm,rfl⟩
   have a:Hq _:=OU b (λh=>d h.1);go_wp2;go_ret
   exact⟨og a.o.symm,rfl⟩
  have e:letters s.data.toList=true:=by have :=c.o;rwa [kp (by simp;omega)]at this
  have a:Hq (lP s=decide (0<s.size/\s.size<=4)):=by unfold lP;rw[e];rfl
  by_cases g:0<s.size
  .go_wp2;go_ret
   exact⟨og (by rw[a.o];simp[g];omega),rfl⟩
  go_wp2;go_ret
  exact⟨og (by rw[a.o];simp[g]),rfl⟩
def Tc (b:ByteArray) (a:List bX) (r:Int):Prop:=
 (r= -1/\∀j (c:j<a.length),jn b a[j].key=false)\/
 ∃i,∃d:i<a.length,r=(i:Int)/\jn b a[i].key=true/\∀j (c:j<a.length),jn b a[j].key=true->jn a[j].key a[i].key=false
def sf (b:ByteArray) (a:List bX) (k:Nat) (r:Int):Prop:=
 (r= -1/\∀j (c:j<a.length),j<k->jn b a[j].key=false)\/
 ∃i,∃d:i<a.length,i<k/\r=(i:Int)/\jn b a[i].key=true/\∀j (c:j<a.length),j<k->jn b a[j].key=true->jn a[j].key a[i].key=false
theorem sf.all(h:sf d c c.length f):Tc d c f:=by
 rcases h with⟨b,e⟩|⟨i,g,_,b,e,k⟩
 .exact .inl ⟨b,λj a=>e j a a⟩
 exact .inr ⟨i,g,b,e,λj a=>k j a a⟩
theorem Td(l:List UInt8):Op.bytesLess l l=false:=by
 induction l with
 |nil=>rfl
 |cons a l ih=>simp[Op.bytesLess,ih,OA]
theorem sf.no(p:a<c.length)(h:sf d c a f)(q:jn d c[a].key=false):sf d c (a+1) f:=by
 rcases h with⟨b,g⟩|⟨i,l,r,b,g,m⟩
 .refine .inl ⟨b,λj k n=> ?_⟩;by_cases e:j=a
  .simp_all
  exact g j k (by omega)
 refine .inr ⟨i,l,by omega,b,g,λj k n o=> ?_⟩;by_cases e:j=a
 .simp_all
 exact m j k (by omega) o
theorem sf.first{k:Nat}(b:k<c.length)(h:sf d c k (-1))(f:jn d c[k].key=true):sf d c (k+1) k:=by
 rcases h with⟨_,g⟩|⟨i,m,n,o,_⟩
 .refine .inr ⟨k,b,by omega,rfl,f,λj l p a=> ?_⟩;by_cases e:j=k
  .subst e;exact Td _
  rw[g j l (by omega)]at a;cases a
 omega
theorem Te:∀(a b c:List UInt8),Op.bytesLess a b=true->Op.bytesLess b c=true->Op.bytesLess a c=true
 |_,_,[],_,h=>by simp[Op.bytesLess]at h
 |[],_,_::_,_,_=>by rfl
 |_::_,[],_::_,h,_=>by contradiction
 |x::a,y::b,z::c,e,d=>by
  simp[Op.bytesLess,OA]at e d⊢;rcases e with e|⟨rfl,e⟩
  .rcases d with d|⟨rfl,d⟩
   .omega
   omega
  rcases d with d|⟨rfl,d⟩
  .omega
  right;exact⟨rfl,Te a b c e d⟩
theorem sf.better(f:a<c.length)(q:e<c.length)(h:sf d c a e)(g:jn d c[a].key=true)(k:jn c[a].key c[e].key=true):sf d c (a+1) a:=by
 rcases h with⟨l,_⟩|⟨i,r,s,l,t,m⟩
 .omega
 have :e=i:=by omega
 subst this;refine .inr ⟨a,f,by omega,rfl,g,λj n u o=> ?_⟩;by_cases b:j=a
 .subst b;exact Td _
 have :=m j n (by omega) o;cases p:jn c[j].key c[a].key
 .rfl
 have :=Te _ _ _ p k;unfold jn at *;simp_all
theorem sf.OV(o:e<c.length)(f:a<c.length)(h:sf d c e a)(p:jn c[e].key c[a].key=false):sf d c (e+1) a:=by
 rcases h with⟨g,_⟩|⟨i,q,r,g,k,l⟩
 .omega
 have :a=i:=by omega
 subst this;refine .inr ⟨a,f,by omega,rfl,k,λj m s n=> ?_⟩;by_cases b:j=e
 .simp_all
 exact l j m (by omega) n
theorem sf.shape(h:sf d c a f):f= -1\/∃m:Nat,∃_:m<c.length,f=(m:Int):=by
 rcases h with⟨b,_⟩|⟨i,e,_,b,_⟩
 .omega
 exact .inr ⟨i,e,b⟩
theorem agw {P:Program} {f:FuncId} {args:Array Value}
  (d:Calls P f args (b.drewN (a+e)) λc g=>c=ad h/\∃m,g=(b.drewN (a+e)).drewN m):Calls P f args (b.drewN (a+e)) λc i=>c=ad h/\∃m,i=b.drewN (a+m):=
 d.mono λ_ _ ⟨j,m,k⟩=>⟨j,e+m,by rw[k,World.drewN_drewN,Nat.add_assoc]⟩
theorem agx (B t u:Nat) (v:Value) (l:List bX) (c:ByteArray) (w:World) (I:w.cell? (K t (u+3))=some v) (h:jm B w v l)
  (x:∀s∈l,s.key.size<=maxLen) (D:c.size<=maxLen):
  O 176 #[.pointer (some (K t u)),.string c] w λe j=>
   ∃r,e=ad (A r)/\Tc c l r/\∃n,j=w.drewN n:=by
 obtain⟨a,L,rfl,M,E,F⟩:=bz h.1;unfold maxLen at E;go_enter func176,ntmps176;go_wp2;go_loopw [5,6] (λb i wr=>∃k:Nat,∃r:Int,k<=l.length/\i=A k/\b=A r/\sf c l k r/\∃n,wr=w.drewN n) (λ_ i _=>l.length-(intOf i).toNat)
 case atStart=>exact⟨0,-1,b6 _,rfl,rfl,.inl ⟨rfl,λ_ _ h=>absurd h (xK _)⟩,0,rfl⟩
 case round=>
  obtain⟨k,r,N,rfl,rfl,d,n,rfl⟩:=hrel;by_cases f:k<l.length
  .obtain⟨g,rfl⟩:=F k f;obtain⟨P,Q,R,S⟩:=jm.cells h rfl k f;have y:=x l[k] (dB _);have o:=λW=>Zi c l[k].key W D y
   cases p:jn c l[k].key
   .go_wp2_with (go_at_call 193;refine(o _).mono ?_;rintro e j ⟨rfl,z,rfl⟩)
    go_roundw
    case rel=>exact⟨k+1,r,by omega,by go_num,rfl,d.no f p,_,rfl⟩
    case measure=>simp[intOf];omega
   rcases d.shape with rfl|⟨m,q,rfl⟩
   .go_wp2_with (go_at_call 193;refine(o _).mono ?_;rintro e j ⟨rfl,z,rfl⟩)
    go_roundw
    case rel=>exact⟨k+1,k,by omega,by go_num,rfl,d.first f p,_,rfl⟩
    case measure=>simp[intOf];omega
   obtain⟨U,X,Y,m3⟩:=jm.cells h rfl m q;have pp:¬(m:Int)<0:=by omega
   go_wp2_with (go_at_call 193;refine(o _).mono ?_;rintro e j ⟨rfl,z,rfl⟩)
   go_quiet ((go_at_call 193;exact agw ((λW=>Zi l[k].key l[m].key W y (x l[m] (dB _))) _)))
   cases C:jn l[k].key l[m].key
   .go_wp2;go_roundw
    case rel=>exact⟨k+1,m,by omega,by go_num,rfl,d.OV f q C,_,rfl⟩
    case measure=>simp[intOf];omega
   go_wp2;go_roundw
   case rel=>exact⟨k+1,k,by omega,by go_num,rfl,d.better f q p C,_,rfl⟩
   case measure=>simp[intOf];omega
  go_wp2;go_ret
  exact⟨r,rfl,(by have e:k=l.length:=(by omega);subst e;exact d.all),_,rfl⟩
def tW {α:Type} (w:World) (f:α->List Value) (x:Value) (l:List α):Prop:=
 (x=.slice none 0 0/\l=[])\/∃a c,x=.slice (some a) l.length c/\∀j u,(l.flatMap f)[j]?=some u->w.cell? (a.add j)=some u
theorem Lc {α:Type} (f:α->List Value) (size bytes:Nat) (t e:TypeId) (z:Value) (E:(prog.info? e).map (λi=>(i.zero,i.size,i.bytes))=some (some z,size,bytes))
  (m:prog.underlying t=some (.slice e)) (F:z.cells.size=size) (I:0<size) (L:∀x,(f x).length=size)
  {rest:List Oper} (o:s.guard=none) (a x:Operand)
  (p:s.op=.call {callee:=.builtin .append,args:= #[a,x],argTypes:= #[t,t]}) (B:Nat) (v:Value) (l d:List α) (w:n.eval a=v)
  (k:b.ownsRow B e size v l.length (l.flatMap f)) (y:Value) (C:n.eval x=y) (M:tW b f y d) (N:∀u∈d.flatMap f,u.oneCell'=true)
  (Q:(l.length+d.length)*bytes<=140737488355328) (R:l.length+d.length<=maxLen) (S:B<=b.heap.size)
  (h:∀j g,g.ownsRow B e size j (l.length+d.length) ((l++d).flatMap f)->b.grownBy g v.ownBlock->wpList prog q r rest (n.put s.dst j) g):wpList prog q r (s::rest) n b:=by
 obtain⟨i,D,U,W,X⟩:=qH E;rcases M with⟨rfl,rfl⟩|⟨Y,c,rfl,hc⟩
 .refine wpList_plain o λ_ cy=> ?_
  unfold Oper.wp execOp;simp only[p,resolve,invoke,builtin,mL,xL,oK,KW,ip,uV,w,C,aty (P:=prog) b B t s.type e i size m D v l.length _ k];exact cy _ _ (h v b (by simpa using k) (World.grownBy.refl b _))
 refine wpList_append_own (P:=prog) b o a x t p B e i z size bytes m D U W X F I v l.length (l.flatMap f) w k Y d.length c (d.flatMap f) C (rB f size L d) hc N R Q S ?_;intro j g h2 ax _;exact h j g (by simpa using h2) ax
theorem Tf(d:jm a b h c):∀u∈c.flatMap kX,u.oneCell'=true:=by
 intro u g;obtain⟨s,i,g⟩:=lg.1 g;obtain⟨e,f,j,_⟩:=bz (d.2 s i);simp[kX]at g;rcases g with rfl|rfl|rfl|rfl
 .rfl
 .rfl
 .rfl
 rw[j];rfl
def lQ (key:ByteArray) (x:PId):bX:=⟨key,x,.slice none 0 0,[]⟩
def mq (B:Nat) (w:World) (v:Value) (l:List bX):Prop:=w.ownsRow B 269 4 v l.length (l.flatMap kX)
theorem mq.alloc{B w v l}(h:mq B w v l)(o:Obj):mq B (w.alloc o) v l:=Cc h o
theorem IH{rest:List Oper}(g:s.guard=none)(a x:Operand)(i:s.op=.call {callee:=.builtin .append,args:= #[a,x],argTypes:= #[270,270]})(B:Nat)(v:Value)(l c:List bX)(j:n.eval a=v)(k:mq B b v l)(f:Value)(m:n.eval x=f)(o:tW b kX f c)(p:∀u∈c.flatMap kX,u.oneCell'=true)(y:l.length+c.length<10000000)(t:B<=b.heap.size)(h:∀e d,mq B d e (l++c)->b.grownBy d v.ownBlock->wpList prog q r rest (n.put s.dst e) d):wpList prog q r (s::rest) n b:=
 Lc kX 4 56 270 269 (.agg #[.string ⟨#[]⟩,A 0,A 0,.slice none 0 0]) (by kernel_rfl) underlying270 rfl (by omega) (λ_=>rfl)
  g a x i B v l c j k f m o p (by omega) (by unfold maxLen;omega) t (λe d z w=>h e d (by unfold mq;simp_all) w)
theorem Ld {α:Type} {f:α->List Value} {d:Option Addr} {l:List α} (h:b.ownsRow m i a (.slice d e B) e (l.flatMap f)) (p:∀x,(f x).length=a) (t:e=l.length)
  (k:Nat) (o:k<=e) (c:Nat) (z:k=0->d=none->c=0):tW b f (.slice d k c) (l.take k):=by
 subst t;rcases h.2 with⟨n,C⟩|⟨g,D,E,n,F,I,L,M,N,P⟩
 .injection n with n v q;subst n;have :k=0:=by omega
  subst this;exact .inl ⟨by simp_all,by simp⟩
 injection n with n v q;subst n;subst q;refine .inr ⟨(H g),c,by simp_all,λj u r=> ?_⟩;have w:(((H g):Addr).add j)=(K g j):=by unfold Addr.add;simp_all
 rw[w];have s:j<k*a:=by have :=(Au.1 r).1;rw[rB f a p,gU,KX o]at this;omega
 have y:=c0 s (wn _ o);rw[h.cellAt j y];have i:l.flatMap f=(l.take k).flatMap f++(l.drop k).flatMap f:=by rw[<-oL,za]
 rw[i,KU (by rw[rB f a p,gU,KX o];exact s)];exact r
theorem Zl {α:Type} {f:α->List Value} {c:Option Addr} {l:List α} (h:b.ownsRow B i a (.slice c e m) e (l.flatMap f)) (q:∀x,(f x).length=a) (t:e=l.length)
  (d:Nat) (v:d<=e) (r:Option Addr) (k:r=if m=d then c else c.map (·.add (d*a))):tW b f (.slice r (e-d) (m-d)) (l.drop d):=by
 subst t;rcases h.2 with⟨n,w⟩|⟨g,F,I,n,L,M,N,P,Q,R⟩
 .injection n with n y p;subst n;subst p;have :d=0:=by omega
  subst this;simp at k;subst k;exact .inl ⟨by rw[w],by simp_all⟩
 injection n with n y p;subst n;subst p;by_cases s:m=d
 .rw[bn s]at k;subst k;have :l.drop d=[]:=OB (by omega);refine .inr ⟨(H g),_,by rw[ly],λj u o=> ?_⟩;rw[this]at o;simp at o
 rw[a7 s]at k;simp at k;subst k;refine .inr ⟨_,_,by rw[ly],λj u o=> ?_⟩;have z:((((H g):Addr).add (d*a)).add j)=(K g (d*a+j)):=by unfold Addr.add;split <;>split <;>simp_all
 rw[z];have C:j<(l.length-d)*a:=by have :=(Au.1 o).1;rw[rB f a q,ly]at this;omega
 have D:d*a+j<l.length*a:=by rw[Nat.sub_mul]at C;omega
 rw[h.cellAt _ D];have i:l.flatMap f=(l.take d).flatMap f++(l.drop d).flatMap f:=by rw[<-oL,za]
 have E:((l.take d).flatMap f).length=d*a:=by rw[rB f a q,gU,KX v]
 rw[i,KV (by omega),E]
 simp_all
theorem Ed(a b c d:Int)(W:World):(binOp .neq 36 (.agg #[A a,A b]) (.agg #[A c,A d])).run prog W=.ok (.bool (!fv a b c d)) W:=by go_simp;unfold fv;by_cases e:a=c<;>by_cases f:b=d<;>simp[e,f]
structure oS (B:Nat) (w w':World) (go cG:Nat) (cO:Array Value) (v:Value) (l':List bX):Prop where
 ex:∃v',jm B w' v' l'/\w'.heap[go]?=some (.cells (cO.setIfInBounds (cG+3) v') 272)/\(v'.ownBlock=v.ownBlock\/∀k,v'.ownBlock=some k->w.heap.size<=k)
 os:w'.os=w.os
 tape:w'.tape=w.tape
 output:w'.output=w.output
 size:w.heap.size<=w'.heap.size
 other:∀k,k<w.heap.size->k≠go->some k≠v.ownBlock->w'.heap[k]?=w.heap[k]?
theorem Zo(b:u[a]?=some h):u.setIfInBounds a h=u:=by
 apply afN;intro j;rw[F5];split
 .rename_i e;subst e;split
  .simp_all
  simp_all
 rfl
theorem oS.same{l}{w w':World}(d:w.heap[a]?=some (.cells u 272))(f:u[m+3]?=some h)(b:jm e w h l)(c:J w w'):oS e w w' a m u h l:=
 ⟨⟨h,b.ak c,by rw[Zo f,c.block a (e8.1 d).1];omega,.inl rfl⟩,c.os,c.tape,c.output,c.size,λk g _ _=>c.block k g⟩
theorem oS.stored{v'}(v:l.heap[a]?=some (.cells u 272))(i:J l b)(w:m<=l.heap.size)(o:mq l.heap.size b v' c)(x:∀s∈c,mp b s.hh s.aj):
  oS m l (b.setCell (K a (e+3)) v') a e u h c:=by
 have y:=(e8.1 v).1;have t:b.heap[a]?=some (.cells u 272):=by rw[i.block a y];omega
 have p:∀k,k≠a->(b.setCell (K a (e+3)) v').heap[k]?=b.heap[k]?:=λk j=>mn _ _ _ _ j
 refine⟨⟨v',⟨?_,?_⟩,?_,.inr λk j=>(cX o k j).1⟩,i.os,i.tape,i.output,by simpa[World.setCell]using i.size,λk j n _=>by rw[p k n,i.block k j]⟩
 .refine⟨o.1,?_⟩;rcases o.2 with z|⟨g,q,r,rfl,n,f,rest⟩
  .simp_all
  exact .inr ⟨g,q,r,rfl,cd w n,by rw[p g (by omega)];exact f,rest⟩
 .intro s B;have :=x s B;refine⟨this.1,?_⟩;rcases this.2 with z|⟨g,q,r,d,n,f,rest⟩
  .simp_all
  refine .inr ⟨g,q,r,d,n,?_,rest⟩;have :g≠a:=by intro d;subst d;rw[t]at f;injection f with f;injection f with _ f _;exact absurd f (by decide)
  rw[p g this];exact f
 simp[World.setCell,D4,t]
def tX (l:List bX) (n:Nat) (s:bX):List bX:=l.take n++s::l.drop n
theorem OX(l:List bX)(n:Nat)(s:bX):l.take n++[s]++l.drop n=tX l n s:=by simp[tX]
theorem Zp{f:List bX}(d:mq a b h c)(e:c=f):mq a b h f:=e▸d
def ze (l:List bX) (b x:PId):List bX:=
 if fv b.1 b.2 0 0 then tX l 0 (lQ ⟨#[]⟩ x)
 else if di (iG ⟨#[]⟩ b) l<0 then l
 else tX l ((di (iG ⟨#[]⟩ b) l).toNat+1) (lQ ⟨#[]⟩ x)
theorem Ci {α:Type} (p:α->Bool) (l:List α):di p l<l.length:=by
 unfold di;split
 .rename_i i h;have :=(F4.1 h).1;omega
 omega
theorem Gj {α:Type} (p:α->Bool) (l:List α): -1<=di p l:=by unfold di;split <;>omega
theorem Zq:tW (b.alloc (.cells #[.string ⟨#[]⟩,A f,A k,.slice none 0 0] 269)) kX (aa b.heap.size 1 1) [lQ ⟨#[]⟩ (f,k)]:=by
 refine .inr ⟨_,_,rfl,λj u c=> ?_⟩;have a:(((V b 0):Addr).add j)=(V b j):=by unfold Addr.add;simp_all
 rw[a,YF _ _ _ _ rfl]
 match j with
 |0=>assumption
 |1=>assumption
 |2=>assumption
 |3=>assumption
 |j+4=>assumption
theorem Zr:∀u∈[lQ d w].flatMap kX,u.oneCell'=true:=by intro u a;simp[lQ,kX]at a;rcases a with rfl|rfl|rfl|rfl<;>rfl
theorem Th(w:World):mp w (.slice none 0 0) []:=hg _ _ _ _
theorem mq.dn{w v l}{c:World}(h:mq a w v l)(d:Below a b w)(e:a<=w.heap.size)(f:w.grownBy c v.ownBlock):Below a b c:=
 d.grown f e λk g=>(cX h k g).1
theorem agy(h:∀u∈c.flatMap kX,u.oneCell'=true)(n:Nat):∀u∈(c.take n).flatMap kX,u.oneCell'=true:=λu a=>by obtain⟨s,b,a⟩:=lg.1 a;exact h u (lg.2 ⟨s,mo b,a⟩)
theorem Zs(h:∀u∈c.flatMap kX,u.oneCell'=true)(n:Nat):∀u∈(c.drop n).flatMap kX,u.oneCell'=true:=λu a=>by obtain⟨s,b,a⟩:=lg.1 a;exact h u (lg.2 ⟨s,tS b,a⟩)
theorem Zt{base:Nat}{size:Nat}(h:b.ownsRow base i size (.slice none e a) m j):a=0:=by
 rcases h.2 with⟨d,_⟩|⟨g,c,f,d,_⟩
 .simp_all
 simp_all
theorem Zu(h:∀s∈c,mp b s.hh s.aj)(d:J b l)(n m:Nat):∀s∈(c.take n++[lQ ⟨#[]⟩ w])++c.drop m,mp l s.hh s.aj:=by
 intro s a;rw[dZ,dZ]at a;rcases a with(a|a)|a
 .exact(h s (mo a)).ak d
 .simp at a;subst a;exact Th _
 exact(h s (tS a)).ak d
theorem agz (B b c:Nat) (q:Array Value) (v:Value) (l:List bX) (d f:Int) (w:World) (r:w.heap[b]?=some (.cells q 272)) (C:q[c+3]?=some v)
  (h:jm B w v l) (hl:l.length<1000000) (N:B<=w.heap.size):
  O 214 #[.pointer (some (K b c)),.agg #[A 0,A 0],.agg #[A d,A f]] w λe P=>e=ad (.tuple #[])/\oS B w P b c q v (tX l 0 (lQ ⟨#[]⟩ (d,f))):=by
 obtain⟨a,s,rfl,kt,dM,ku⟩:=bz h.1;have g:w.cell? (K b (c+3))=some (.slice a l.length s):=by simp[World.cell?,r,C]
 have t:=ag (g);have Q:Hq (w.frozen? (K b (c+3))=false):=by simp[Hq,World.frozen?,r]
 have R:=e7 w _ g;have D:w.heap.size<=w.heap.size:=by simp
 have i:=h;have S:=r;have Le:=ag (C);have bI:=Ed;have h00:fv 0 0 0 0=true:=rfl;go_enter func214,ntmps214;go_wp2_with (first
  |(at_builtin;refine IH rfl (.tmp 19) (.tmp 25) rfl w.heap.size (.slice none 0 0) [] (l.take (0)) rfl (hg _ _ _ _) (.slice a (0) s) rfl ?h2 (by simp) (by simp) (((aV w _).alloc (by simp) _).size) ?_;(case h2=>exact Ld (i.ak ((aV w _).alloc (by simp) _)).1 (λ_=>rfl) rfl (0) (by omega) s (λ_ e=>by have :=i.1;rw[e]at this;exact Zt this));intro v1 E U u;have x:=((aV w _).alloc (by simp) _).grown u ((aV w _).alloc (by simp) _).size (λk W=>by cases W);have AB:E.cell? (H (w.heap.size+1))=some (A d):=u.cell (by simp) (by simp[Value.ownBlock]);have wx:E.cell? (K (w.heap.size+1) 1)=some (A f):=u.cell (by simp) (by simp[Value.ownBlock]);replace g:=ak x t.o;replace D:=x.size;have F:=U;have m:=x)
  |(at_builtin;refine IH rfl (.tmp 27) (.tmp 30) rfl w.heap.size _ (l.take (0)) [lQ ⟨#[]⟩ (d,f)] rfl ?h1 _ rfl (Zq) (Zr) (by simp) ?cP ?_;(case h1=>exact F.alloc _);(case cP=>have :=m.size;simp;omega);intro v2 w2 X Y;have y:=mq.dn (F.alloc _) (m.alloc m.size _) (by have :=m.size;simp;omega) Y;replace g:=ak y t.o;replace D:=y.size;have I:=X;have z:=y)
  |(at_builtin;refine IH rfl (.tmp 33) (.tmp 39) rfl w.heap.size _ (l.take (0)++[lQ ⟨#[]⟩ (d,f)]) (l.drop (0)) rfl ?h1 _ rfl ?h2 ?ax ?a8 ?cP ?_;(case h1=>exact I);(case h2=>exact Zl (i.ak z).1 (λ_=>rfl) rfl (0) (by omega) _ (by split <;>simp[Addr.add]));(case ax=>exact Zs (Tf i) _);(case a8=>simp <;>omega);(case cP=>omega);intro v3 w3 j ee;replace j:=Zp j (OX _ _ _);obtain⟨a3,ce,L,_,_,_⟩:=bz j;generalize(tX l 0 (lQ ⟨#[]⟩ (d,f))).length=pr at L;subst L;have n:=mq.dn I z z.size ee;replace g:=ak n t.o;have hf3:=(n.frozen (p:=(K b (c+3))) R).trans Q.o;have li:=j;clear j;have M:=n;clear n))
 go_end0
 exact⟨rfl,oS.stored S M N li (by rw[<-OX];exact Zu i.2 M 0 0)⟩
theorem agA (B b c:Nat) (t:Array Value) (v:Value) (l:List bX) (j m d f:Int) (k:Nat) (w:World) (u:w.heap[b]?=some (.cells t 272)) (M:t[c+3]?=some v)
  (h:jm B w v l) (hl:l.length<1000000) (U:B<=w.heap.size) (tb:fv j m 0 0=false) (N:di (iG ⟨#[]⟩ (j,m)) l=(k:Int)):
  O 214 #[.pointer (some (K b c)),.agg #[A j,A m],.agg #[A d,A f]] w λe W=>e=ad (.tuple #[])/\oS B w W b c t v (tX l (k+1) (lQ ⟨#[]⟩ (d,f))):=by
 have ej:k<l.length:=by have :=Ci (iG ⟨#[]⟩ (j,m)) l;omega
 obtain⟨a,q,rfl,kt,dM,ku⟩:=bz h.1;have g:w.cell? (K b (c+3))=some (.slice a l.length q):=by simp[World.cell?,u,M]
 have n:=ag (g);have X:Hq (w.frozen? (K b (c+3))=false):=by simp[Hq,World.frozen?,u]
 have Y:=e7 w _ g;have x:w.heap.size<=w.heap.size:=by simp
 have i:=h;have xT:=u;have Le:=ag (M);have bI:=Ed;go_enter func214,ntmps214;go_wp2_with (first
  |(go_at_call 172;refine(Gh B b c (.slice a l.length q) l ⟨#[]⟩ j m _ ?aE ?ah).mono ?_;(case aE=>exact ak ((aV w _).alloc (by simp) _) n.o);(case ah=>exact i.ak ((aV w _).alloc (by simp) _));rintro e w0 ⟨rfl,y⟩;have z:=((aV w _).alloc (by simp) _).trans (y.mono (by simp;omega));have cg:=ak (a:=(H (w.heap.size+1))) (v:=A d) y (by simp);have c7:=ak (a:=(K (w.heap.size+1) 1)) (v:=A f) y (by simp);replace g:=ak z n.o;replace x:=z.size;have C:=z)
  |(at_builtin;refine IH rfl (.tmp 19) (.tmp 25) rfl w.heap.size (.slice none 0 0) [] (l.take (k+1)) rfl (hg _ _ _ _) (.slice a (k+1) q) rfl ?h2 ?ax (by simp <;>omega) (by omega) ?_;(case h2=>exact Ld (i.ak (C)).1 (λ_=>rfl) rfl (k+1) (by omega) q (λ_ e=>by omega));(case ax=>exact agy (Tf i) _);intro v1 w1 oQ D;have E:=(C).grown D (C).size (λk N=>by cases N);have AB:=D.cell cg (by simp[Value.ownBlock]);have wx:=D.cell c7 (by simp[Value.ownBlock]);replace g:=ak E n.o;replace x:=E.size;have P:=oQ;have r:=E)
  |(at_builtin;refine IH rfl (.tmp 27) (.tmp 30) rfl w.heap.size _ (l.take (k+1)) [lQ ⟨#[]⟩ (d,f)] rfl ?h1 _ rfl (Zq) (Zr) (by simp <;>omega) ?cP ?_;(case h1=>exact P.alloc _);(case cP=>have :=r.size;simp;omega);intro v2 w2 hD fw;have F:=mq.dn (P.alloc _) (r.alloc r.size _) (by have :=r.size;simp;omega) fw;replace g:=ak F n.o;replace x:=F.size;have Q:=hD;have I:=F)
  |(at_builtin;refine IH rfl (.tmp 33) (.tmp 39) rfl w.heap.size _ (l.take (k+1)++[lQ ⟨#[]⟩ (d,f)]) (l.drop (k+1)) rfl ?h1 _ rfl ?h2 ?ax (by simp <;>omega) (by omega) ?_;(case h1=>exact Q);(case h2=>exact Zl (i.ak I).1 (λ_=>rfl) rfl (k+1) (by omega) _ (by rfl));(case ax=>exact Zs (Tf i) _);intro v3 w3 s ee;replace s:=Zp s (OX _ _ _);obtain⟨a3,ce,R,_,_,_⟩:=bz s;generalize(tX l (k+1) (lQ ⟨#[]⟩ (d,f))).length=pr at R;subst R;have L:=mq.dn Q I I.size ee;replace g:=ak L n.o;have hf3:=(L.frozen (p:=(K b (c+3))) Y).trans X.o;have li:=s;have S:=L))
 all_goals go_end0
 all_goals exact⟨rfl,oS.stored xT S U li (by rw[<-OX];exact Zu i.2 S (k+1) (k+1))⟩
theorem agB (B b c:Nat) (g:Array Value) (v:Value) (l:List bX) (d f n o:Int) (w:World) (i:w.heap[b]?=some (.cells g 272)) (j:g[c+3]?=some v)
  (h:jm B w v l) (r:l.length<1000000) (s:fv d f 0 0=false) (t:di (iG ⟨#[]⟩ (d,f)) l= -1):
  O 214 #[.pointer (some (K b c)),.agg #[A d,A f],.agg #[A n,A o]] w λe p=>e=ad (.tuple #[])/\oS B w p b c g v l:=by
 obtain⟨a,k,rfl,u,x,y⟩:=bz h.1;have m:w.cell? (K b (c+3))=some (.slice a l.length k):=by simp[World.cell?,i,j]
 have z:Hq (w.frozen? (K b (c+3))=false):=by simp[Hq,World.frozen?,i]
 have C:=e7 w _ m;have D:w.heap.size<=w.heap.size:=by simp
 have E:=Ed;go_enter func214,ntmps214;go_wp2_with (go_at_call 172;refine(Gh B b c (.slice a l.length k) l ⟨#[]⟩ d f _ (by exact ak ((aV w _).alloc (by simp) _) m) (by exact h.ak ((aV w _).alloc (by simp) _))).mono ?_;rintro e F ⟨rfl,q⟩)
 refine ey (Iw rfl _ _ _) rfl ?_;exact⟨rfl,oS.same i j h (((aV w _).alloc (by simp) _).trans (q.mono (by simp;omega)))⟩
