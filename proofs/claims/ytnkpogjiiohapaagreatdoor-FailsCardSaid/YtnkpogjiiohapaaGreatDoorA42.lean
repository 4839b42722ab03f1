/- Our own text. -/
import Derived.Test.YtnkpogjiiohapaaGreatDoorCards
import Derived.Test.YtnkpogjiiohapaaGreatDoorTie
import Derived.ProofKit
import Derived.OpenShut
import Derived.Deep.DeepHandedRow
import Derived.Lib.LaidTab
import Derived.Test.YtnkpogjiiohapaaGreatDoorA41
set_option linter.unusedSimpArgs false
set_option linter.unusedVariables false
set_option maxRecDepth 1000000
set_option maxHeartbeats 4000000
namespace Go.Proofs.YtnkpogjiiohapaaGreatDoor
open Go.ChangeShapes Go.WideShapes Go.ChangeAt Go.RowKit
variable {a:World}
theorem am8 {c:Type} {h:TypeId×Value->c} {P:Program} {f:Func} {s:ChangeSpec} {n B C D:Bool} {W:World} {args:Array Value} {v:Value} {i k:List (DataW c)} {e pa pv:List MemPlace}
  (l:DataW.Whole h P f.params.toList s.vars n W args.toList i k e)
  (o:∀(b:Nat) (g:Nat->Bool) (E:Bool),DataW.TrodAll h P a b g E f.resultTypes.toList (v.resultList f.resultTypes.size) (s.fn c (i++k)).results [])
  (q:∀g:Nat->Bool,(∀p∈e,g p.block=true)->DataW.TrodAll h P a 0 g true f.params.toList args.toList (s.fn c (i++k)).args pa)
  (u:∀g:Nat->Bool,(∀p∈e,g p.block=true)->DataW.TrodVars h P a g s.vars (s.fn c (i++k)).vars pv)
  (m:e=pa++pv) (w:J W a)
  (F:∀(j:Nat) (t:TypeId) (r:Value),f.resultTypes[j]?=some t->(v.resultList f.resultTypes.size)[j]?=some r->Value.okWide P a .any 0 t r):
  s.post h P f n B C D W args v a:=by
 have x:∀p∈e,(fun b=>decide (b<W.heap.size)) p.block=true:=fun p d=>by simpa using l.lt p d
 have I:=l.lt;refine⟨i,k,e,[],pa,pv,l,o _ _ _,q _ x,u _ x,World.keptBut_mono (fun p d=>⟨d,?_⟩) (w.frame _),fun _=> ?_⟩
 ·rw[m,ap7]at d;exact Or.inr d
 obtain⟨_,_,_,_,_,L,M⟩:=l;refine⟨F,_,_,([]++pa)++pv,⟨[]++pa,pv,trodAll_append (q _ (fun _ _=>rfl)) (o _ _ _),u _ (fun _ _=>rfl),rfl,?_,?_⟩,?_⟩
 ·intro b y d;have z:MemPlace.cell b y∈e:=by rw[m];simpa using d
  rw[w.frozen (I _ z)];exact L b y z
 ·intro N;have :=M N;rw[m]at this;simpa using this
 intro p d _;rw[m];simpa using d
theorem am9(q:Nat)(b:q<([1,2,3,4,5,7,8,9,12,13,14,15,16,17,18,19,20]:List Int).length):(a.alloc (.cells #[A 1,A 2,A 3,A 4,A 5,A 7,A 8,A 9,A 12,A 13,A 14,A 15,A 16,A 17,A 18,A 19,A 20] 3)).cell? (V a q)=some (A ([1,2,3,4,5,7,8,9,12,13,14,15,16,17,18,19,20]:List Int)[q]):=by
 rw[cell_of_row _ _ _ _ _ _ (bI a _)]
 match q,b with
 |0,_=>rfl
 |1,_=>rfl
 |2,_=>rfl
 |3,_=>rfl
 |4,_=>rfl
 |5,_=>rfl
 |6,_=>rfl
 |7,_=>rfl
 |8,_=>rfl
 |9,_=>rfl
 |10,_=>rfl
 |11,_=>rfl
 |12,_=>rfl
 |13,_=>rfl
 |14,_=>rfl
 |15,_=>rfl
 |16,_=>rfl
 |n+17,h=>exact absurd (show n+17<17 from h) (by omega)
theorem ana{d b}{cap:Nat}(f:G6 a d b)(g:∀i (p:i<b.length),p8 b[i])(k:b.length<=1500000000000)(h:Pow a):
  O 5 #[.slice d b.length cap] a fun e l=>e=.returned (.bool true)/\J a l:=by
 have c:=aa ((apY a.heap.size a).alloc (apX _) (.cells #[A 1,A 2,A 3,A 4,A 5,A 7,A 8,A 9,A 12,A 13,A 14,A 15,A 16,A 17,A 18,A 19,A 20] 3));have m:=aa (amV (cap:=cap) (f.ae c.o (apX _)) g k (ks:=[1,2,3,4,5,7,8,9,12,13,14,15,16,17,18,19,20]) am7 ⟨by decide,by decide⟩ (by decide) (by decide) am9 (h.ae c.o));clear f g h;go_enter Tryz.func5,Tryz.ntmps5;go_wp2_with fail
 refine m.o.mono ?_;rintro e q ⟨rfl,j⟩;have n:=aa j;clear j;go_wp2;go_ret
 exact⟨rfl,c.o.trans (n.o.mono c.o.size)⟩
theorem anb:ownKnob Tryz.prog.godebug=none:=by kernel_rfl
theorem anc:Tryz.prog.globalNamed "internal/strconv.uint64pow10" =some 1:=by kernel_rfl
theorem ane:(Tryz.prog.globals[1]?).map (·.type)=some 354:=by kernel_rfl
theorem anf:Tryz.prog.cellsOf 354=20:=by kernel_rfl
theorem ang:Tryz.prog.cellsOf 315=1:=by kernel_rfl
theorem abx{P:Program}{n:String}{d:DataW Unit}{r:List (String×DataW Unit)}(h:laidMet P ((n,d)::r) a):laidMet P r a:=by
 obtain⟨k,⟨g,t,l,fuel,p,q,_,_,_,_,c,rfl⟩,e,f⟩:=h;exact⟨q,c,(aqF.1 e).2.1,fun b i j=>f b i (arW _ j)⟩
theorem anh(h:laidMetH Tryz.prog Rows.failsRow.laid a):Pow a:=by
 have b:laidMet Tryz.prog Rows.failsRow.laid a:=h;exact Lib.tabIs_of_head (rest:=[]) anc ane Tryz.underlying354 Tryz.underlying315 ang anf (abx (abx b))
theorem ani:Tryz.prog.bytesOf 87=96:=by kernel_rfl
theorem anj {a:Type} {b c:List (DataW a)} {d:List TypeId} (h:(DataW.weightsEach Tryz.prog (22::d) [.slice b c]).all (·<=reachBytes)=true):b.length<=1500000000000:=by
 simp only[DataW.weightsEach,DataW.weights,Tryz.underlying22,aqD,List.all_cons,Bool.and_eq_true,decide_eq_true_eq,ani]at h;have e:=h.1;unfold reachBytes at e;omega
theorem contract (a:Type) (b:TypeId×Value->a) (W:World) (base:Nat) (args:Array Value) (c h:List (DataW a)) (s:List MemPlace)
  (i:∀(j:Nat) t v,Tryz.f5.params[j]?=some t->args[j]?=some v->Value.okWide Tryz.prog W .any base t v)
  (d:DataW.Whole b Tryz.prog Tryz.f5.params.toList Rows.failsSpec.vars false W args.toList c h s) (f:(DataW.weightsEach Tryz.prog (Tryz.f5.params.toList++(OpenSpec.ofChange Rows.failsSpec).bare.plain.varTypes Tryz.prog) (c++h)).all (·<=reachBytes)=true) (u:laidMetH Tryz.prog Rows.failsRow.laid W):
  O 5 args W fun e g=>∃v,e=.returned v/\Rows.failsSpec.post b Tryz.prog Tryz.f5 false true false false W args v g:=by
 have k:=d;have l:=d.lt;obtain⟨p,q,m,w,rfl,Q,R⟩:=d;have n:DataW.TrodAll b Tryz.prog W 0 (fun _=>true) true Tryz.f5.params.toList args.toList c p:=m;rw[Tryz.params5]at n i f;obtain⟨o,S,U,X,x,Y,TA,rfl,rfl,y,z⟩:=trodAll_cons n;obtain⟨rfl,rfl,rfl⟩:=trodAll_nil z;obtain rfl:args= #[o]:=by cases args;simp_all
 obtain⟨rfl,rfl⟩:=trodVars_none w;clear m;simp only[aqB]at k f l;obtain⟨rY,B,cap,rfl,C,D,E,hn,F⟩:=amR y l (okWide_slice Tryz.underlying22 (i 0 _ o rfl rfl));have I:B.length<=1500000000000:=by
  rcases E with⟨_,rfl⟩|⟨elems,spare,rfl,L⟩
  ·simp
  rw[<-L];exact anj f
 refine(ana (cap:=cap) D C I (anh u)).mono fun e g M=> ?_
 obtain⟨rfl,r⟩:=M;exact⟨_,rfl,am8 (pa:=x) (pv:=[]) k (fun _ _ _=>trodAll_cons_mk (shut_bool Tryz.underlying4 _) trodAll_mk0) (fun N P=>by
   have :=F g r N P;exact trodAll_mk1 this) (fun _ _=>rfl) (by simp) r (ok_one (by kernel_rfl) rfl (okWide_bool_mk Tryz.underlying4 _))⟩
end Go.Proofs.YtnkpogjiiohapaaGreatDoor
