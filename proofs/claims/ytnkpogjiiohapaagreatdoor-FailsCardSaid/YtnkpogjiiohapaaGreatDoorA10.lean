/- Our own text. -/
import Derived.LoopN
import Derived.Deep.DeepCutAuto
import Derived.Test.YtnkpogjiiohapaaGreatDoorA08
import Derived.Test.YtnkpogjiiohapaaGreatDoorA07
import Derived.Test.YtnkpogjiiohapaaGreatDoorA06
import Derived.Test.YtnkpogjiiohapaaGreatDoorA09
set_option linter.unusedSimpArgs false
set_option linter.unusedVariables false
set_option maxRecDepth 1000000
set_option maxHeartbeats 1600000
namespace Go.Proofs.YtnkpogjiiohapaaGreatDoor
section
open Go.RowKit Tryz
variable {a:World}{b:List (PId×dR)}{c:List (PId×eO)}{d e f:Nat}
theorem VR(k:Nat)(b:k<=1)(w:World):O 182 #[.int .u64 k] w fun e a=>(∃m,e=.returned (A m))/\a=w:=by
 have :k=0\/k=1:=by omega
 rcases this with rfl|rfl
 all_goals go_enter func182,ntmps182
 all_goals go_wp2
 all_goals go_ret
 all_goals exact⟨⟨_,rfl⟩,rfl⟩
theorem aeR(a:Option Addr)(k c:Nat)(f:Value)(d:k<=1)(w:World):O 196 #[.slice a k c,A 0,A k,f] w fun e b=>e=.returned (.tuple #[])/\J w b:=by
 have :k=0\/k=1:=by omega
 rcases this with rfl|rfl
 all_goals go_enter func196,ntmps196
 all_goals go_wp2
 all_goals refine wp_loop_rounds 1 ?_
 all_goals rw[rounds_succ]
 all_goals go_wp2
 all_goals go_end0
 all_goals exact⟨rfl,apY _ _⟩
theorem aeS(a:Option Addr)(k c:Nat)(b:Int)(f:Value)(d:k<=1)(w:World):O 181 #[.slice a k c,A 0,A k,A b,f] w fun e g=>e=.returned (.tuple #[])/\J w g:=by
 have h:=aeR a k c f d w;have :k=0\/k=1:=by omega
 rcases this with rfl|rfl
 all_goals go_enter func181,ntmps181
 all_goals go_wp2_with fail
 all_goals refine wp_loop_rounds 1 ?_
 all_goals rw[rounds_succ]
 all_goals go_wp2_with fail
 all_goals refine h.mono ?_
 all_goals rintro e j ⟨rfl,i⟩
 all_goals go_wp2
 all_goals exact bodyPost_ret (v:=.tuple #[]) (by simp[results,results181,go_sem]) rfl ⟨rfl,i⟩
theorem aeT(a:Option Addr)(k c:Nat)(f:Value)(d:k<=1)(w:World):O 163 #[.slice a k c,f] w fun e g=>e=.returned (.tuple #[])/\J w g:=by
 have h:=VR k d w;have i:=fun b=>aeS a k c b f d w
 have :k=0\/k=1:=by omega
 rcases this with rfl|rfl
 all_goals go_enter func163,ntmps163
 all_goals go_wp2_with fail
 all_goals refine h.mono ?_
 all_goals rintro e l ⟨⟨b,rfl⟩,rfl⟩
 all_goals go_wp2_with fail
 all_goals refine(i b).mono ?_
 all_goals rintro e m ⟨rfl,j⟩
 all_goals go_wp2
 all_goals go_end0
 all_goals exact⟨rfl,j⟩
def lE (a:List (PId×eO)) (b:List (PId×dR)) (o:PId) (c:ByteArray) (x:PId):Bool:=
 if c=⟨#[]⟩ then(match bC x b with |some e=>decide (e.list=o)|none=>false) else(bC o a).isSome&& !nr o a
theorem VS:(⟨#[]⟩:ByteArray).toList=[]:=by
 unfold ByteArray.toList;unfold ByteArray.toList.loop;simp[ByteArray.size]
theorem HQ{key:ByteArray}(h:key≠⟨#[]⟩):key.toList.isEmpty=false:=by
 cases b:key.toList with
 |cons a l=>rfl
 |nil=>
  exfalso;apply h;rw[<-asp,beq_toListBytes,b,VS];rfl
theorem HR{w}(h:cz w d e f c b)(i j l m:Int)(q:ByteArray):
  O 136 #[Z d,.agg #[A i,A j,.string q,A l,A m]] w fun g w'=>g=.returned (.bool (lE c b (i,j) q (l,m)))/\J w w':=by
 have y:=h.a6;have F:=h.lt;have n:=aa ((apY w.heap.size w).alloc (apX _) (.cells #[A i,A j,.string q,A l,A m] 97));by_cases s:q=⟨#[]⟩
 ·subst s;have k:=n.o.drew;have p:=(n.o.alloc (by simp) (.cells #[A 0,A 0,A 0,A 0,.map none] 176)).drew;have u:=(h.ae k).sQ l m true;have x:=(h.ae p).sQ l m true;clear h k p;unfold lE;rw[if_pos rfl];generalize bC (l,m) b=L at *;cases L with
  |none=>
   simp only[arC,ar6,asz,if_true]at u x;go_enter func136,ntmps136;go_wp2;go_region
   all_goals go_wp2
   all_goals go_ret
   all_goals exact⟨rfl,by go_grown⟩
  |some o=>
   obtain⟨⟨q1,z⟩,I,M,N⟩:=o;simp only[aqJ,aqu,arV,if_true,oY]at u x;have heq:=uZ;go_enter func136,ntmps136;go_wp2;go_region
   all_goals go_wp2
   all_goals go_ret
   all_goals exact⟨mf (by rw[<-Og (q1,z) (i,j)]),by go_grown⟩
 have P:=HQ s;have C:=aa (fun W t=>HF (cz.ae h (w':=W) t) i j);have D:=aa (fun W t=>zl (cz.ae h (w':=W) t) i j);clear h y;unfold lE;rw[if_neg s];generalize(bC (i,j) c).isSome=B at *;generalize nr (i,j) c=G at *;go_enter func136,ntmps136;go_wp2_with fail
 refine(C.o _ n.o).mono ?_;rintro g Q ⟨rfl,k⟩;have R:=ae (a:=(V w 0)) (v:=A i) k (by simp[go_sem]);have S:=ae (a:=(V w 1)) (v:=A j) k (by simp[go_sem]);have r:=aa (n.o.trans (k.mono n.o.size));clear k;cases B
 ·go_wp2;go_ret
  exact⟨rfl,r.o⟩
 go_wp2_with fail
 refine(D.o _ r.o).mono ?_;rintro g U ⟨rfl,p⟩;have E:=aa (r.o.trans (p.mono r.o.size));clear p;go_wp2;go_ret
 exact⟨mf (by cases G<;>rfl),E.o⟩
def eZ (b:List (PId×eO)) (d:List (PId×dR)) (o:PId) (a:ByteArray) (x:PId):q4:=
 if lE b d o a x then
  (if a=⟨#[]⟩ then(match bC x d with |some e=>⟨e.v,e.aC⟩|none=>⟨none,[]⟩)
   else(match bC o b with |some f=>(match bC a f.ks with |some c=>c|none=>⟨none,[]⟩)|none=>⟨none,[]⟩))
 else⟨none,[]⟩
theorem fL {κ ν:Type} [DecidableEq κ] {x:κ} {m:List (κ×ν)} {v:ν} (h:bC x m=some v):(x,v)∈m:=by
 unfold bC at h;cases a:m.find? (fun p=>decide (x=p.1)) with
 |none=>rw[a]at h;cases h
 |some p=>
  rw[a]at h;simp at h;have b:=arO a;simp at b;have c:=arz a;rw[<-h,b];exact c
theorem cz.at{w g a}(h:cz w d f g a b)(o:PId)(key:ByteArray)(x:PId):iG w (eZ a b o key x).v (eZ a b o key x).aC:=by
 unfold eZ;split
 ·split
  ·split
   ·rename_i e i;exact h.aF _ (fL i)
   exact .inl ⟨rfl,rfl⟩
  split
  ·split
   ·rename_i _ l j _ c k;exact(h.hk _ (fL j)).2 _ (fL k)
   exact .inl ⟨rfl,rfl⟩
  exact .inl ⟨rfl,rfl⟩
 exact .inl ⟨rfl,rfl⟩
theorem Pz {κ:Type} [DecidableEq κ] {c:TypeId} {d:κ->Value} (b:xI κ c d) {t e:TypeId} (f:prog.underlying t=some (.map c e)) {z:Value} (g:(zeroValue e).run prog a=.ok z a) (x:κ) (ok:Bool):
  (Instr.lookup t (.map none) (d x) ok).run prog a=.ok (if ok then .tuple #[z,.bool false] else z) a:=by
 have h:=b.check true x a;have i:=b.find (fun v:Value=>v) x a [] [] rfl;unfold Instr.lookup;rw[aqt,run_underlying f,aqz];simp only[aqt,aqz,aq4];rw[show(#[]:Array MapEntry).isEmpty=true from rfl,h];simp only[aqz];rw[i];cases ok<;>simp[kt,g,aqt]
theorem PA(W:World):(zeroValue 159).run prog W=.ok (.map none) W:=by kernel_rfl
theorem rT.look{v e}(h:rT a v e)(d:ByteArray):
  (Instr.lookup 168 (.map v) (.string d) false).run prog a=.ok (.map (match bC d e with |some c=>c.v|none=>none)) a:=by
 rcases h.1 with⟨rfl,rfl⟩|⟨b,g,i,rfl,f⟩
 ·exact Pz Hf underlying168 (PA a) d false
 have :=yZ Hf f underlying168 (PA a) d false;rw[show(Value.string d)=nL d from rfl,this];cases bC d e<;>rfl
theorem HS(a b c d:Value)(r:Option Nat)(W:World):(Instr.field 176 (.agg #[a,b,c,d,.map r]) 2).run prog W=.ok (.map r) W:=by kernel_rfl
theorem Fz(a c d:Value)(r:Option Nat)(W:World):(Instr.field 170 (.agg #[a,.map r,c,d]) 1).run prog W=.ok (.map r) W:=by kernel_rfl
theorem LH{w X}(h:cz w d f X c b)(n p r l:Int)(k:ByteArray):
  O 86 #[Z d,.agg #[A n,A p,.string k,A r,A l]] w fun e Y=>e=.returned (.map (eZ c b (n,p) k (r,l)).v)/\J w Y:=by
 have m:=aa ((apY w.heap.size w).alloc (apX _) (.cells #[A n,A p,.string k,A r,A l] 97));have u:=aa (HR (h.ae m.o) n p r l k);by_cases C:k=⟨#[]⟩
 ·subst C;have y:=aa (fun W (s:J w W)=>(h.ae s).a6);have N:=aa (fun W (s:J w W)=>(h.ae s).sQ r l false);clear h;unfold eZ;simp only[if_true];generalize lE c b (n,p) ⟨#[]⟩ (r,l)=B at *;generalize bC (r,l) b=L at *;cases B
  ·go_enter func86,ntmps86;go_wp2_with fail
   refine u.o.mono ?_;rintro e x ⟨rfl,i⟩;have j:=aa (m.o.trans (i.mono m.o.size));clear i;go_wp2;go_ret
   exact⟨rfl,j.o⟩
  cases L with
  |none=>
   go_enter func86,ntmps86;go_wp2_with fail
   refine u.o.mono ?_;rintro e x ⟨rfl,i⟩;have D:=ae (a:=(V w 2)) (v:=.string ⟨#[]⟩) i (by simp[go_sem]);have np:=ae (a:=(V w 3)) (v:=A r) i (by simp[go_sem]);have rR:=ae (a:=(V w 4)) (v:=A l) i (by simp[go_sem]);have j:=aa (m.o.trans (i.mono m.o.size));clear i;have E:=y.o _ j.o;have t:=N.o _ j.o.drew;simp only[arC,ar6,aqM,if_false]at t;have F:=HS;have I:=Fz;go_wp2;go_region
   go_wp2;go_ret
   exact⟨rfl,j.o.drew⟩
  |some el=>
   obtain⟨q,on,apr,ovs⟩:=el;go_enter func86,ntmps86;go_wp2_with fail
   refine u.o.mono ?_;rintro e x ⟨rfl,i⟩;have D:=ae (a:=(V w 2)) (v:=.string ⟨#[]⟩) i (by simp[go_sem]);have np:=ae (a:=(V w 3)) (v:=A r) i (by simp[go_sem]);have rR:=ae (a:=(V w 4)) (v:=A l) i (by simp[go_sem]);have j:=aa (m.o.trans (i.mono m.o.size));clear i;have E:=y.o _ j.o;have t:=N.o _ j.o.drew;simp only[aqJ,aqu,aqM,if_false,oY]at t;have F:=HS;have I:=Fz;go_wp2;go_region
   go_wp2;go_ret
   exact⟨rfl,j.o.drew⟩
 have hW:=HQ C;have y:=aa (fun W (s:J w W)=>(h.ae s).bf);have P:=aa (fun W (s:J w W)=>(h.ae s).wK n p false);unfold eZ;simp only[C,if_false];have Q:=aa (fun M (bT:bC (n,p) c=some M) W (s:J w W)=>((h.hk _ (fL bT)).ae s).look k);clear h;generalize lE c b (n,p) k (r,l)=B at *;generalize bC (n,p) c=L at *;cases B
 ·go_enter func86,ntmps86;go_wp2_with fail
  refine u.o.mono ?_;rintro e x ⟨rfl,i⟩;have j:=aa (m.o.trans (i.mono m.o.size));clear i;go_wp2;go_ret
  exact⟨rfl,j.o⟩
 cases L with
 |none=>
  have HKN:=aa (fun W=>Pz Hf underlying168 (PA W) k false);go_enter func86,ntmps86;go_wp2_with fail
  refine u.o.mono ?_;rintro e x ⟨rfl,i⟩;have e7:=ae (a:=(V w 0)) (v:=A n) i (by simp[go_sem]);have gm:=ae (a:=(V w 1)) (v:=A p) i (by simp[go_sem]);have D:=ae (a:=(V w 2)) (v:=.string k) i (by simp[go_sem]);have j:=aa (m.o.trans (i.mono m.o.size));clear i;have E:=y.o _ j.o;have t:=P.o _ j.o.drew;have S:=HKN.o x.drew;simp only[arC,ar6,aqM,if_false,nL]at t S;have F:=HS;have I:=Fz;go_wp2;go_region
  go_wp2;go_ret
  exact⟨rfl,j.o.drew⟩
 |some M=>
  obtain⟨ol,yg,z,ofr⟩:=M;have U:=aa (Q.o _ rfl);clear Q;simp only at U;have l:(match bC k z with |some g=>g|none=>⟨none,[]⟩:q4).v=(match bC k z with |some g=>g.v|none=>none):=by cases bC k z<;>rfl
  simp only[if_true];rw[l];clear l;generalize(match bC k z with |some g=>g.v|none=>none:Option Nat)=R at *;go_enter func86,ntmps86;go_wp2_with fail
  refine u.o.mono ?_;rintro e x ⟨rfl,i⟩;have e7:=ae (a:=(V w 0)) (v:=A n) i (by simp[go_sem]);have gm:=ae (a:=(V w 1)) (v:=A p) i (by simp[go_sem]);have D:=ae (a:=(V w 2)) (v:=.string k) i (by simp[go_sem]);have j:=aa (m.o.trans (i.mono m.o.size));clear i;have E:=y.o _ j.o;have t:=P.o _ j.o.drew;have S:=U.o _ j.o.drew;simp only[aqJ,aqu,aqM,if_false,pL]at t;have F:=HS;have I:=Fz;go_wp2;go_region
  go_wp2;go_ret
  exact⟨rfl,j.o.drew⟩
end
section
open Go.RowKit Tryz
attribute [local go_sem] Oper.semAt_some
theorem aeU(args:Array Value)(w:World):(callFunc 164 args).run prog w=.ok (.enter 164 args) w:=
 enters_of func164 (by kernel_rfl) rfl args w
theorem aeV(c:Nat)(v:Option Nat)(a:List (PId×dU))(w:World)(f:w.cell? (H c)=some (.map v))(g:iG w v a)(l:a.length<=10000):
  O 162 #[.func (.func 164) #[] #[Z c]] w fun e h=>∃u b,e=.returned u/\b.Perm (a.map (·.1))/\gA w.heap.size h u b/\J w h:=by
 have m:=aa (callsIn_wide.1 (ad9 Fence.wide 3 trivial rfl (by omega) 164 #[Z c] trivial aeU (fun b=>b.Perm (a.map (·.1))) (fun _=>True) a.length l w (ad6 Fence.wide 2 trivial rfl (by omega) c v a w f g)));clear f g;go_enter func162,ntmps162;go_wp2_with fail
 refine m.o.mono ?_;rintro e n ⟨u,b,rfl,i,j,k⟩;have d:=aa (And.intro i (And.intro j k));clear i j k;go_wp2;go_ret
 exact⟨u,b,rfl,d.o.1,d.o.2.1,d.o.2.2⟩
end
section
open Go.RowKit Tryz
variable {a r:World}{b c f:Nat}{d:List (PId×dR)}{e:List (PId×eO)}{h:Nat->Prop}{i:TypeId}{j q s u:Int}{k:List (PId×dU)}{l:List MapEntry}{m v w y z:Value}{n:dR}
theorem VT(W:World):(zeroValue 57).run prog W=.ok (.agg #[A 0,A 0,A 0]) W:=by kernel_rfl
theorem iG.look{v}(h:iG a v k)(c d:Int):(Instr.lookup 159 (.map v) (.agg #[A c,A d]) false).run prog a=.ok (oX ((bC (c,d) k).getD (0,(0,0)))) a:=by
 rcases h with⟨rfl,rfl⟩|⟨b,f,g,rfl,e⟩
 ·exact Pz xK underlying159 (VT a) (c,d) false
 have :=yZ xK e underlying159 (VT a) (c,d) false;rw[show(Value.agg #[A c,A d])=c0 (c,d) from rfl,this];cases bC (c,d) k<;>rfl
theorem PB{v}(h:iG a v k){ty:TypeId}:(Builtin.len_ #[159] ty #[.map v]).run prog a=.ok (A k.length) a:=by
 unfold Builtin.len_;rcases h with⟨rfl,rfl⟩|⟨b,d,e,rfl,c⟩
 ·simp[run_underlying underlying159,goInt,aqt]
 simp[run_underlying underlying159,goInt,aqt,KG c.blk,c.len]
def ki (a:List (PId×dR)):PId->List PId->Prop
 |x,[]=>x=(0,0)
 |x,y::L=>x=y/\y≠(0,0)/\∃e,bC y a=some e/\ki a e.next L
def qu (a:List (PId×dR)) (y:PId):Bool:=match bC y a with |some e=>decide (0<e.aC.length)|none=>false
theorem ki.unique{c:List (PId×dR)}:∀{x:PId} {R b:List PId},ki c x R->ki c x b->R=b
 |_,[],[],_,_=>rfl
 |_,[],y::b,h,a=>absurd (a.1.symm.trans h) a.2.1
 |_,y::R,[],h,a=>absurd (h.1.symm.trans a) h.2.1
 |x,y::R,f::b,h,a=>by
  obtain⟨g,_,e,i,j⟩:=h;obtain⟨k,_,n,d,l⟩:=a;have m:y=f:=g.symm.trans k;subst m;rw[i]at d;cases d;rw[ki.unique j l]
theorem aeW(a:List (PId×dR)):∃e:PId->Nat,∀x R,ki a x R->e x=R.length:=by
 have c:∀x,∃n:Nat,∀R,ki a x R->n=R.length:=fun x=>by
  by_cases h:∃R,ki a x R
  ·obtain⟨R,h⟩:=h;exact⟨R.length,fun d b=>by rw[ki.unique h b]⟩
  exact⟨0,fun d b=>absurd ⟨d,b⟩ h⟩
 exact⟨fun x=>Classical.choose (c x),fun x=>Classical.choose_spec (c x)⟩
def HT (w:World):Value->PId
 |.pointer (some a)=>(intOf ((w.cell? (H a.block)).getD undef),intOf ((w.cell? (K a.block 1)).getD undef))
 |_=>(0,0)
theorem VU{x:PId}(h:a.heap[b]?=some (.cells #[A x.1,A x.2] 36 (0,0))):HT a (Z b)=x:=by
 simp[HT,World.cell?,h,intOf]
theorem aeX(a:Value)(m:Value)(b c:Int)(W:World):(Instr.field 170 (.agg #[a,m,A b,A c]) 2).run prog W=.ok (.agg #[A b,A c]) W:=by kernel_rfl
theorem aeY(a b m:Value)(c d:Int)(W:World):(Instr.field 176 (.agg #[a,b,A c,A d,m]) 1).run prog W=.ok (.agg #[A c,A d]) W:=by kernel_rfl
theorem VV(h:a.heap[b]?=some (.cells #[A s,A u] 36 (0,0))):((a.setCell (H b) (A j)).setCell (K b 1) (A q)).drew.heap[b]?=some (.cells #[A j,A q] 36 (0,0)):=by
 have c:=aN h;obtain⟨_,d⟩:=ap8.1 h;show((a.setCell (H b) (A j)).setCell (K b 1) (A q)).heap[b]?=_;simp[World.setCell,c,aq5,d]
theorem VW{L done rest:List PId}(g:done++(s,u)::rest=L)(e:a.heap.size<=b)(h:r.heap[b]?=some (.cells #[A s,A u] 36 (0,0)))(i:ki d (j,q) rest)(k:gA a.heap.size r m ((done++[(s,u)]).filter (qu d)))(f:m.ownBlock≠some b)(l:J a r):
  ∃done rest y c,done++rest=L/\Z b=Z c/\a.heap.size<=c/\((r.setCell (H b) (A j)).setCell (K b 1) (A q)).drew.heap[c]?=some (.cells #[A y.1,A y.2] 36 (0,0))/\
   ki d y rest/\gA a.heap.size ((r.setCell (H b) (A j)).setCell (K b 1) (A q)).drew m (done.filter (qu d))/\m.ownBlock≠some c/\J a ((r.setCell (H b) (A j)).setCell (K b 1) (A q)).drew:=
 ⟨done++[(s,u)],rest,(j,q),b,by simpa using g,rfl,e,VV h,i,asu (iV (iV k f _) f _),f,((l.setCell e _).setCell e _).drew⟩
theorem VX{rest}{wr:World}{e:PId->Nat}(f:∀x R,ki d x R->e x=R.length)(h:bC (j,q) d=some n)(i:n.next=(s,u))(k:(j,q)≠((0:Int),(0:Int)))(g:ki d (s,u) rest)(l:wr.heap[c]?=some (.cells #[A j,A q] 36 (0,0)))(m:a.heap[b]?=some (.cells #[A j,A q] 36 (0,0))):
  e (HT ((a.setCell (H b) (A s)).setCell (K b 1) (A u)).drew (Z b))<e (HT wr (Z c)):=by
 rw[VU (x:=(s,u)) (VV m),VU (x:=(j,q)) l,f _ _ g];have :ki d (j,q) ((j,q)::rest):=⟨rfl,k,n,h,by rw[i];exact g⟩;rw[f _ _ this];simp
theorem VZ{L}(h:cz r b c f e d)(C D:Int){Y:eO}(bT:bC (C,D) e=some Y)(hl:Y.list=true)(jQ:ki d Y.first L)(cv:L.length<=10000):
  O 57 #[Z b,.agg #[A C,A D]] r fun g w'=>∃u,g=.returned u/\gA r.heap.size w' u (L.filter (qu d))/\J r w':=by
 have a7:=aa ((apY r.heap.size r).alloc (apX _) (.cells #[A C,A D] 36));have bR:=aa (zl (h.ae a7.o) C D);have ak:nr (C,D) e=true:=by unfold nr;rw[bT];exact hl
 rw[ak]at bR;have P:=aa (fun W (ab:J r W)=>(h.ae ab).wK C D false);rw[bT]at P;have dd:=aa (fun W (ab:J r W)=>(h.ae ab).bf);obtain⟨Dq,V0⟩:=aeW d;have V1:=aa V0;clear V0;obtain⟨ol,yg,lV,⟨f1,f2⟩⟩:=Y;simp only at hl jQ;have qg:=aa jQ;clear jQ bT ak hl;simp only[aqJ,aqu,aqM,if_false,pL]at P;have t:=aa h;clear h;go_enter func57,ntmps57;go_wp2_with fail
 refine bR.o.mono ?_;rintro g E ⟨rfl,aq⟩;have cy:=ae (a:=(V r 0)) (v:=A C) aq (by simp[go_sem]);have bx:=ae (a:=(V r 1)) (v:=A D) aq (by simp[go_sem]);have z:=aa (a7.o.trans (aq.mono a7.o.size));clear aq;have M:=dd.o _ z.o;have dC:=P.o _ z.o;have cA:=P.o _ z.o.drew;have zq:=P.o _ (z.o.alloc z.o.size (.cells #[A 0,A 0] 36)).drew;have LJ:=aeX;have hz1:=z.o.size;have hx:=(t.o.ae z.o).lt;have qc:r.heap.size<E.heap.size:=aqd E _ cy;go_wp2;go_cut [6] (fun p wc=>p=Z E.heap.size/\wc=(E.alloc (.cells #[A f1,A f2] 36)).drew)
 case first =>
  go_region
  all_goals(go_wp2_with fail;go_meet)
  all_goals exact⟨rfl,rfl⟩
 case rest=>
  obtain⟨rfl,j2⟩:=hcut;have la:=aa (show J r wc by rw[j2];exact(z.o.alloc hz1 _).drew);have ow:=aa (show wc.heap[E.heap.size]?=some (.cells #[A f1,A f2] 36 (0,0)) by rw[j2];exact bI E _);clear j2 cy bx M dC cA zq LJ;go_wp2;go_loopw [5,6] (fun u p wr=>∃done rest y w,done++rest=L/\p=Z w/\r.heap.size<=w/\wr.heap[w]?=some (.cells #[A y.1,A y.2] 36 (0,0))/\ki d y rest/\gA r.heap.size wr u (done.filter (qu d))/\u.ownBlock≠some w/\J r wr) (fun _ p wr=>Dq (HT wr p))
  case atStart=>exact⟨[],L,(f1,f2),E.heap.size,rfl,rfl,hz1,ow.o,qg.o,aqe _ _ _ _,by simp[Value.ownBlock],la.o⟩
  case round=>
   obtain⟨done,rest,⟨i,j⟩,w,FA,rfl,zk,iW,V2,bu,bp,N⟩:=hrel;simp only at iW;have F:=aa iW;clear iW;have M:=(bl F.o).1;have a6:=(bl F.o).2;have c9:=aN F.o;have heq:=AO;have cR:=aa bu;clear bu;cases rest with
   |nil=>
    have aA:(i,j)=((0:Int),(0:Int)):=V2;injection aA with vq lX;subst vq;subst lX;go_wp2;go_ret
    have ai:done=L:=by simpa using FA
    exact⟨_,rfl,by rw[<-ai];exact cR.o,N⟩
   |cons x rest=>
    obtain⟨ao,FB,el,Q,pM⟩:=V2;subst ao;obtain⟨q,⟨cH,b8⟩,mQ,Dr⟩:=el;simp only at pM;have aob:eF i j 0 0=false:=by rw[yX];exact FB
    have Lo:=(t.o.ae N).a6;have kG:=(t.o.ae N.drew).sQ i j false;rw[Q]at kG;simp only[aqJ,aqu,aqM,if_false,oY]at kG;have r0:=PB ((t.o.aF _ (fL Q)).ae N.drew) (ty:=3);simp only at r0;have LI:=HS;have fn:=aeY;have V3:qu d (i,j)=decide (0<Dr.length):=by unfold qu;rw[Q]
    have vm:=aa V3;clear V3;have pK:=aa pM;clear pM;have nu:=aa Q;clear Q;have gP:=aa N;clear N;have sC:=gP.o.size;have V4:=(t.o.ae gP.o).lt;by_cases ad:0<Dr.length
    ·go_wp2;go_region
     obtain⟨k,l⟩:∃k,k=wr.drew:=⟨_,rfl⟩;rw[<-l];have B:=aa (show k.heap[w]?=some (.cells #[A i,A j] 36 (0,0)) by rw[l];exact F.o);have R:=aa (show gA r.heap.size k u5 (done.filter (qu d)) by rw[l];exact asu cR.o);have S:=aa (show J r k by rw[l];exact gP.o.drew);have aoc:(done.filter (qu d)).length<=10000:=by
      have h1:=aqR (qu d) done;have h2:done.length<=L.length:=by rw[<-FA,ap4];omega
      omega
     clear l kG r0 Lo;replace M:=(bl B.o).1;replace a6:=(bl B.o).2;have c9:=aN B.o;have LK:=S.o.size;go_wp2_with (at_builtin;go_must (refine N8 rfl (.tmp 37) (.tmp 39) rfl r.heap.size _ (done.filter (qu d)) rfl ?h1 k.heap.size 1 i j rfl ?h2 ?al ?aL ?b1 ?_;(case h1=>exact R.o.alloc _);(case h2=>simp[go_sem]);(case al=>simp[go_sem]);(case aL=>omega);(case b1=>simp;omega);intro v' U fE eD;have dN:=aa (show U.heap[w]?=some (.cells #[A i,A j] 36 (0,0)) from(eD.block w (by simp;omega) (fun g=>bp g.symm)).trans (mq B.o));have bd:=aa (gA.below (R.o.alloc _) (S.o.alloc LK _) (by simp;omega) eD);clear eD;have tP:=aa fE;clear fE;have a0:=(bl dN.o).1;have b2:=(bl dN.o).2;have ac:=(t.o.ae bd.o).a6))
     obtain⟨m,n⟩:∃m,m=U.alloc (.cells #[A i,A j] 36):=⟨_,rfl⟩;rw[<-n];have I:=aa (show J r m by rw[n];exact bd.o.alloc bd.o.size _);have s:=aa (show m.heap[U.heap.size]?=some (.cells #[A i,A j] 36 (0,0)) by rw[n];exact bI U _);have qv:=aa (show gA r.heap.size m v' (done.filter (qu d)++[(i,j)]) by rw[n];exact tP.o.alloc _);have kf:=aa (show v'.ownBlock≠some U.heap.size from fun g=>by have :=(ap1 tP.o _ g).2;omega);have s0:=(bl s.o).1;have s1:=(bl s.o).2;have Lx:=cG s.o;have ye:=(t.o.ae I.o).a6;have X:=(t.o.ae I.o.drew).sQ i j false;rw[nu.o]at X;simp only[aqJ,aqu,aqM,if_false,oY]at X;have hzz:=bd.o.size;clear n a0 b2 ac M a6;go_region
     all_goals(try go_wp2)
     all_goals go_roundw
     all_goals first
      |exact VW FA hzz s.o pK.o (by rw[arq,show[(i,j)].filter (qu d)=[(i,j)] by simp[vm.o,ad]];exact qv.o) kf.o I.o
      |exact VX V1.o nu.o rfl FB pK.o F.o s.o
    go_wp2;go_region
    obtain⟨k,l⟩:∃k,k=wr.drew:=⟨_,rfl⟩;rw[<-l];have B:=aa (show k.heap[w]?=some (.cells #[A i,A j] 36 (0,0)) by rw[l];exact F.o);have R:=aa (show gA r.heap.size k u5 (done.filter (qu d)) by rw[l];exact asu cR.o);have S:=aa (show J r k by rw[l];exact gP.o.drew);clear l kG r0 Lo;replace M:=(bl B.o).1;replace a6:=(bl B.o).2;have c9:=aN B.o;have LK:=S.o.size;go_wp2;obtain⟨m,n⟩:∃m,m=k.alloc (.cells #[A i,A j] 36):=⟨_,rfl⟩;rw[<-n];have I:=aa (show J r m by rw[n];exact S.o.alloc LK _);have s:=aa (show m.heap[k.heap.size]?=some (.cells #[A i,A j] 36 (0,0)) by rw[n];exact bI k _);have qv:=aa (show gA r.heap.size m u5 (done.filter (qu d)) by rw[n];exact R.o.alloc _);have kf:=aa (show u5.ownBlock≠some k.heap.size from fun g=>by have :=(ap1 R.o _ g).2;omega);have s0:=(bl s.o).1;have s1:=(bl s.o).2;have Lx:=cG s.o;have ye:=(t.o.ae I.o).a6;have X:=(t.o.ae I.o.drew).sQ i j false;rw[nu.o]at X;simp only[aqJ,aqu,aqM,if_false,oY]at X;clear n M a6;go_region
    all_goals(try go_wp2)
    all_goals go_roundw
    all_goals first
     |exact VW FA LK s.o pK.o (by rw[arq,show[(i,j)].filter (qu d)=[] by simp[vm.o,ad],aqB];exact qv.o) kf.o I.o
     |exact VX V1.o nu.o rfl FB pK.o F.o s.o
structure fM (aB be:Nat) (R:Nat->Prop) (os:List (PId×eO)) (ba:List (PId×dR)):Prop where
 ne:aB≠be
 ro:¬R aB
 FC:¬R be
 fG:∀p∈os,∀b,p.2.fG=some b->R b
 ij:∀p∈os,∀k∈p.2.ks,∀b,k.2.v=some b->R b
 fX:∀p∈ba,∀b,p.2.v=some b->R b
theorem fM.mono{R}(a:fM c f R e d)(j:∀k,R k->h k)(l:¬h c)(m:¬h f):fM c f h e d:=
 ⟨a.ne,l,m,fun p g b i=>j b (a.fG p g b i),fun p g k n b i=>j b (a.ij p g k n b i),fun p g b i=>j b (a.fX p g b i)⟩
structure aO (S:Nat->Prop) (w w':World):Prop where
 os:w'.os=w.os
 tape:w'.tape=w.tape
 output:w'.output=w.output
 size:w.heap.size<=w'.heap.size
 other:∀k,k<w.heap.size->¬S k->w'.heap[k]?=w.heap[k]?
theorem aO.cJ{S:Nat->Prop}{w w':World}(h:J w w'):aO S w w':=⟨h.os,h.tape,h.output,h.size,fun k a _=>h.block k a⟩
theorem aO.trans{S a b c}(h:aO S a b)(k:aO S b c):aO S a c:=
 ⟨k.os.trans h.os,k.tape.trans h.tape,k.output.trans h.output,ap0 h.size k.size,fun i d e=>by rw[k.other i (ap3 d h.size) e,h.other i d e]⟩
theorem aO.mono{S w w'}{S':Nat->Prop}(h:aO S w w')(a:∀k,S k->S' k):aO S' w w':=⟨h.os,h.tape,h.output,h.size,fun k b c=>h.other k b (fun d=>c (a k d))⟩
theorem aO.put{S:Nat->Prop}(o:Obj)(c:S b):aO S a (putObj a b o):=
 ⟨rfl,rfl,rfl,by simp[putObj],fun k _ d=>tN (fun e=>d (e▸c))⟩
theorem isMap.gJ {κ ν:Type} {d:κ->Value} {e:ν->Value} {m:List (κ×ν)} {f:Array MapEntry} (h:isMap d e a b m f c) (g:r.heap[b]?=a.heap[b]?):isMap d e r b m f c:=⟨by rw[g];exact h.blk,h.mG,h.nodup,h.old⟩
theorem iG.gJ{w v c}{a:World}(h:iG w v c)(d:∀b,v=some b->a.heap[b]?=w.heap[b]?):iG a v c:=
 h.imp id fun⟨b,f,g,e,i⟩=>⟨b,f,g,e,i.gJ (d b e)⟩
theorem rT.gJ{w v c}{a:World}(h:rT w v c)(f:∀b,v=some b->a.heap[b]?=w.heap[b]?)(g:∀k∈c,∀b,k.2.v=some b->a.heap[b]?=w.heap[b]?):rT a v c:=
 ⟨h.1.imp id fun⟨b,i,j,e,l⟩=>⟨b,i,j,e,l.gJ (f b e)⟩,fun p d=>(h.2 p d).gJ (g p d)⟩
theorem ox {κ ν:Type} [DecidableEq κ] {x:κ} {v:ν}:∀{m:List (κ×ν)} {p:κ×ν},p∈cE x v m->p∈m\/p=(x,v)
 |[],p,h=>by simp[cE]at h;exact .inr h
 |q::m,p,h=>by
  unfold cE at h;split at h
  ·rcases aqb.1 h with h|h
   ·exact .inr h
   exact .inl (aqh _ h)
  rcases aqb.1 h with h|h
  ·exact .inl (h▸aqf)
  rcases ox h with h|h
  ·exact .inl (aqh _ h)
  exact .inr h
theorem cz.Ds{t}(i:cz a f b c t d)(m:fM b c h t d)(x:PId)(o:eO)(n:rT a o.fG o.ks)(y:∀g,o.fG=some g->h g)(z:∀k∈o.ks,∀g,k.2.v=some g->h g):
  ∃q r,(Instr.mapUpdate 171 (.map (some b)) (c0 x) (pL o)).run prog a=.ok () (putObj a b (.map q r))/\cz (putObj a b (.map q r)) f b c (cE x o t) d/\fM b c h (cE x o t) d:=by
 obtain⟨M,N,B⟩:=i.af;obtain⟨D,E,F⟩:=i.he;obtain⟨q,r,I,L⟩:=xJ xK B underlying171 x o;have w:∀k,k≠b->(putObj a b (.map q r)).heap[k]?=a.heap[k]?:=fun k n=>tN n
 have s:∀k,h k->(putObj a b (.map q r)).heap[k]?=a.heap[k]?:=fun k n=>w k (fun e=>m.ro (e▸n))
 refine⟨q,r,I,⟨?_,⟨q,r,L⟩,⟨D,E,F.gJ (w c (aqa m.ne))⟩,?_,?_⟩,⟨m.ne,m.ro,m.FC,?_,?_,m.fX⟩⟩
 ·rw[w f (fun e=>by subst e;have C:=i.ai;rw[B.blk]at C;cases C)];exact i.ai
 ·intro p j;rcases ox j with j|rfl
  ·exact(i.hk p j).gJ (fun g l=>s g (m.fG p j g l)) (fun k n g l=>s g (m.ij p j k n g l))
  exact n.gJ (fun g l=>s g (y g l)) (fun k u g l=>s g (z k u g l))
 ·intro p j;exact(i.aF p j).gJ (fun g l=>s g (m.fX p j g l))
 ·intro p j g l;rcases ox j with j|rfl
  ·exact m.fG p j g l
  exact y g l
 intro p j k u g l;rcases ox j with j|rfl
 ·exact m.ij p j k u g l
 exact z k u g l
theorem cz.zr{r}(i:cz a f c b r d)(l:fM c b h r d)(x:PId)(e:dR)(z:iG a e.v e.aC)(u:∀g,e.v=some g->h g):
  ∃n o,(Instr.mapUpdate 172 (.map (some b)) (c0 x) (oY e)).run prog a=.ok () (putObj a b (.map n o))/\cz (putObj a b (.map n o)) f c b r (cE x e d)/\fM c b h r (cE x e d):=by
 obtain⟨B,C,D⟩:=i.af;obtain⟨I,L,w⟩:=i.he;obtain⟨n,o,E,F⟩:=xJ xK w underlying172 x e;have t:∀k,k≠b->(putObj a b (.map n o)).heap[k]?=a.heap[k]?:=fun k q=>tN q
 have s:∀k,h k->(putObj a b (.map n o)).heap[k]?=a.heap[k]?:=fun k q=>t k (fun e=>l.FC (e▸q))
 refine⟨n,o,E,⟨?_,⟨B,C,D.gJ (t c l.ne)⟩,⟨n,o,F⟩,?_,?_⟩,⟨l.ne,l.ro,l.FC,l.fG,l.ij,?_⟩⟩
 ·rw[t f (fun e=>by subst e;have y:=i.ai;rw[w.blk]at y;cases y)];exact i.ai
 ·intro p j;exact(i.hk p j).gJ (fun g m=>s g (l.fG p j g m)) (fun k q g m=>s g (l.ij p j k q g m))
 ·intro p j;rcases ox j with j|rfl
  ·exact(i.aF p j).gJ (fun g m=>s g (l.fX p j g m))
  exact z.gJ (fun g m=>s g (u g m))
 intro p j g m;rcases ox j with j|rfl
 ·exact l.fX p j g m
 exact u g m
theorem aeZ{R}(h:cz a f b c e d)(s:fM b c R e d)(j:Bool)(l m:Int):
  O 305 #[.agg #[.bool j],Z f,.agg #[A l,A m]] a fun g t=>(∃r,g=.returned r)/\cz t f b c (cE (l,m) ⟨j,none,[],(0,0)⟩ e) d/\fM b c R (cE (l,m) ⟨j,none,[],(0,0)⟩ e) d/\aO (fun k=>k=b) a t:=by
 have n:J a ((a.alloc (.cells #[.bool j] 197)).alloc (.cells #[A l,A m] 36)).drew:=(((apY _ a).alloc (apX _) _).alloc (by simp) _).drew;have C:=h.bf;have D:=h.lt;obtain⟨w,x,y,u,v⟩:=(h.ae n).Ds s (l,m) ⟨j,none,[],(0,0)⟩ ⟨.inl ⟨rfl,rfl⟩,fun p z=>by cases z⟩ (fun i n=>by cases n) (fun k B=>by cases B);simp only[c0,pL]at y;have q:=aa (And.intro u (And.intro v ((aO.cJ n).trans (aO.put (S:=fun k=>k=b) (.map w x) rfl))));clear h s u v n;go_enter func305,ntmps305;go_wp2;go_region
 all_goals(try go_wp2)
 all_goals go_end0
 all_goals exact⟨⟨_,rfl⟩,q.o.1,q.o.2.1,q.o.2.2⟩
theorem FD{j:Array MapEntry}{o:Obj}{d:Array Value}{g:Nat×Nat}(k:a.heap[b]?=some (.map j f))(h:a.heap[c]?=some (.cells d i g)):(putObj a.drew b o).heap[c]?=some (.cells d i g):=by
 rw[tN (fun e=>by subst e;rw[k]at h;cases h)];exact h
theorem cz.other{j s t u}{w':World}(h:cz a j s t u d){g:Nat}{c:Array Value}{f:Nat×Nat}(w:∀k,k≠g->w'.heap[k]?=a.heap[k]?)(C:j≠g)(x:a.heap[g]?=some (.cells c i f)):cz w' j s t u d:=by
 have o:∀{b:Nat} {l:Array MapEntry} {m:Nat},a.heap[b]?=some (.map l m)->w'.heap[b]?=a.heap[b]?:=fun D=>w _ (fun e=>by subst e;rw[D]at x;cases x)
 obtain⟨l,m,y⟩:=h.af;obtain⟨E,F,z⟩:=h.he;have q:∀{v:Option Nat} {B:List (PId×dU)},iG a v B->iG w' v B:=fun q=>q.imp id fun⟨b,l,m,e,n⟩=>⟨b,l,m,e,n.gJ (o n.blk)⟩
 exact⟨by rw[w j C];exact h.ai,⟨l,m,y.gJ (o y.blk)⟩,⟨E,F,z.gJ (o z.blk)⟩,
  fun p r=>⟨(h.hk p r).1.imp id fun⟨b,l,m,e,n⟩=>⟨b,l,m,e,n.gJ (o n.blk)⟩,fun k I=>q ((h.hk p r).2 k I)⟩,fun p r=>q (h.aF p r)⟩
abbrev cX:=List (PId×eO)×List (PId×dR)
def mv (D:cX) (x b id:PId):cX:=
 match bC x D.1 with
 |none=>D
 |some a=>
  if a.list=false then D
  else if b=(0,0) then(cE x {a with first :=id} D.1,cE id ⟨x,a.first,none,[]⟩ D.2)
  else match bC b D.2 with
   |none=>D
   |some e=>if e.list=x then(D.1,cE b {e with next :=id} (cE id ⟨x,e.next,none,[]⟩ D.2)) else D
theorem V5(h:cz a b c f e d)(i j l m n p:Int)(q:nr (i,j) e=false):
  O 298 #[.agg #[A i,A j,A l,A m],Z b,.agg #[A n,A p]] a fun g u=>(∃r,g=.returned r)/\J a u:=by
 have k:=aa (((apY a.heap.size a).alloc (apX _) (.cells #[A i,A j,A l,A m] 179)).alloc (by simp) (.cells #[A n,A p] 36));have s:=aa (zl (h.ae k.o) i j);rw[q]at s;clear h q;go_enter func298,ntmps298;go_wp2_with fail
 refine s.o.mono ?_;rintro g x ⟨rfl,t⟩;have w:=aa (k.o.trans (t.mono k.o.size));clear t;go_wp2;exact bodyPost_ret (v:=.tuple #[]) (by simp[results,results298,go_sem]) rfl ⟨⟨_,rfl⟩,w.o⟩
theorem ae0{R}(h:cz a f c b e d)(af:fM c b R e d)(j l n q:Int){u:eO}(bT:bC (j,l) e=some u)(hl:u.list=true):
  O 298 #[.agg #[A j,A l,A 0,A 0],Z f,.agg #[A n,A q]] a fun i w'=>(∃r,i=.returned r)/\
   cz w' f c b (cE (j,l) {u with first :=(n,q)} e) (cE (n,q) ⟨(j,l),u.first,none,[]⟩ d)/\fM c b R (cE (j,l) {u with first :=(n,q)} e) (cE (n,q) ⟨(j,l),u.first,none,[]⟩ d)/\aO (fun k=>k=c\/k=b) a w':=by
 have a7:=aa (((apY a.heap.size a).alloc (apX _) (.cells #[A j,A l,A 0,A 0] 179)).alloc (by simp) (.cells #[A n,A q] 36));have bR:=aa (zl (h.ae a7.o) j l);have ak:nr (j,l) e=true:=by unfold nr;rw[bT];exact hl
 rw[ak]at bR;obtain⟨ol,U,lV,⟨f1,f2⟩⟩:=u;simp only at hl;subst hl;have W:=aa bT;clear bT ak;have E:=aa h;clear h;have cR:=aa af;clear af;have heq:=uZ;have PE:eF 0 0 0 0=true:=rfl;go_enter func298,ntmps298;go_wp2_with fail
 refine bR.o.mono ?_;rintro i m ⟨rfl,X⟩;have y:=aa (show m.heap[a.heap.size]?=some (.cells #[A j,A l,A 0,A 0] 179 (0,0)) by rw[X.block a.heap.size (by simp;omega)];exact mq (bI _ _));have Y:=aa (show m.heap[a.heap.size+1]?=some (.cells #[A n,A q] 36 (0,0)) by rw[X.block (a.heap.size+1) (by simp)];exact(by simp :(a.alloc (.cells #[A j,A l,A 0,A 0] 179)).heap.size=a.heap.size+1)▸bI (a.alloc (.cells #[A j,A l,A 0,A 0] 179)) _);have F:=aa (a7.o.trans (X.mono a7.o.size));clear X;have z:=vh y.o;have B:=vi y.o;have bU:=x5 y.o;have gX:=sR y.o;have I:=(bl Y.o).1;have L:=(bl Y.o).2;have o3:=aa (E.o.ae F.o);have C:=o3.o.bf;have a6:=o3.o.a6;have dC:=(E.o.ae F.o.drew).wK j l false;have hz1:=F.o.size;have cA:=(E.o.ae (F.o.alloc hz1 (.cells #[.bool false,.map none,A 0,A 0] 170)).drew).wK j l false;rw[W.o]at dC cA;simp only[aqJ,aqu,aqM,if_false,pL]at dC cA;have hx:=o3.o.lt;have ku:=aN y.o;have jf:=aN Y.o;go_wp2;go_cut [6] (fun p wc=>p=Z m.heap.size/\wc=(m.alloc (.cells #[.bool true,.map U,A f1,A f2] 170)).drew)
 case first =>
  go_region
  all_goals(go_wp2_with fail;go_meet)
  all_goals exact⟨rfl,rfl⟩
 case rest=>
  obtain⟨rfl,j2⟩:=hcut;have la:=aa (show J m wc by rw[j2];exact((apY _ m).alloc (apX _) _).drew);have M:=aa (show wc.heap[m.heap.size]?=some (.cells #[.bool true,.map U,A f1,A f2] 170 (0,0)) by rw[j2];exact bI m _);have dv:=aa (F.o.trans (la.o.mono hz1));clear j2 z B bU gX I L C a6 dC cA;have zs:=aa (E.o.ae dv.o);have zt:=aa (bj y.o la.o);have zu:=aa (bj Y.o la.o);have z:=vh zt.o;have B:=vi zt.o;have I:=(bl zu.o).1;have L:=(bl zu.o).2;have gW:=vh M.o;have bh:=vi M.o;have bO:=x5 M.o;have lz:=sR M.o;have C:=zs.o.bf;have a6:=zs.o.a6;obtain⟨vs,vt,HV,qw,mg⟩:=(E.o.ae dv.o.drew).zr cR.o (n,q) ⟨(j,l),(f1,f2),none,[]⟩ (.inl ⟨rfl,rfl⟩) (fun g N=>by cases N);simp only[c0,oY]at HV;have w:=aa (And.intro qw mg);clear qw mg;obtain⟨P,eJ⟩:∃P,P=wc:=⟨_,rfl⟩;subst eJ;go_wp2;go_cut [] (fun wc=>wc=putObj P.drew b (.map vs vt))
  case first =>
   go_region
   all_goals(go_wp2_with fail;go_meet)
   all_goals rfl
  case rest=>
   have eX:b<P.heap.size:=by obtain⟨_,_,hm⟩:=zs.o.he;exact hm.lt
   obtain⟨esE,ae1,zv⟩:=zs.o.he;have yd:=aa (show wc.heap[a.heap.size]?=some _ by rw[hcut];exact FD zv.blk zt.o);have tS:=aa (show wc.heap[a.heap.size+1]?=some _ by rw[hcut];exact FD zv.blk zu.o);have x:=aa (show wc.heap[m.heap.size]?=some _ by rw[hcut];exact FD zv.blk M.o);rw[<-hcut]at w;have Q:=aa (show aO (fun k=>k=c\/k=b) a wc by rw[hcut];exact(aO.cJ dv.o.drew).trans (aO.put _ (.inr rfl)));have hsz:wc.heap.size=P.heap.size:=by rw[hcut];simp[putObj]
   clear hcut zv z B I L gW bh bO lz C a6 HV;have z:=vh yd.o;have B:=vi yd.o;have I:=(bl tS.o).1;have L:=(bl tS.o).2;have gW:=vh x.o;have bh:=vi x.o;have bO:=x5 x.o;have lz:=sR x.o;have of:=cG x.o;have C:=w.o.1.bf;have V4:=w.o.1.lt;go_wp2;obtain⟨s,t⟩:∃s,s=(wc.setCell (V m 2) (A n)).setCell (V m 3) (A q):=⟨_,rfl⟩;rw[<-t];have dY:∀k,k≠m.heap.size->s.heap[k]?=wc.heap[k]?:=fun k D=>by rw[t,aqr _ _ _ _ D,aqr _ _ _ _ D]
   have eA:=aa (show s.heap[m.heap.size]?=some (.cells #[.bool true,.map U,A n,A q] 170 (0,0)) by rw[t];exact Ls (Pg x.o));have tb:=aa (w.o.1.other dY (by omega) x.o);have wN:=aa ((dY _ (by omega)).trans yd.o);have Be:=aa (show aO (fun k=>k=c\/k=b) a s from⟨by rw[t];exact Q.o.os,by rw[t];exact Q.o.tape,by rw[t];exact Q.o.output,by rw[t];have :=Q.o.size;simpa[World.setCell]using this,fun k D ad=>by rw[dY k (by omega),Q.o.other k D ad]⟩);clear t dY z B I L gW bh bO lz of C;have z:=vh wN.o;have B:=vi wN.o;have gW:=vh eA.o;have bh:=vi eA.o;have bO:=x5 eA.o;have lz:=sR eA.o;have C:=tb.o.bf;have mO:=aa (show J s s.drew from(apY _ s).drew);have hkq:=tb.o.hk;obtain⟨jz,jA,Dt,gZ,fE⟩:=(tb.o.ae mO.o).Ds w.o.2 (j,l) ⟨true,U,lV,(n,q)⟩ ((tb.o.hk _ (fL W.o)).ae mO.o) (fun g N=>w.o.2.fG _ (fL W.o) g N) (fun k D g N=>w.o.2.ij _ (fL W.o) k D g N);simp only[c0,pL]at Dt;have aP:=aa (And.intro gZ (And.intro fE (Be.o.trans ((aO.cJ mO.o).trans (aO.put (S:=fun k=>k=c\/k=b) (.map jz jA) (.inl rfl))))));clear gZ fE hkq;go_wp2;go_region
   all_goals(try go_wp2)
   all_goals exact bodyPost_ret (v:=.tuple #[]) (by simp[results,results298,go_sem]) rfl ⟨⟨_,rfl⟩,aP.o.1,aP.o.2.1,aP.o.2.2⟩
theorem gb{w:World}{g:Nat}{e:Value}{f:Nat×Nat}(h:w.heap[g]?=some (.cells #[m,v,y,z,e] i f)):
  w.cell? (H g)=some m/\w.cell? (K g 1)=some v/\w.cell? (K g 2)=some y/\w.cell? (K g 3)=some z/\w.cell? (K g 4)=some e:=by simp[World.cell?,h]
theorem iG.FE{S v}(h:iG a v k)(d:aO S a r)(f:∀b,v=some b->¬S b):iG r v k:=
 h.imp id fun⟨b,g,i,e,c⟩=>⟨b,g,i,e,c.gJ (d.other b c.lt (f b e))⟩
theorem ae2{c d:Value}(h:a.heap[b]?=some (.cells #[m,v,c,d,w] i (0,0))):((a.setCell (K b 2) y).setCell (K b 3) z).heap[b]?=some (.cells #[m,v,y,z,w] i (0,0)):=by
 have e:=aN h;obtain⟨_,f⟩:=ap8.1 h;simp[World.setCell,e,aq5,f]
theorem ae3{R}(h:cz a f c b e d)(af:fM c b R e d)(j l m s v w:Int)(hl:nr (j,l) e=true)(aZ:(m,s)≠((0:Int),(0:Int)))(ej:bC (m,s) d=some n)(ao:n.list=(j,l)):
  O 298 #[.agg #[A j,A l,A m,A s],Z f,.agg #[A v,A w]] a fun g w'=>(∃r,g=.returned r)/\
   cz w' f c b e (cE (m,s) {n with next :=(v,w)} (cE (v,w) ⟨(j,l),n.next,none,[]⟩ d))/\fM c b R e (cE (m,s) {n with next :=(v,w)} (cE (v,w) ⟨(j,l),n.next,none,[]⟩ d))/\aO (fun k=>k=c\/k=b) a w':=by
 have a7:=aa (((apY a.heap.size a).alloc (apX _) (.cells #[A j,A l,A m,A s] 179)).alloc (by simp) (.cells #[A v,A w] 36));have bR:=aa (zl (h.ae a7.o) j l);rw[hl]at bR;obtain⟨q,⟨cH,b8⟩,F,Dr⟩:=n;simp only at ao;subst ao;have I:=aa ej;clear ej hl;have z:=aa h;clear h;have B:=aa af;clear af;have heq:=uZ;have bp:=AO;have PE:eF m s 0 0=false:=by rw[yX];exact aZ
 have ae4:eF j l j l=true:=by rw[CL]
 go_enter func298,ntmps298;go_wp2_with fail
 refine bR.o.mono ?_;rintro g u ⟨rfl,P⟩;have C:=aa (show u.heap[a.heap.size]?=some (.cells #[A j,A l,A m,A s] 179 (0,0)) by rw[P.block a.heap.size (by simp;omega)];exact mq (bI _ _));have ui:=aa (show u.heap[a.heap.size+1]?=some (.cells #[A v,A w] 36 (0,0)) by rw[P.block (a.heap.size+1) (by simp)];exact(by simp :(a.alloc (.cells #[A j,A l,A m,A s] 179)).heap.size=a.heap.size+1)▸bI (a.alloc (.cells #[A j,A l,A m,A s] 179)) _);have L:=aa (a7.o.trans (P.mono a7.o.size));clear P;have cy:=vh C.o;have Du:=vi C.o;have Q:=x5 C.o;have U:=sR C.o;have o3:=aa (z.o.ae L.o);have D:=o3.o.a6;have dC:=(z.o.ae L.o.drew).sQ m s true;have hz1:=L.o.size;have cA:=(z.o.ae (L.o.alloc hz1 (.cells #[A 0,A 0,A 0,A 0,.map none] 176)).drew).sQ m s true;rw[I.o]at dC cA;simp only[aqJ,aqu,arV,if_true,oY]at dC cA;have hx:=o3.o.lt;have ku:=aN C.o;have jf:=aN ui.o;go_wp2;go_cut [7,8] (fun p t wc=>p=Z u.heap.size/\t=.bool true/\wc=(u.alloc (.cells #[A j,A l,A cH,A b8,.map F] 176)).drew)
 case first =>
  go_region
  all_goals(go_wp2_with fail;go_meet)
  all_goals exact⟨rfl,rfl,rfl⟩
 case rest=>
  obtain⟨rfl,rfl,j2⟩:=hcut;have la:=aa (show J u wc by rw[j2];exact((apY _ u).alloc (apX _) _).drew);have q7:=aa (show wc.heap[u.heap.size]?=some (.cells #[A j,A l,A cH,A b8,.map F] 176 (0,0)) by rw[j2];exact bI u _);have dv:=aa (L.o.trans (la.o.mono hz1));clear j2 cy Du Q U D dC cA;have zs:=aa (z.o.ae dv.o);have zt:=aa (bj C.o la.o);have zu:=aa (bj ui.o la.o);have cy:=vh zt.o;have Du:=vi zt.o;have a0:=(bl zu.o).1;have b2:=(bl zu.o).2;obtain⟨W,X,Y,lz,zd⟩:=gb q7.o;have D:=zs.o.a6;obtain⟨vs,vt,HV,qw,mg⟩:=(z.o.ae dv.o.drew).zr B.o (v,w) ⟨(j,l),(cH,b8),none,[]⟩ (.inl ⟨rfl,rfl⟩) (fun i E=>by cases E);simp only[c0,oY]at HV;have M:=aa (And.intro qw mg);clear qw mg;obtain⟨w2,eJ⟩:∃w2,w2=wc:=⟨_,rfl⟩;subst eJ;go_wp2;go_cut [] (fun wc=>wc=putObj w2.drew b (.map vs vt))
  case first =>
   go_region
   all_goals(go_wp2_with fail;go_meet)
   all_goals rfl
  case rest=>
   obtain⟨esE,ae1,zv⟩:=zs.o.he;have yd:=aa (show wc.heap[a.heap.size]?=some _ by rw[hcut];exact FD zv.blk zt.o);have tS:=aa (show wc.heap[a.heap.size+1]?=some _ by rw[hcut];exact FD zv.blk zu.o);have pQ:=aa (show wc.heap[u.heap.size]?=some _ by rw[hcut];exact FD zv.blk q7.o);rw[<-hcut]at M;have N:=aa (show aO (fun k=>k=c\/k=b) a wc by rw[hcut];exact(aO.cJ dv.o.drew).trans (aO.put _ (.inr rfl)));have hsz:wc.heap.size=w2.heap.size:=by rw[hcut];simp[putObj]
   clear hcut zv cy Du a0 b2 W X Y lz zd D HV;have Q:=x5 yd.o;have U:=sR yd.o;have a0:=(bl tS.o).1;have b2:=(bl tS.o).2;obtain⟨W,X,Y,lz,zd⟩:=gb pQ.o;have of:=cG pQ.o;have D:=M.o.1.a6;have V4:=M.o.1.lt;go_wp2;obtain⟨x,y⟩:∃x,x=(wc.setCell (V u 2) (A v)).setCell (V u 3) (A w):=⟨_,rfl⟩;rw[<-y];have dY:∀k,k≠u.heap.size->x.heap[k]?=wc.heap[k]?:=fun k hk=>by rw[y,aqr _ _ _ _ hk,aqr _ _ _ _ hk]
   have eA:=aa (show x.heap[u.heap.size]?=some (.cells #[A j,A l,A v,A w,.map F] 176 (0,0)) by rw[y];exact ae2 pQ.o);have tb:=aa (M.o.1.other dY (by omega) pQ.o);have wN:=aa ((dY _ (by omega)).trans yd.o);have Be:=aa (show aO (fun k=>k=c\/k=b) a x from⟨by rw[y];exact N.o.os,by rw[y];exact N.o.tape,by rw[y];exact N.o.output,by rw[y];have :=N.o.size;simpa[World.setCell]using this,fun k hk ad=>by rw[dY k (by omega),N.o.other k hk ad]⟩);clear y dY Q U a0 b2 W X Y lz zd of D;have Q:=x5 wN.o;have U:=sR wN.o;obtain⟨W,X,Y,lz,zd⟩:=gb eA.o;have D:=tb.o.a6;have mO:=aa (show J x x.drew from(apY _ x).drew);have PF:=aa (show iG x.drew F Dr from((z.o.aF _ (fL I.o)).FE Be.o (fun i E ad=>ad.elim (fun g=>B.o.ro (g▸B.o.fX _ (fL I.o) i E)) (fun g=>B.o.FC (g▸B.o.fX _ (fL I.o) i E)))).ae mO.o);obtain⟨jz,jA,Dt,gZ,fE⟩:=(tb.o.ae mO.o).zr M.o.2 (m,s) ⟨(j,l),(v,w),F,Dr⟩ PF.o (fun i E=>B.o.fX _ (fL I.o) i E);simp only[c0,oY]at Dt;have aP:=aa (And.intro gZ (And.intro fE (Be.o.trans ((aO.cJ mO.o).trans (aO.put (S:=fun k=>k=c\/k=b) (.map jz jA) (.inr rfl))))));clear gZ fE;go_wp2;go_region
   all_goals(try go_wp2)
   all_goals go_end0
   all_goals exact⟨⟨_,rfl⟩,aP.o.1,aP.o.2.1,aP.o.2.2⟩
theorem ae5(h:cz a b c f e d)(k l i j q s:Int)(w:nr (k,l) e=true)(F:(i,j)≠((0:Int),(0:Int)))(x:bC (i,j) d=none):
  O 298 #[.agg #[A k,A l,A i,A j],Z b,.agg #[A q,A s]] a fun g I=>(∃r,g=.returned r)/\J a I:=by
 have t:=aa (((apY a.heap.size a).alloc (apX _) (.cells #[A k,A l,A i,A j] 179)).alloc (by simp) (.cells #[A q,A s] 36));have y:=aa (zl (h.ae t.o) k l);rw[w]at y;have L:=aa x;clear x w;have u:=aa h;clear h;have heq:=uZ;have N:=AO;have P:eF i j 0 0=false:=by rw[yX];exact F
 go_enter func298,ntmps298;go_wp2_with fail
 refine y.o.mono ?_;rintro g z ⟨rfl,p⟩;have m:=aa (show z.heap[a.heap.size]?=some (.cells #[A k,A l,A i,A j] 179 (0,0)) by rw[p.block a.heap.size (by simp;omega)];exact mq (bI _ _));have M:=aa (show z.heap[a.heap.size+1]?=some (.cells #[A q,A s] 36 (0,0)) by rw[p.block (a.heap.size+1) (by simp)];exact(by simp :(a.alloc (.cells #[A k,A l,A i,A j] 179)).heap.size=a.heap.size+1)▸bI (a.alloc (.cells #[A k,A l,A i,A j] 179)) _);have n:=aa (t.o.trans (p.mono t.o.size));clear p;have Q:=vh m.o;have R:=vi m.o;have S:=x5 m.o;have U:=sR m.o;have B:=aa (u.o.ae n.o);have W:=B.o.a6;have C:=(u.o.ae n.o.drew).sQ i j true;have D:=n.o.size;have E:=(u.o.ae (n.o.alloc D (.cells #[A 0,A 0,A 0,A 0,.map none] 176)).drew).sQ i j true;rw[L.o]at C E;simp only[arC,ar6,asz,if_true]at C E;have X:=B.o.lt;have Y:=aN m.o;have jf:=aN M.o;go_wp2;go_region
 all_goals go_wp2
 all_goals exact bodyPost_ret (v:=.tuple #[]) (by simp[results,results298,go_sem]) rfl ⟨⟨_,rfl⟩,(n.o.alloc D _).drew⟩
theorem ae6(h:cz a b c f e d)(k l i j s t:Int)(x:nr (k,l) e=true)(L:(i,j)≠((0:Int),(0:Int)))(y:bC (i,j) d=some n)(z:n.list≠(k,l)):
  O 298 #[.agg #[A k,A l,A i,A j],Z b,.agg #[A s,A t]] a fun g M=>(∃r,g=.returned r)/\J a M:=by
 have u:=aa (((apY a.heap.size a).alloc (apX _) (.cells #[A k,A l,A i,A j] 179)).alloc (by simp) (.cells #[A s,A t] 36));have B:=aa (zl (h.ae u.o) k l);rw[x]at B;obtain⟨⟨q1,N⟩,⟨R,S⟩,U,W⟩:=n;simp only at z;have P:=aa y;clear y x;have w:=aa h;clear h;have heq:=uZ;have X:=AO;have Y:eF i j 0 0=false:=by rw[yX];exact L
 have ae4:eF q1 N k l=false:=by rw[yX];exact z
 go_enter func298,ntmps298;go_wp2_with fail
 refine B.o.mono ?_;rintro g C ⟨rfl,q⟩;have m:=aa (show C.heap[a.heap.size]?=some (.cells #[A k,A l,A i,A j] 179 (0,0)) by rw[q.block a.heap.size (by simp;omega)];exact mq (bI _ _));have Q:=aa (show C.heap[a.heap.size+1]?=some (.cells #[A s,A t] 36 (0,0)) by rw[q.block (a.heap.size+1) (by simp)];exact(by simp :(a.alloc (.cells #[A k,A l,A i,A j] 179)).heap.size=a.heap.size+1)▸bI (a.alloc (.cells #[A k,A l,A i,A j] 179)) _);have p:=aa (u.o.trans (q.mono u.o.size));clear q;have cy:=vh m.o;have Du:=vi m.o;have FF:=x5 m.o;have gX:=sR m.o;have D:=aa (w.o.ae p.o);have a6:=D.o.a6;have E:=(w.o.ae p.o.drew).sQ i j true;have F:=p.o.size;have I:=(w.o.ae (p.o.alloc F (.cells #[A 0,A 0,A 0,A 0,.map none] 176)).drew).sQ i j true;rw[P.o]at E I;simp only[aqJ,aqu,arV,if_true,oY]at E I;have hx:=D.o.lt;have ku:=aN m.o;have jf:=aN Q.o;go_wp2;go_region
 all_goals go_wp2
 all_goals exact bodyPost_ret (v:=.tuple #[]) (by simp[results,results298,go_sem]) rfl ⟨⟨_,rfl⟩,(p.o.alloc F _).drew⟩
theorem ae7(g:cz a f b c e d)(C:fM b c h e d)(x j i:PId):
  O 298 #[.agg #[A x.1,A x.2,A j.1,A j.2],Z f,.agg #[A i.1,A i.2]] a fun l w=>(∃r,l=.returned r)/\
   cz w f b c (mv (e,d) x j i).1 (mv (e,d) x j i).2/\fM b c h (mv (e,d) x j i).1 (mv (e,d) x j i).2/\aO (fun k=>k=b\/k=c) a w:=by
 have skip:∀l w,(∃r,l=Ending.returned r)/\J a w->(∃r,l=.returned r)/\cz w f b c e d/\fM b c h e d/\aO (fun k=>k=b\/k=c) a w:=fun l w D=>⟨D.1,g.ae D.2,C,aO.cJ D.2⟩
 obtain⟨m,n⟩:=x;obtain⟨q,s⟩:=j;obtain⟨o,p⟩:=i;cases u:bC (m,n) e with
 |none=>
  have t:mv (e,d) (m,n) (q,s) (o,p)=(e,d):=by simp[mv,u]
  rw[t];exact(V5 g m n q s o p (by simp[nr,u])).mono skip
 |some E=>
  cases v:E.list with
  |false=>
   have t:mv (e,d) (m,n) (q,s) (o,p)=(e,d):=by simp[mv,u,v]
   rw[t];exact(V5 g m n q s o p (by simp[nr,u,v])).mono skip
  |true=>
   have F:nr (m,n) e=true:=by simp[nr,u,v]
   by_cases y:(q,s)=((0:Int),(0:Int))
   ·injection y with L M;subst L;subst M;have t:mv (e,d) (m,n) (0,0) (o,p)=(cE (m,n) {E with first :=(o,p)} e,cE (o,p) ⟨(m,n),E.first,none,[]⟩ d):=by simp[mv,u,v]
    rw[t];exact ae0 g C m n o p u v
   cases z:bC (q,s) d with
   |none=>
    have t:mv (e,d) (m,n) (q,s) (o,p)=(e,d):=by simp only[mv,u,v,z];rw[if_neg (by simp),if_neg y]
    rw[t];exact(ae5 g m n q s o p F y z).mono skip
   |some I=>
    by_cases B:I.list=(m,n)
    ·have t:mv (e,d) (m,n) (q,s) (o,p)=(e,cE (q,s) {I with next :=(o,p)} (cE (o,p) ⟨(m,n),I.next,none,[]⟩ d)):=by simp only[mv,u,v,z];rw[if_neg (by simp),if_neg y,if_pos B]
     rw[t];exact ae3 g C m n q s o p F y z B
    have t:mv (e,d) (m,n) (q,s) (o,p)=(e,d):=by simp only[mv,u,v,z];rw[if_neg (by simp),if_neg y,if_neg B]
    rw[t];exact(ae6 g m n q s o p F y z B).mono skip
def ji {ν:Type} (a:List MapEntry) (m:List ν) (e:MapEntry):Option ν:=((a.zip m).find? fun z=>z.1.born==e.born).map (·.2)
theorem LL {ν:Type} {m:List ν} (c:(l.map (·.born)).Nodup) (f:l.length=m.length) (d:b<l.length):ji l m l[b]=some (m[b]'(by omega)):=by
 unfold ji;have :(l.zip m).find? (fun z=>z.1.born==l[b].born)=some (l[b],m[b]'(by omega)):=by
  rw[ar5];refine⟨by simp,b,by simp;omega,by simp,fun j e=> ?_⟩;have a:=aqT.1 c j b (by simp;omega) (by simpa using d) e;simp at a;simpa using a
 rw[this];rfl
theorem PG {ν:Type} {m:List ν} (c:(l.map (·.born)).Nodup) (a:l.length=m.length):l.filterMap (ji l m)=m:=by
 have d:l.map (ji l m)=m.map some:=by
  apply arF
  ·simp[a]
  intro i e b;simp only[aqH];rw[LL c a (by simpa using e)]
 have b:l.filterMap (ji l m)=(l.map (ji l m)).filterMap id:=by rw[List.filterMap_map];rfl
 rw[b,d,List.filterMap_map];simp
theorem PH {κ ν:Type} {a:κ->Value} {b:ν->Value} {m:List (κ×ν)} (d:(l.map (·.born)).Nodup) (h:kL a b l m) {e:MapEntry} (f:e∈l):
  ∃p∈m,ji l m e=some p/\e.key=a p.1/\e.val=b p.2:=by
 have g:l.length=m.length:=by have :=congrArg List.length h;simpa using this
 obtain⟨i,c,rfl⟩:=aqv.1 f;have j:i<m.length:=by omega
 refine⟨m[i],ap6 _,LL d g c,?_⟩;have :=congrArg (·[i]?) h;simp[c,j]at this;exact this
def o4 (a:List (ByteArray×q4)):List ByteArray:=(a.filter fun p=>decide (0<p.2.aC.length)).map (·.1)
end
section
open Go.RowKit Tryz
open Go.ChangeMaps (setBlock)
variable {a:World}{b c d i:Nat}{e j:Array MapEntry}{f:List MapEntry}{h:Nat->Prop}
def yh (s:ByteArray):List Value:=[.string s]
def pR (B:Nat) (w:World) (v:Value) (l:List ByteArray):Prop:=w.ownsRow B 9 1 v l.length (l.flatMap yh)
theorem LM{i:Array Oper}{rest:List Oper}{o:Oper}{b:Act}{Q:Exit->Act->World->Prop}(k:o.guard=none)(s x:Operand)(m:o.op=.call {callee:=.builtin .append,args:= #[s,x],argTypes:= #[43,43]})(B:Nat)(v:Value)(l:List ByteArray)(n:b.eval s=v)(p:pR B a v l)(g c:Nat)(y:ByteArray)(q:b.eval x=.slice (some (H g)) 1 c)(w:a.cell? (H g)=some (.string y))(z:l.length<1000000000)(r:B<=a.heap.size)(h:∀e d,pR B d e (l++[y])->a.grownBy d v.ownBlock->wpList prog i Q rest (b.put o.dst e) d):wpList prog i Q (o::rest) b a:=
 Kw yh 1 16 43 9 (.string ⟨#[]⟩) (by kernel_rfl) underlying43 rfl (by omega) (fun _=>rfl) k s x m B v l n p g c y q
  (fun j u f=>by match j with |0=>simp[yh]at f;simp_all|j+1=>contradiction) (fun u f=>by simp[yh]at f;subst f;rfl) (by omega) (by unfold maxLen;omega) r (fun e d C t=>h e d (by unfold pR;simp_all) t)
theorem V6(a c d:Value)(r:Option Nat)(W:World):(Instr.field 170 (.agg #[a,.map r,c,d]) 1).run prog W=.ok (.map r) W:=Fz a c d r W
theorem Walk.grown{seen w}{m:Option Nat}(h:Walk j d b c seen f w)(n:w.grownBy a m)(o:∀g,m=some g->∃i t k,w.heap[g]?=some (.cells i t k)):Walk j d b c seen f a:=by
 refine⟨?_,?_,h.seen,h.sub⟩
 ·rw[n.block b (ap8.1 h.map).1 (fun e=>by obtain⟨i,t,k,l⟩:=o b e.symm;rw[h.map]at l;cases l)];exact h.map
 rw[n.block c (ap8.1 h.iter).1 (fun e=>by obtain⟨i,t,k,l⟩:=o c e.symm;rw[h.iter]at l;cases l)];exact h.iter
theorem ae8{w os ba}(h:cz w b c d os ba)(I L:Int){aV:eO}(bT:bC (I,L) os=some aV)(cv:aV.ks.length<=10000)(LN:List ByteArray->List ByteArray)(ae9:∀(W:World) (v:Value) (l:List ByteArray),pR w.heap.size W v l->l.length<=10000->O 188 #[v] W fun e c5=>(∃r,e=.returned r)/\pR w.heap.size c5 v (LN l)/\W.grownBy c5 v.ownBlock)(Bf:∀l l',l.Perm l'->LN l=LN l'):
  O 169 #[Z b,.agg #[A I,A L]] w fun e w'=>∃u,e=.returned u/\pR w.heap.size w' u (LN (o4 aV.ks))/\J w w':=by
 have R:=aa ((apY w.heap.size w).alloc (apX _) (.cells #[A I,A L] 36));have wu:=aa (HF (h.ae R.o) I L);rw[bT]at wu;have pP:=aa (fun W (S:J w W)=>(h.ae S).wK I L false);rw[bT]at pP;have dd:=aa (fun W (S:J w W)=>(h.ae S).bf);have hs:=aa (fun W (S:J w W)=>(h.hk _ (fL bT)).ae S);obtain⟨ol,yg,q,⟨f1,f2⟩⟩:=aV;simp only at cv hs;simp only[aqJ,aqu,aqM,if_false,pL,arV]at pP wu;have az:=aa h;have V7:=aa ae9;have zc:=Fz;rcases(hs.o w (apY _ _)).1 with⟨rfl,rfl⟩|⟨f,j,s,rfl,hm⟩
 ·go_enter func169,ntmps169;go_wp2_with fail
  refine wu.o.mono ?_;rintro e n ⟨rfl,D⟩;have cy:=ae (a:=(V w 0)) (v:=A I) D (by simp);have bx:=ae (a:=(V w 1)) (v:=A L) D (by simp);have t:=aa (R.o.trans (D.mono R.o.size));have bf:=dd.o _ t.o;have cA:=pP.o _ t.o.drew;have hz1:=t.o.size;have qm:=run_range_nilMap (P:=prog) n.drew 168 9 159 underlying168;have PI:=V6;go_wp2;go_region
  obtain⟨x,C⟩:∃x,x=(n.alloc (.mapIter none 0 #[] 0)).drew:=⟨_,rfl⟩;rw[<-C];have LO:=aa (show J w x by rw[C];exact(t.o.alloc hz1 _).drew);have pM:(Instr.next (Z n.heap.size) false 0).run prog x=.ok (.tuple #[.bool false]) x:=by rw[C];exact run_next_nilMap (P:=prog) n.drew 0 0 0 #[]
  clear C cy bx bf cA qm PI zc;have jL:=aa (V7.o x (.slice none 0 0) [] (aqe _ _ _ _) (by simp));go_wp2;go_loopw [5] (fun u wr=>u=.slice none 0 0/\wr=x) (fun _ _=>0)
  case atStart=>simp
  case round=>
   obtain⟨rfl,k8⟩:=hrel;subst k8;go_wp2_with fail
   refine jL.o.mono ?_;rintro e w3 ⟨⟨r,rfl⟩,U,E⟩;have X:=aa (And.intro U E);clear U E;go_wp2;go_ret
   exact⟨_,rfl,X.o.1,LO.o.grown X.o.2 LO.o.size (fun k M=>by cases M)⟩
 have y:=aa hm;clear hm;have eX:=y.o.lt;go_enter func169,ntmps169;go_wp2_with fail
 refine wu.o.mono ?_;rintro e n ⟨rfl,D⟩;have cy:=ae (a:=(V w 0)) (v:=A I) D (by simp);have bx:=ae (a:=(V w 1)) (v:=A L) D (by simp);have t:=aa (R.o.trans (D.mono R.o.size));clear D;have bf:=dd.o _ t.o;have cA:=pP.o _ t.o.drew;have hz1:=t.o.size;have vu:=aa (y.o.ae t.o.drew);have qm:=run_range_map (P:=prog) n.drew 168 9 159 f j s underlying168 vu.o.blk;have PI:=V6;go_wp2;go_region
 obtain⟨x,C⟩:∃x,x=(n.alloc (.mapIter (some f) s #[] s)).drew:=⟨_,rfl⟩;rw[<-C];have LO:=aa (show J w x by rw[C];exact(t.o.alloc hz1 _).drew);have HW:=aa (show Walk j s f n.heap.size #[] [] x by
  rw[C];exact⟨(hK n _ (y.o.ae t.o).lt).trans (y.o.ae t.o).blk,heap_alloc_new n _,rfl,fun e z=>by cases z⟩)
 clear C cy bx bf cA qm PI zc vu;go_wp2;go_loopw [5] (fun u wr=>∃seen m,Walk j s f n.heap.size seen m wr/\(m.map (·.born)).Nodup/\m.length+(leftOf j seen).size<=q.length/\pR w.heap.size wr u (o4 (m.filterMap (ji j.toList q)))/\J w wr) (fun _ wr=>Fs f n.heap.size wr)
 case atStart=>exact⟨#[],[],HW.o,by simp,by rw[<-y.o.len];simp only[aqC,aqQ];exact Array.size_filter_le,aqe _ _ _ _,LO.o⟩
 case round=>
  obtain⟨seen,m,A7,cO,wF,bu,a8⟩:=hrel;have F:=aa A7;clear A7;have eL:=aa cO;clear cO;have cR:=aa bu;clear bu;have gP:=aa a8;clear a8;have sC:=gP.o.size;rcases run_next_at (P:=prog) wr 0 n.heap.size f s s seen j s F.o.iter F.o.map y.o.old (apX _) with⟨tY,fl⟩|⟨e,z,ou,uk,fl⟩
  ·have ah:=F.o.all y.o.nodup eL.o tY;have et:=aa (show(o4 (m.filterMap (ji j.toList q))).Perm (o4 q) by
    have h1:=ah.filterMap (ji j.toList q);rw[PG y.o.nodup (by have :=y.o.len;omega)]at h1;unfold o4;exact(h1.filter _).map _)
   have o5:=aa (show(o4 (m.filterMap (ji j.toList q))).length<=10000 by
    rw[et.o.length_eq];unfold o4;rw[ap2];exact ap0 (aqR _ _) cv)
   have jL:=aa (V7.o wr u5 _ cR.o o5.o);go_wp2_with fail
   refine jL.o.mono ?_;rintro e w3 ⟨⟨r,rfl⟩,U,E⟩;have X:=aa (And.intro U E);clear U E;go_wp2;go_ret
   refine⟨_,rfl,?_,gP.o.grown X.o.2 sC (fun k M=>(ap1 cR.o k M).1)⟩;rw[<-Bf _ _ et.o];exact X.o.1
  have gY:e∈j.toList:=by unfold leftOf at z;simp at z;simpa using z.1
  obtain⟨⟨N,hX⟩,pS,Dv,Bg,Bd⟩:=PH y.o.nodup y.o.mG gY;have p:=aa (F.o.next (by omega) z uk);obtain⟨B,eJ⟩:∃B,B=setBlock ou n.heap.size (.mapIter (some f) s (seen.push e.born) s):=⟨_,rfl⟩;rw[<-eJ]at fl p;have oq:=run_entry_at (P:=prog) B n.heap.size f s seen j s e p.o.iter p.o.map gY y.o.nodup;rw[Bg,Bd]at fl oq;simp only[nL,ve]at fl oq;have eD:wr.grownBy B (some n.heap.size):=by rw[eJ];exact Lr uk _ _
  clear eJ uk;have bd:=aa (gP.o.grown eD sC (fun k M=>by cases M;omega));have Y:=aa (show pR w.heap.size B u5 (o4 (m.filterMap (ji j.toList q))) from ca cR.o (fun g ag=>by
   obtain⟨b7,Q⟩:=bq cR.o ag;exact eD.block g (ap8.1 Q).1 (fun e=>by injection e with e;subst e;rw[F.o.iter]at Q;cases Q)))
  have dN:=aa eD;clear eD;have Bh:=aa (show((m++[e]).map (·.born)).Nodup by
   rw[aqi,aqF];refine⟨eL.o,by simp,fun a av i hc Df=> ?_⟩;simp at hc;subst hc;unfold leftOf at z;simp at z;rw[<-F.o.seen]at av;rw[Df]at av;exact z.2 (by simpa using av))
  have HKV:=aa ((hs.o _ bd.o).2 _ pS);have r0:=PB HKV.o (ty:=3);have lC:=aa (HG z);have sI:=aa (show(m++[e]).filterMap (ji j.toList q)=m.filterMap (ji j.toList q)++[(N,hX)] by rw[List.filterMap_append];simp[Dv]);have wL:=lC.o;have afa:=bd.o.size;simp only at r0;by_cases ad:0<hX.aC.length
  ·have jq:(o4 (m.filterMap (ji j.toList q))).length<=10000:=by
    unfold o4;rw[ap2];refine ap0 (aqR _ _) (ap0 (List.length_filterMap_le _ _) (by omega))
   go_wp2_with (at_builtin;go_must (refine LM rfl (.tmp 28) (.tmp 30) rfl w.heap.size _ (o4 (m.filterMap (ji j.toList q))) rfl ?h1 B.heap.size 1 N rfl ?h2 ?aL ?b1 ?_;(case h1=>exact arj Y.o _);(case h2=>simp);(case aL=>omega);(case b1=>simp;omega);intro v' w3 gi E;have nw:=aa E;clear E;have qv:=aa gi;clear gi))
   go_roundw
   case rel=>
    have gn:Walk j s f n.heap.size (seen.push e.born) (m++[e]) w3:=by
     refine Walk.grown ?_ nw.o (fun g ag=> ?_)
     ·exact⟨(hK B _ (ap8.1 p.o.map).1).trans p.o.map,(hK B _ (ap8.1 p.o.iter).1).trans p.o.iter,p.o.seen,p.o.sub⟩
     obtain⟨b7,Q⟩:=bq (arj Y.o (.cells #[.string N] 9)) ag;exact⟨_,_,_,Q⟩
    refine⟨_,_,gn,Bh.o,by simp;omega,?_,?_⟩
    ·rw[sI.o];have :o4 (m.filterMap (ji j.toList q)++[(N,hX)])=o4 (m.filterMap (ji j.toList q))++[N]:=by unfold o4;simp[ad]
     rw[this];exact qv.o
    exact(bd.o.alloc afa _).grown nw.o (by simp;omega) (fun k M=>(ap1 Y.o k M).1)
   case measure=>
    have gn:Walk j s f n.heap.size (seen.push e.born) (m++[e]) w3:=by
     refine Walk.grown ?_ nw.o (fun g ag=> ?_)
     ·exact⟨(hK B _ (ap8.1 p.o.map).1).trans p.o.map,(hK B _ (ap8.1 p.o.iter).1).trans p.o.iter,p.o.seen,p.o.sub⟩
     obtain⟨b7,Q⟩:=bq (arj Y.o (.cells #[.string N] 9)) ag;exact⟨_,_,_,Q⟩
    rw[gn.left,F.o.left];exact wL
  go_wp2;go_roundw
  case rel=>
   refine⟨_,_,p.o,Bh.o,by simp;omega,?_,bd.o⟩;rw[sI.o];have :o4 (m.filterMap (ji j.toList q)++[(N,hX)])=o4 (m.filterMap (ji j.toList q)):=by unfold o4;simp[ad]
   rw[this];exact Y.o
  case measure=>rw[p.o.left,F.o.left];exact wL
theorem V8 {κ ν:Type} [DecidableEq κ] {x:κ}:∀{m:List (κ×ν)} {i:Nat},x∉m.map (·.1)->kt x m i=none
 |[],_,_=>rfl
 |p::m,i,h=>by
  simp only[aqj,aqb,not_or]at h;unfold kt;rw[if_neg h.1];exact V8 h.2
theorem V9 {κ ν:Type} [DecidableEq κ] {x:κ} {m:List (κ×ν)} (h:x∉m.map (·.1)) (v:ν):cE x v m=m++[(x,v)]:=(Oh (V8 h)).1 v
theorem Wa {κ ν:Type} {o:κ->Value} {r:ν->Value} {a:List (κ×ν)} (h:(f.map (·.born)).Nodup) (s:kL o r f a) (k:(a.map (·.1)).Nodup) {d:List MapEntry} (t:∀e∈d,e∈f) {e:MapEntry} (u:e∈f) (l:((d++[e]).map (·.born)).Nodup) {p:κ×ν} (b:ji f a e=some p):
  p.1∉(d.filterMap (ji f a)).map (·.1):=by
 have m:f.length=a.length:=by have :=congrArg List.length s;simp_all
 intro v;obtain⟨q,w,x⟩:=ap5.1 v;obtain⟨y,n,c⟩:=List.mem_filterMap.1 w;obtain⟨i,z,rfl⟩:=aqv.1 u;obtain⟨j,B,rfl⟩:=aqv.1 (t y n);rw[LL h m z]at b;rw[LL h m B]at c;injection b with b;injection c with c;rw[<-b,<-c]at x;have C:i=j:=by
  apply Classical.byContradiction;intro D;rcases ast D with g|g
  ·exact aqT.1 k i j (by simp;omega) (by simp;omega) g (by simp_all)
  exact aqT.1 k j i (by simp;omega) (by simp;omega) g (by simp_all)
 subst C;rw[aqi,aqF]at l;exact l.2.2 f[i].born (ap5.2 ⟨_,n,rfl⟩) f[i].born (by simp) rfl
theorem aO.set{w wr}(c:aO h w wr)(e:a=wr\/a=wr.drew)(i:w.heap.size<=b)(o:Obj):aO h w (setBlock a b o):=by
 have d:a.heap=wr.heap/\a.os=wr.os/\a.tape=wr.tape/\a.output=wr.output:=by rcases e with rfl|rfl<;>exact⟨rfl,rfl,rfl,rfl⟩
 refine⟨d.2.1.trans c.os,d.2.2.1.trans c.tape,d.2.2.2.trans c.output,by simp[setBlock,d.1];exact c.size,fun k f g=> ?_⟩;have :b≠k:=by omega
 simp[setBlock,arJ,this,d.1];exact c.other k f g
theorem aO.PJ{wr}(b:aO h a wr)(o:Obj):aO h a (wr.alloc o):=
 ⟨b.os,b.tape,b.output,by have :=b.size;simp;omega,fun k c d=>(hK wr o (ap3 c b.size)).trans (b.other k c d)⟩
theorem aO.Wb{wr}(b:aO h a wr):aO h a wr.drew:=⟨b.os,b.tape,b.output,b.size,b.other⟩
theorem Walk.put{seen}(h:Walk e i b c seen f a)(g:d≠b)(j:d≠c)(o:Obj):Walk e i b c seen f (putObj a d o):=
 ⟨(tN (aqa g)).trans h.map,(tN (aqa j)).trans h.iter,h.seen,h.sub⟩
theorem Walk.alloc{a c b r seen l w}(h:Walk a c b r seen l w)(o:Obj):Walk a c b r seen l (w.alloc o):=
 ⟨(hK w _ (ap8.1 h.map).1).trans h.map,(hK w _ (ap8.1 h.iter).1).trans h.iter,h.seen,h.sub⟩
theorem afb{m}(Q:isMap c0 oX a d [] j i)(B:isMap c0 oX a c m e b)(R:d≠c)(hk:(m.map (·.1)).Nodup):
  O 302 #[.map (some d),.map (some c)] a fun f S=>(∃r,f=.returned r)/\(∃U t u,U.Perm m/\isMap c0 oX S d U t u)/\aO (fun k=>k=d) a S:=by
 have qm:=run_range_map (P:=prog) a 159 36 57 c e b underlying159 B.blk;go_enter func302,ntmps302;have c9:=Q.lt;have eX:=B.lt;have HW:=aa (show Walk e b c a.heap.size #[] [] (a.alloc (.mapIter (some c) b #[] b)) from⟨(hK a _ eX).trans B.blk,heap_alloc_new a _,rfl,fun f n=>by cases n⟩);have ix:=aa (show isMap c0 oX (a.alloc (.mapIter (some c) b #[] b)) d [] j i from Q.ae ((apY _ a).alloc (apX _) _));have p:=aa B;go_wp2;go_loopw [4] (fun _ wr=>∃seen q,Walk e b c a.heap.size seen q wr/\(q.map (·.born)).Nodup/\(∃t u,isMap c0 oX wr d (q.filterMap (ji e.toList m)) t u)/\aO (fun k=>k=d) a wr) (fun _ wr=>Fs c a.heap.size wr)
 case atStart=>exact⟨#[],[],HW.o,by simp,⟨_,_,ix.o⟩,aO.cJ ((apY _ a).alloc (apX _) _)⟩
 case round=>
  obtain⟨seen,q,A7,cO,⟨t,u,PK⟩,Bi⟩:=hrel;have s:=aa A7;have W:=aa cO;have I:=aa PK;have X:=aa Bi;rcases run_next_at (P:=prog) wr 0 a.heap.size c b b seen e b s.o.iter s.o.map p.o.old (apX _) with⟨tY,C⟩|⟨f,n,Y,D,C⟩
  ·have ah:=s.o.all p.o.nodup W.o tY;have et:=aa (show(q.filterMap (ji e.toList m)).Perm m by
    have h1:=ah.filterMap (ji e.toList m);rwa [PG p.o.nodup (by have :=p.o.len;omega)]at h1)
   go_wp2;go_end0
   exact⟨⟨_,rfl⟩,⟨_,_,_,et.o,I.o⟩,X.o⟩
  have L:f∈e.toList:=by unfold leftOf at n;simp at n;simpa using n.1
  obtain⟨⟨⟨v,w⟩,⟨x,y,z⟩⟩,pS,Dv,Bg,Bd⟩:=PH p.o.nodup p.o.mG L;have E:=aa (s.o.next (by omega) n D);have Bh:=aa (show((q++[f]).map (·.born)).Nodup by
   rw[aqi,aqF];refine⟨W.o,by simp,fun g M l hc Df=> ?_⟩;simp at hc;subst hc;unfold leftOf at n;simp at n;rw[<-s.o.seen]at M;rw[Df]at M;exact n.2 (by simpa using M))
  have lC:=aa (HG n);have iy:=aa (X.o.set D (apX _) (.mapIter (some c) b (seen.push f.born) b));have dN:=aa (show isMap c0 oX (setBlock Y a.heap.size (.mapIter (some c) b (seen.push f.born) b)) d (q.filterMap (ji e.toList m)) t u from I.o.gJ ((Lr D _ _).block d I.o.lt (by simp;omega)));obtain⟨F,eJ⟩:∃F,F=setBlock Y a.heap.size (.mapIter (some c) b (seen.push f.born) b):=⟨_,rfl⟩;rw[<-eJ]at C E iy dN;clear eJ D;have oq:=run_entry_at (P:=prog) F a.heap.size c b seen e b f E.o.iter E.o.map L p.o.nodup;rw[Bg,Bd]at C oq;simp only[c0,oX]at C oq;have sI:=aa (show(q++[f]).filterMap (ji e.toList m)=q.filterMap (ji e.toList m)++[((v,w),(x,y,z))] by rw[List.filterMap_append];simp[Dv]);have wQ:=aa (Wa p.o.nodup p.o.mG hk s.o.sub L Bh.o Dv);have mP:=aa ((iy.o.PJ (.cells #[A v,A w] 36)).PJ (.cells #[A x,A y,A z] 57));have hU:=aa ((E.o.alloc (.cells #[A v,A w] 36)).alloc (.cells #[A x,A y,A z] 57));have nw:=aa (dN.o.ae (((apY _ F).alloc (apX _) (.cells #[A v,A w] 36)).alloc (by simp) (.cells #[A x,A y,A z] 57)));obtain⟨LP,PL,tc,N⟩:=xJ xK nw.o underlying159 (v,w) (x,y,z);rw[V9 wQ.o,<-sI.o]at N;simp only[c0,oX]at tc;have oy:=aa N;clear N;have wL:=lC.o;go_wp2
  try go_region
  all_goals(try go_wp2)
  all_goals go_roundw
  case rel=>exact⟨_,_,hU.o.put R (by omega) _,Bh.o,⟨_,_,oy.o⟩,mP.o.trans (aO.put _ rfl)⟩
  case measure=>rw[(hU.o.put R (by omega) _).left,s.o.left];omega
theorem afc{m}(E:isMap nL ve a d [] j i)(w:isMap nL ve a c m e b)(F:d≠c)(hk:(m.map (·.1)).Nodup):
  O 303 #[.map (some d),.map (some c)] a fun f I=>(∃r,f=.returned r)/\(∃L t u,L.Perm m/\isMap nL ve I d L t u)/\aO (fun k=>k=d) a I:=by
 have qm:=run_range_map (P:=prog) a 168 9 159 c e b underlying168 w.blk;go_enter func303,ntmps303;have c9:=E.lt;have eX:=w.lt;have HW:=show Walk e b c a.heap.size #[] [] (a.alloc (.mapIter (some c) b #[] b)) from⟨(hK a _ eX).trans w.blk,heap_alloc_new a _,rfl,fun f n=>by cases n⟩
 have ix:=show isMap nL ve (a.alloc (.mapIter (some c) b #[] b)) d [] j i from E.ae ((apY _ a).alloc (apX _) _)
 have p:=w;go_wp2;go_loopw [4] (fun _ wr=>∃seen q,Walk e b c a.heap.size seen q wr/\(q.map (·.born)).Nodup/\(∃t u,isMap nL ve wr d (q.filterMap (ji e.toList m)) t u)/\aO (fun k=>k=d) a wr) (fun _ wr=>Fs c a.heap.size wr)
 case atStart=>exact⟨#[],[],HW,by simp,⟨_,_,ix⟩,aO.cJ ((apY _ a).alloc (apX _) _)⟩
 case round=>
  obtain⟨seen,q,A7,cO,⟨t,u,PK⟩,Bi⟩:=hrel;have s:=A7;have M:=cO;have y:=PK;have N:=Bi;rcases run_next_at (P:=prog) wr 0 a.heap.size c b b seen e b s.iter s.map p.old (apX _) with⟨tY,z⟩|⟨f,n,Q,x,z⟩
  ·have ah:=s.all p.nodup M tY;have et:=show(q.filterMap (ji e.toList m)).Perm m by
    have h1:=ah.filterMap (ji e.toList m);rwa [PG p.nodup (by have :=p.len;omega)]at h1
   go_wp2;go_end0
   exact⟨⟨_,rfl⟩,⟨_,_,_,et,y⟩,N⟩
  have B:f∈e.toList:=by unfold leftOf at n;simp at n;simpa using n.1
  obtain⟨⟨R,S⟩,pS,U,Bg,Bd⟩:=PH p.nodup p.mG B;have v:=aa (s.next (by omega) n x);have W:=show((q++[f]).map (·.born)).Nodup by
   rw[aqi,aqF];refine⟨M,by simp,fun g C l X Df=> ?_⟩;simp at X;subst X;unfold leftOf at n;simp at n;rw[<-s.seen]at C;rw[Df]at C;exact n.2 (by simpa using C)
  have lC:=HG n;have Y:=aa (N.set x (apX _) (.mapIter (some c) b (seen.push f.born) b));have dN:=aa (show isMap nL ve (setBlock Q a.heap.size (.mapIter (some c) b (seen.push f.born) b)) d (q.filterMap (ji e.toList m)) t u from y.gJ ((Lr x _ _).block d y.lt (by simp;omega)));obtain⟨D,eJ⟩:∃D,D=setBlock Q a.heap.size (.mapIter (some c) b (seen.push f.born) b):=⟨_,rfl⟩;rw[<-eJ]at z v Y dN;clear eJ x;have oq:=run_entry_at (P:=prog) D a.heap.size c b seen e b f v.o.iter v.o.map B p.nodup;rw[Bg,Bd]at z oq;have sI:=show(q++[f]).filterMap (ji e.toList m)=q.filterMap (ji e.toList m)++[(R,S)] by rw[List.filterMap_append];simp[U]
  have wQ:=Wa p.nodup p.mG hk s.sub B W U;obtain⟨LP,PL,tc,mw⟩:=xJ Hf dN.o underlying168 R S;rw[V9 wQ,<-sI]at mw;have oy:=mw;have wL:=lC;go_wp2
  try go_region
  all_goals(try go_wp2)
  all_goals go_roundw
  case rel=>exact⟨_,_,v.o.put F (by omega) _,W,⟨_,_,oy⟩,Y.o.trans (aO.put _ rfl)⟩
  case measure=>rw[(v.o.put F (by omega) _).left,s.left];omega
theorem afd(g:Option Nat)(w:World):
  O 302 #[.map g,.map none] w fun e a=>(∃r,e=.returned r)/\J w a:=by
 have b:=run_range_nilMap (P:=prog) w 159 36 57 underlying159;have c:=run_next_nilMap (P:=prog) w 0 0 0 #[];go_enter func302,ntmps302;go_wp2;go_loopw [4] (fun _ wr=>wr=w.alloc (.mapIter none 0 #[] 0)) (fun _ _=>0)
 case atStart=>rfl
 case round=>
  subst hrel;go_wp2;go_end0
  exact⟨⟨_,rfl⟩,(apY w.heap.size w).alloc (apX _) (.mapIter none 0 #[] 0)⟩
theorem afe(g:Option Nat)(w:World):
  O 303 #[.map g,.map none] w fun e a=>(∃r,e=.returned r)/\J w a:=by
 have b:=run_range_nilMap (P:=prog) w 168 9 159 underlying168;have c:=run_next_nilMap (P:=prog) w 0 0 0 #[];go_enter func303,ntmps303;go_wp2;go_loopw [4] (fun _ wr=>wr=w.alloc (.mapIter none 0 #[] 0)) (fun _ _=>0)
 case atStart=>rfl
 case round=>
  subst hrel;go_wp2;go_end0
  exact⟨⟨_,rfl⟩,(apY w.heap.size w).alloc (apX _) (.mapIter none 0 #[] 0)⟩
end
section
open Go.RowKit Tryz
variable {a:World}{b:List (PId×dU)}{c e:Nat}{d:Option Nat}
def q8 (a:List PId) (b:List (PId×dU)):List (PId×dU):=b.filter fun p=>decide (p.1∉a)
theorem aff(a:List (PId×dU)):q8 [] a=a:=by simp[q8]
theorem Wc {κ ν:Type} [DecidableEq κ] (x:κ):∀{m:List (κ×ν)},(m.map (·.1)).Nodup->pG x m=m.filter fun p=>decide (p.1≠x)
 |[],_=>rfl
 |p::m,h=>by
  simp only[aqj,aqw]at h;unfold pG;by_cases a:x=p.1
  ·rw[if_pos a];subst a;rw[List.filter_cons_of_neg (by simp)]
   symm
   rw[List.filter_eq_self];intro q b;simp only[ne_eq,decide_eq_true_eq];intro e;exact h.1 (e▸ap5.2 ⟨q,b,rfl⟩)
  rw[if_neg a,Wc x h.2,List.filter_cons_of_pos (by simpa using fun e=>a e.symm)]
theorem afg{a:List PId}(d:c<a.length){m:List (PId×dU)}(e:(b.map (·.1)).Nodup)(h:m.Perm (q8 (a.take c) b)):(pG a[c] m).Perm (q8 (a.take (c+1)) b):=by
 rw[Wc _ ((h.map (·.1)).nodup_iff.2 ((List.filter_sublist.map _).nodup e))];refine(h.filter _).trans (List.Perm.of_eq ?_);unfold q8;rw[List.filter_filter];congr 1;funext p;have f:p.1∈a.take (c+1)↔p.1∈a.take c\/p.1=a[c]:=by rw[aqp d,ap7,ap9]
 simp only[f,not_or,ne_eq,Bool.decide_and];exact Bool.and_comm _ _
theorem aO.under{S b}(h:aO S a b){n:Nat}(c:∀k,S k->n<=k)(e:n<=a.heap.size):Below n a b:=
 ⟨h.os,h.tape,h.output,h.size,fun k f=>h.other k (by omega) (fun d=>by have :=c k d;omega)⟩
theorem afh{m}(j:isMap c0 oX a c [] m e)(n:iG a d b)(o:∀f,d=some f->c≠f)(p:(b.map (·.1)).Nodup):
  O 302 #[.map (some c),.map d] a fun g h=>(∃r,g=.returned r)/\(∃l q s,l.Perm b/\isMap c0 oX h c l q s)/\aO (fun k=>k=c) a h:=by
 rcases n with⟨rfl,rfl⟩|⟨f,u,v,rfl,t⟩
 ·exact(afd (some c) a).mono fun g h i=>⟨i.1,⟨[],_,_,List.Perm.refl _,j.ae i.2⟩,aO.cJ i.2⟩
 exact afb j t (o f rfl) p
theorem afi{g m}(j:isMap nL ve a c [] m e)(n:rT a d g)(o:∀b,d=some b->c≠b)(p:(g.map (·.1)).Nodup):
  O 303 #[.map (some c),.map d] a fun f h=>(∃r,f=.returned r)/\(∃l q s,l.Perm g/\isMap nL ve h c l q s)/\aO (fun k=>k=c) a h:=by
 rcases n.1 with⟨rfl,rfl⟩|⟨b,u,v,rfl,t⟩
 ·exact(afe (some c) a).mono fun f h i=>⟨i.1,⟨[],_,_,List.Perm.refl _,j.ae i.2⟩,aO.cJ i.2⟩
 exact afc j t (o b rfl) p
theorem FG(t:TypeId)(w:World):(Instr.makeMap t none).run prog w=.ok (.map (some w.heap.size)) (w.alloc (.map #[] 0)):=rfl
theorem iG.lt{w v d}(h:iG w v d)(b:Nat)(a:v=some b):b<w.heap.size:=by
 rcases h with⟨rfl,_⟩|⟨c,f,g,rfl,e⟩
 ·cases a
 injection a with a;subst a;exact e.lt
theorem isMap.fresh {κ ν:Type} (a:κ->Value) (b:ν->Value) (w:World):isMap a b (w.alloc (.map #[] 0)) w.heap.size [] #[] 0:=⟨heap_alloc_new w _,rfl,by simp,by simp⟩
theorem Wd{s f}(w:iG a d b)(p:(b.map (·.1)).Nodup)(x:eE a s f):
  O 300 #[.map d,s] a fun e y=>(∃g j l m,e=.returned (.map (some g))/\a.heap.size<=g/\j.Perm (q8 f b)/\isMap c0 oX y g j l m)/\J a y:=by
 have z:=(apY a.heap.size a).alloc (apX _) (.map #[] 0);have D:=afh (isMap.fresh c0 oX a) (w.ae z) (fun c E=>by have :=w.lt c E;omega) p;have F:=x;obtain⟨kE,kF,rfl,va,I,L⟩:=bm x;unfold maxLen at I;have M:=L;have Dw:=FG 159;go_enter func300,ntmps300;go_wp2_with fail
 refine D.mono ?_;rintro e w1 ⟨⟨r,rfl⟩,⟨N,P,Q,R,U⟩,W⟩;have X:=z.trans (W.under (n:=a.heap.size) (fun k p=>by omega) (by simp));have Y:=R;have vu:=U;go_wp2;go_loopw [14] (fun i wr=>∃k:Nat,k<=f.length/\i=A k/\(∃j l m,j.Perm (q8 (f.take k) b)/\isMap c0 oX wr a.heap.size j l m)/\J a wr) (fun i _=>f.length-(intOf i).toNat)
 case atStart=>exact⟨0,apZ _,rfl,⟨N,P,Q,by rw[List.take_zero,aff];exact Y,vu⟩,X⟩
 case round=>
  obtain⟨k,dZ,rfl,⟨j,l,m,B,C⟩,q⟩:=hrel;by_cases t:k<f.length
  ·obtain⟨u,rfl⟩:=M k t;obtain⟨bf,a6⟩:=eE.cells (F.ae q) rfl k t;have aod:u<wr.heap.size:=aqd wr _ bf;have sC:=q.size;have v:=aa (afg t p B);have bL:=aa (q.alloc sC (.cells #[A f[k].1,A f[k].2] 36));have hma:=C.ae ((apY wr.heap.size wr).alloc (apX _) (.cells #[A f[k].1,A f[k].2] 36));obtain⟨LP,hcut,mw⟩:=TX xK hma underlying159 (ty:=0) (t2:=36) f[k];simp only[c0]at hcut;have oy:=aa mw;go_wp2
   try go_region
   all_goals(try go_wp2)
   all_goals go_roundw
   case rel=>exact⟨k+1,by omega,by go_num,⟨_,_,_,v.o,oy.o⟩,bL.o.trans (aO.under (aO.put (S:=fun k=>k=a.heap.size) _ rfl) (fun k p=>by omega) (by simp;omega))⟩
   case measure=>simp[intOf];omega
  have v:=aa B;go_wp2;go_ret
  refine⟨⟨_,j,l,m,rfl,apX _,?_,C⟩,q⟩;have :=v.o;rwa [aql (by omega)]at this
end
end Go.Proofs.YtnkpogjiiohapaaGreatDoor
