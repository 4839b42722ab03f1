/- Our own text. -/
import Derived.Test.YtnkpogjiiohapaaGreatDoorA08
set_option linter.unusedSimpArgs false
set_option linter.unusedVariables false
set_option maxRecDepth 1000000
set_option maxHeartbeats 3200000
namespace Go.Proofs.YtnkpogjiiohapaaGreatDoor
section
open Go.RowKit Tryz
variable {a:World}{b:List (PId×eG)}{c:List (PId×fr)}{d e f:Nat}
theorem aaN (k:Nat) (b:k<=1) (w:World):O 182 #[.int .u64 k] w λe a=>(∃m,e=ad (A m))/\a=w:=by
 have :k=0\/k=1:=by omega
 rcases this with rfl|rfl
 all_goals go_enter func182,ntmps182
 all_goals go_wp2
 all_goals go_ret
 all_goals exact⟨⟨_,rfl⟩,rfl⟩
theorem ajD (a:Option Addr) (k c:Nat) (f:Value) (d:k<=1) (w:World):O 196 #[.slice a k c,A 0,A k,f] w λe b=>e=ad (.tuple #[])/\J w b:=by
 have :k=0\/k=1:=by omega
 rcases this with rfl|rfl
 all_goals go_enter func196,ntmps196
 all_goals go_wp2
 all_goals refine KZ 1 ?_
 all_goals rw[K0]
 all_goals go_wp2
 all_goals go_end0
 all_goals exact⟨rfl,ca _ _⟩
theorem ajE (a:Option Addr) (k c:Nat) (b:Int) (f:Value) (d:k<=1) (w:World):O 181 #[.slice a k c,A 0,A k,A b,f] w λe g=>e=ad (.tuple #[])/\J w g:=by
 have h:=ajD a k c f d w;have :k=0\/k=1:=by omega
 rcases this with rfl|rfl
 all_goals go_enter func181,ntmps181
 all_goals go_wp2_with fail
 all_goals refine KZ 1 ?_
 all_goals rw[K0]
 all_goals go_wp2_with fail
 all_goals refine h.mono ?_
 all_goals rintro e j ⟨rfl,i⟩
 all_goals go_wp2
 all_goals exact ey (v:=.tuple #[]) (by simp[results,results181,go_sem]) rfl ⟨rfl,i⟩
theorem ajF (a:Option Addr) (k c:Nat) (f:Value) (d:k<=1) (w:World):O 163 #[.slice a k c,f] w λe g=>e=ad (.tuple #[])/\J w g:=by
 have h:=aaN k d w;have i:=λb=>ajE a k c b f d w
 have :k=0\/k=1:=by omega
 rcases this with rfl|rfl
 all_goals go_enter func163,ntmps163
 all_goals go_wp2_with fail
 all_goals refine h.mono ?_
 all_goals rintro e l ⟨⟨b,rfl⟩,rfl⟩
 all_goals go_wp2_with fail
 all_goals refine(i b).mono ?_
 all_goals rintro e m ⟨rfl,j⟩
 all_goals go_wp2
 all_goals go_end0
 all_goals exact⟨rfl,j⟩
def mX (a:List (PId×fr)) (b:List (PId×eG)) (o:PId) (c:ByteArray) (x:PId):Bool:=
 if c=⟨#[]⟩ then(match bV x b with |some e=>decide (e.aS=o)|none=>false) else(bV o a).isSome&& !o0 o a
theorem aaO:(⟨#[]⟩:ByteArray).toList=[]:=by simp
theorem LQ{key:ByteArray}(h:key≠⟨#[]⟩):key.toList.isEmpty=false:=by
 cases b:key.toList with
 |cons a l=>rfl
 |nil=>exfalso;apply h;rw[<-YL,beq_toListBytes,b,aaO];rfl
theorem LR {w:World} (h:cW w d e f c b) (i j k l:Int) (n:ByteArray):
  O 136 #[Z d,.agg #[A i,A j,.string n,A k,A l]] w λg w'=>g=ad (.bool (mX c b (i,j) n (k,l)))/\J w w':=by
 have D:=h.bm;have E:=h.lt;have p:=aV w (.cells #[A i,A j,.string n,A k,A l] 97);by_cases q:n=⟨#[]⟩
 .subst q;have m:=p.drew;have r:=(p.alloc (by simp) (.cells #[A 0,A 0,A 0,A 0,.map none] 176)).drew;have u:=(h.ak m).vA k l true;have x:=(h.ak r).vA k l true;unfold mX;rw[bn rfl];generalize bV (k,l) b=L at *;cases L with
  |none=>
   go_enter func136,ntmps136;go_wp2;go_region
   all_goals go_wp2
   all_goals go_ret
   all_goals exact⟨rfl,by go_grown⟩
  |some o=>
   obtain⟨⟨q1,y⟩,F,I,M⟩:=o;simp only[qI,nb,K4,hQ,qZ]at u x;have heq:=xS;go_enter func136,ntmps136;go_wp2;go_region
   all_goals go_wp2
   all_goals go_ret
   all_goals exact⟨og (by rw[<-Ti (q1,y) (i,j)]),by go_grown⟩
 have N:=LQ q;have z:=λW s=>LM (cW.ak h (w':=W) s) i j
 have C:=λW s=>CG (cW.ak h (w':=W) s) i j
 unfold mX;rw[a7 q];generalize(bV (i,j) c).isSome=B at *;generalize o0 (i,j) c=G at *;go_enter func136,ntmps136;go_wp2_with fail
 refine(z _ p).mono ?_;rintro g P ⟨rfl,m⟩;have Q:=ak (a:=(V w 0)) (v:=A i) m (by simp);have R:=ak (a:=(V w 1)) (v:=A j) m (by simp);have t:=bp p m;cases B
 .go_wp2;go_ret
  exact⟨rfl,t⟩
 go_wp2_with fail
 refine(C _ t).mono ?_;rintro g S ⟨rfl,r⟩;go_wp2;go_ret
 exact⟨og (by rfl),bp t r⟩
def fN (b:List (PId×fr)) (d:List (PId×eG)) (o:PId) (a:ByteArray) (x:PId):tk:=
 if mX b d o a x then
  (if a=⟨#[]⟩ then(match bV x d with |some e=>⟨e.v,e.aK⟩|none=>⟨none,[]⟩)
   else(match bV o b with |some f=>(match bV a f.ks with |some c=>c|none=>⟨none,[]⟩)|none=>⟨none,[]⟩))
 else⟨none,[]⟩
theorem gZ {κ ν:Type} [DecidableEq κ] {x:κ} {m:List (κ×ν)} {v:ν} (h:bV x m=some v):(x,v)∈m:=by
 unfold bV at h;cases a:m.find? (λp=>decide (x=p.1)) with
 |none=>rw[a]at h;cases h
 |some p=>rw[a]at h;simp at h;have b:=IA a;simp at b;rw[<-h,b];exact(D9 a)
theorem cW.at{w g a}(h:cW w d f g a b)(o:PId)(key:ByteArray)(x:PId):jX w (fN a b o key x).v (fN a b o key x).aK:=by
 unfold fN;split
 .split
  .split
   .rename_i e i;exact h.aO _ (gZ i)
   exact .inl ⟨rfl,rfl⟩
  split
  .split
   .rename_i _ l j _ c k;exact(h.hk _ (gZ j)).2 _ (gZ k)
   exact .inl ⟨rfl,rfl⟩
  exact .inl ⟨rfl,rfl⟩
 exact .inl ⟨rfl,rfl⟩
theorem Uk {κ:Type} [DecidableEq κ] {c:TypeId} {d:κ->Value} (b:AC κ c d) {t e:TypeId} (f:prog.underlying t=some (.map c e)) {z:Value} (g:(zeroValue e).run prog a=.ok z a) (x:κ) (ok:Bool):
  (Instr.lookup t (.map none) (d x) ok).run prog a=.ok (if ok then .tuple #[z,.bool false] else z) a:=by
 unfold Instr.lookup;rw[mL,xM f,oK];simp only[mL,oK,xL];rw[show(#[]:Array MapEntry).isEmpty=true from rfl,b.check true x a];simp only[oK];rw[b.find (λv:Value=>v) x a [] [] rfl];cases ok<;>simp[lR,g,mL]
theorem Ul(W:World):(zeroValue 159).run prog W=.ok (.map none) W:=by kernel_rfl
theorem uj.rH{v e}(h:uj a v e)(d:ByteArray):
  (Instr.lookup 168 (.map v) (.string d) false).run prog a=.ok (.map (match bV d e with |some c=>c.v|none=>none)) a:=by
 rcases h.1 with⟨rfl,rfl⟩|⟨b,g,i,rfl,f⟩
 .exact Uk Lg underlying168 (Ul a) d false
 have :=Cj Lg f underlying168 (Ul a) d false;rw[show(Value.string d)=p7 d from rfl,this];cases bV d e<;>rfl
theorem LS(a b c d:Value)(r:Option Nat)(W:World):(Instr.field 176 (.agg #[a,b,c,d,.map r]) 2).run prog W=.ok (.map r) W:=by kernel_rfl
theorem Jk(a c d:Value)(r:Option Nat)(W:World):(Instr.field 170 (.agg #[a,.map r,c,d]) 1).run prog W=.ok (.map r) W:=by kernel_rfl
theorem PW {w:World} {S:Nat} (h:cW w d f S c b) (m n p l:Int) (k:ByteArray):
  O 86 #[Z d,.agg #[A m,A n,.string k,A p,A l]] w λe U=>e=ad (.map (fN c b (m,n) k (p,l)).v)/\J w U:=by
 have s:=ag (aV w (.cells #[A m,A n,.string k,A p,A l] 97));have u:=ag (LR (h.ak s.o) m n p l k);by_cases C:k=⟨#[]⟩
 .subst C;have y:=ag (λW (r:J w W)=>(h.ak r).bm);have N:=ag (λW (r:J w W)=>(h.ak r).vA p l false);clear h;unfold fN;simp only[hQ];generalize mX c b (m,n) ⟨#[]⟩ (p,l)=B at *;generalize bV (p,l) b=L at *;cases B
  .go_enter func86,ntmps86;go_wp2_with fail
   refine u.o.mono ?_;rintro e x ⟨rfl,i⟩;have j:=ag (bp s.o i);clear i;go_wp2;go_ret
   exact⟨rfl,j.o⟩
  cases L with
  |none=>
   go_enter func86,ntmps86;go_wp2_with fail
   refine u.o.mono ?_;rintro e x ⟨rfl,i⟩;have D:=ak (a:=(V w 2)) (v:=.string ⟨#[]⟩) i (by simp);have X:=ak (a:=(V w 3)) (v:=A p) i (by simp);have Y:=ak (a:=(V w 4)) (v:=A l) i (by simp);have j:=ag (bp s.o i);clear i;have E:=y.o _ j.o;have t:=N.o _ j.o.drew;simp only[YK,Option.getD_none,r8,fM]at t;have F:=LS;have I:=Jk;go_wp2;go_region
   go_wp2;go_ret
   exact⟨rfl,j.o.drew⟩
  |some el=>
   obtain⟨q,on,avP,ovs⟩:=el;go_enter func86,ntmps86;go_wp2_with fail
   refine u.o.mono ?_;rintro e x ⟨rfl,i⟩;have D:=ak (a:=(V w 2)) (v:=.string ⟨#[]⟩) i (by simp);have X:=ak (a:=(V w 3)) (v:=A p) i (by simp);have Y:=ak (a:=(V w 4)) (v:=A l) i (by simp);have j:=ag (bp s.o i);clear i;have E:=y.o _ j.o;have t:=N.o _ j.o.drew;simp only[qI,nb,r8,fM,qZ]at t;have F:=LS;have I:=Jk;go_wp2;go_region
   go_wp2;go_ret
   exact⟨rfl,j.o.drew⟩
 have h9:=LQ C;have y:=ag (λW (r:J w W)=>(h.ak r).bw);have P:=ag (λW (r:J w W)=>(h.ak r).zw m n false);unfold fN;simp only[C,fM];have LU:=ag (λM (ci:bV (m,n) c=some M) W (r:J w W)=>((h.hk _ (gZ ci)).ak r).rH k);clear h;generalize mX c b (m,n) k (p,l)=B at *;generalize bV (m,n) c=L at *;cases B
 .go_enter func86,ntmps86;go_wp2_with fail
  refine u.o.mono ?_;rintro e x ⟨rfl,i⟩;have j:=ag (bp s.o i);clear i;go_wp2;go_ret
  exact⟨rfl,j.o⟩
 cases L with
 |none=>
  have Um:=ag (λW=>Uk Lg underlying168 (Ul W) k false);go_enter func86,ntmps86;go_wp2_with fail
  refine u.o.mono ?_;rintro e x ⟨rfl,i⟩;have fj:=ak (a:=(V w 0)) (v:=A m) i (by simp);have gv:=ak (a:=(V w 1)) (v:=A n) i (by simp);have D:=ak (a:=(V w 2)) (v:=.string k) i (by simp);have j:=ag (bp s.o i);clear i;have E:=y.o _ j.o;have t:=P.o _ j.o.drew;have Q:=Um.o x.drew;simp only[YK,Option.getD_none,r8,fM,p7]at t Q;have F:=LS;have I:=Jk;go_wp2;go_region
  go_wp2;go_ret
  exact⟨rfl,j.o.drew⟩
 |some M=>
  obtain⟨ol,A7,z,ofr⟩:=M;have wG:=ag (LU.o _ rfl);have l:(match bV k z with |some g=>g|none=>⟨none,[]⟩:tk).v=(match bV k z with |some g=>g.v|none=>none):=by cases bV k z<;>rfl
  simp only[hQ];rw[l];generalize(match bV k z with |some g=>g.v|none=>none:Option Nat)=R at *;go_enter func86,ntmps86;go_wp2_with fail
  refine u.o.mono ?_;rintro e x ⟨rfl,i⟩;have fj:=ak (a:=(V w 0)) (v:=A m) i (by simp);have gv:=ak (a:=(V w 1)) (v:=A n) i (by simp);have D:=ak (a:=(V w 2)) (v:=.string k) i (by simp);have j:=ag (bp s.o i);have E:=y.o _ j.o;have t:=P.o _ j.o.drew;have Q:=wG.o _ j.o.drew;simp only[qI,nb,r8,fM,rF]at t;have F:=LS;have I:=Jk;go_wp2;go_region
  go_wp2;go_ret
  exact⟨rfl,j.o.drew⟩
end
section
open Go.RowKit Tryz
attribute [local go_sem] Oper.semAt_some
theorem ajG(args:Array Value)(w:World):(callFunc 164 args).run prog w=.ok (.enter 164 args) w:=
 enters_of func164 (by rfl) rfl args w
theorem ajH (c:Nat) (v:Option Nat) (a:List (PId×eP)) (w:World) (g:w.cell? (H c)=some (.map v)) (h:jX w v a) (i:a.length<=10000):
  O 162 #[.func (.func 164) #[] #[Z c]] w λe f=>∃u b,e=ad u/\b.Perm (a.map (·.1))/\hR w.heap.size f u b/\J w f:=by
 go_enter func162,ntmps162;go_wp2_with fail
 refine(F9.1 (ajw Fence.wide 3 trivial rfl (by omega) 164 #[Z c] trivial ajG (λb=>b.Perm (a.map (·.1))) (λ_=>True) a.length i w (ajt Fence.wide 2 trivial rfl (by omega) c v a w g h))).mono ?_;rintro e m ⟨u,b,rfl,j,k,l⟩;have d:=aN j (aN k l);go_wp2;go_ret
 exact⟨u,b,rfl,d.1,d.2.1,d.2.2⟩
end
section
open Go.RowKit Tryz
variable {a r:World}{b c f:Nat}{d:List (PId×eG)}{e:List (PId×fr)}{h:Nat->Prop}{i:TypeId}{j q s u:Int}{k:List (PId×eP)}{l:List MapEntry}{m v w:Value}{n:eG}
theorem aaP(W:World):(zeroValue 57).run prog W=.ok (.agg #[A 0,A 0,A 0]) W:=by kernel_rfl
theorem jX.rH{v}(h:jX a v k)(c d:Int):(Instr.lookup 159 (.map v) (.agg #[A c,A d]) false).run prog a=.ok (qY ((bV (c,d) k).getD (0,(0,0)))) a:=by
 rcases h with⟨rfl,rfl⟩|⟨b,f,g,rfl,e⟩
 .exact Uk AE underlying159 (aaP a) (c,d) false
 have :=Cj AE e underlying159 (aaP a) (c,d) false;rw[show(Value.agg #[A c,A d])=dC (c,d) from rfl,this];cases bV (c,d) k<;>rfl
theorem Un{v}(h:jX a v k){ty:TypeId}:(Builtin.len_ #[159] ty #[.map v]).run prog a=.ok (A k.length) a:=by
 unfold Builtin.len_;rcases h with⟨rfl,rfl⟩|⟨b,d,e,rfl,c⟩
 .simp[xM underlying159,goInt,mL]
 simp[xM underlying159,goInt,mL,OY c.bb,c.len]
def l0 (a:List (PId×eG)):PId->List PId->Prop
 |x,[]=>x=(0,0)
 |x,y::L=>x=y/\y≠(0,0)/\∃e,bV y a=some e/\l0 a e.next L
def sB (a:List (PId×eG)) (y:PId):Bool:=match bV y a with |some e=>decide (0<e.aK.length)|none=>false
theorem l0.unique{c:List (PId×eG)}:∀{x:PId} {R b:List PId},l0 c x R->l0 c x b->R=b
 |_,[],[],_,_=>rfl
 |_,[],y::b,h,a=>absurd (a.1.symm.trans h) a.2.1
 |_,y::R,[],h,a=>absurd (h.1.symm.trans a) h.2.1
 |x,y::R,m::b,h,a=>by obtain⟨f,_,e,g,i⟩:=h;obtain⟨j,_,n,d,k⟩:=a;have l:=f.symm.trans j;subst l;rw[g]at d;cases d;rw[l0.unique i k]
theorem ajI(a:List (PId×eG)):∃c:PId->Nat,∀x R,l0 a x R->c x=R.length:=by
 have b:∀x,∃n:Nat,∀R,l0 a x R->n=R.length:=λx=>by
  by_cases h:∃R,l0 a x R
  .obtain⟨R,h⟩:=h;exact⟨R.length,λe d=>by rw[l0.unique h d]⟩
  simp_all
 exact⟨λx=>Classical.choose (b x),λx=>atG (b x)⟩
def LV (w:World):Value->PId
 |.pointer (some a)=>(intOf ((w.cell? (H a.block)).getD undef),intOf ((w.cell? (K a.block 1)).getD undef))
 |_=>(0,0)
theorem aaQ{x:PId}(h:a.heap[b]?=some (af (x.1) (x.2))):LV a (Z b)=x:=by simp[LV,World.cell?,h,intOf]
theorem ajJ(a:Value)(m:Value)(b c:Int)(W:World):(Instr.field 170 (.agg #[a,m,A b,A c]) 2).run prog W=.ok (.agg #[A b,A c]) W:=by kernel_rfl
theorem ajK(a b m:Value)(c d:Int)(W:World):(Instr.field 176 (.agg #[a,b,A c,A d,m]) 1).run prog W=.ok (.agg #[A c,A d]) W:=by kernel_rfl
theorem aaR(h:a.heap[b]?=some (af s u)):((a.setCell (H b) (A j)).setCell (K b 1) (A q)).drew.heap[b]?=some (af j q):=by obtain⟨_,c⟩:=e8.1 h;show((a.setCell (H b) (A j)).setCell (K b 1) (A q)).heap[b]?=_;simp[World.setCell,aU h,xR,c]
theorem aaS{L done rest:List PId}(l:done++(s,u)::rest=L)(e:a.heap.size<=b)(g:r.heap[b]?=some (af s u))(h:l0 d (j,q) rest)(i:hR a.heap.size r m ((done++[(s,u)]).filter (sB d)))(f:m.ownBlock≠some b)(k:J a r):
  ∃done rest y c,done++rest=L/\Z b=Z c/\a.heap.size<=c/\((r.setCell (H b) (A j)).setCell (K b 1) (A q)).drew.heap[c]?=some (af (y.1) (y.2))/\
   l0 d y rest/\hR a.heap.size ((r.setCell (H b) (A j)).setCell (K b 1) (A q)).drew m (done.filter (sB d))/\m.ownBlock≠some c/\J a ((r.setCell (H b) (A j)).setCell (K b 1) (A q)).drew:=
 ⟨done++[(s,u)],rest,(j,q),b,by simp_all,rfl,e,aaR g,h,YP (kd (kd i f _) f _),f,((k.setCell e _).setCell e _).drew⟩
theorem aaT{rest}{wr:World}{e:PId->Nat}(f:∀x R,l0 d x R->e x=R.length)(g:bV (j,q) d=some n)(m:n.next=(s,u))(h:(j,q)≠((0:Int),(0:Int)))(i:l0 d (s,u) rest)(k:wr.heap[c]?=some (af j q))(l:a.heap[b]?=some (af j q)):
  e (LV ((a.setCell (H b) (A s)).setCell (K b 1) (A u)).drew (Z b))<e (LV wr (Z c)):=by
 rw[aaQ (x:=(s,u)) (aaR l),aaQ (x:=(j,q)) k,f _ _ i];have :l0 d (j,q) ((j,q)::rest):=⟨rfl,h,n,g,by simp_all⟩;rw[f _ _ this];simp
theorem aaU (h:cW r b c f e d) (E F:Int) {bg:fr} (ci:bV (E,F) e=some bg) (hl:bg.aS=true) {L:List PId} (pz:l0 d bg.first L) (cE:L.length<=10000):
  O 57 #[Z b,.agg #[A E,A F]] r λg w'=>∃u,g=ad u/\hR r.heap.size w' u (L.filter (sB d))/\J r w':=by
 have bE:=aV r (af E F);have cr:=ag (CG (h.ak bE) E F);have aw:o0 (E,F) e=true:=by unfold o0;simp_all
 rw[aw]at cr;have P:=ag (λW (ah:J r W)=>(h.ak ah).zw E F false);rw[ci]at P;have fs:=λW (ah:J r W)=>(h.ak ah).bw
 obtain⟨GR,aaV⟩:=ajI d;obtain⟨ol,A7,np,⟨f1,f2⟩⟩:=bg;simp only[qI,nb,r8,fM,rF]at P;have t:=ag h;go_enter func57,ntmps57;go_wp2_with fail
 refine cr.o.mono ?_;rintro g N ⟨rfl,aA⟩;have c4:=ak (a:=(V r 0)) (v:=A E) aA (by simp);have bK:=ak (a:=(V r 1)) (v:=A F) aA (by simp);have z:=bp bE aA;have Q:=fs _ z;have eA:=P.o _ z;have db:=P.o _ z.drew;have Ey:=P.o _ (z.alloc z.size (af 0 0)).drew;have Uq:=ajJ;have hz1:=z.size;have gW:=(t.o.ak z).lt;have sk:=e7 N _ c4;go_wp2;go_cut [6] (λp wc=>p=Z N.heap.size/\wc=(N.alloc (af f1 f2)).drew)
 case first =>
  go_region
  all_goals(go_wp2_with fail;go_meet)
  all_goals exact⟨rfl,rfl⟩
 case rest=>
  obtain⟨rfl,lD⟩:=hcut;have my:=show J r wc by rw[lD];exact(z.alloc hz1 _).drew
  have qi:=show wc.heap[N.heap.size]?=some (af f1 f2) by rw[lD];exact bZ N _
  go_wp2;go_loopw [5,6] (λu p wr=>∃done rest y w,done++rest=L/\p=Z w/\r.heap.size<=w/\wr.heap[w]?=some (af (y.1) (y.2))/\l0 d y rest/\hR r.heap.size wr u (done.filter (sB d))/\u.ownBlock≠some w/\J r wr) (λ_ p wr=>GR (LV wr p))
  case atStart=>exact⟨[],L,(f1,f2),N.heap.size,rfl,rfl,hz1,qi,pz,hg _ _ _ _,by simp[Value.ownBlock],my⟩
  case round=>
   obtain⟨done,rest,⟨i,j⟩,w,LW,rfl,CA,B,aaW,bQ,bI,C⟩:=hrel;simp only at B;have Q:=(bD B).1;have bm:=(bD B).2;have dG:=aU B;have heq:=Ed;cases rest with
   |nil=>
    have aG:=aaW;injection aG with yg ns;subst yg;subst ns;go_wp2;go_ret
    have ao:done=L:=by simpa using LW
    exact⟨_,rfl,by rw[<-ao];exact bQ,C⟩
   |cons x rest=>
    obtain⟨az,hx0,el,I,R⟩:=aaW;subst az;obtain⟨q,⟨dc,cx⟩,nW,GS⟩:=el;simp only at R;have auj:fv i j 0 0=false:=by rw[Ch];omega
    have PF:=(t.o.ak C).bm;have mh:=(t.o.ak C.drew).vA i j false;rw[I]at mh;simp only[qI,nb,r8,fM,qZ]at mh;have wX:=Un ((t.o.aO _ (gZ I)).ak C.drew) (ty:=3);simp only at wX;have PX:=LS;have fn:=ajK;have aaX:sB d (i,j)=decide (0<GS.length):=by unfold sB;rw[I]
    have tb:=C.size;have aaY:=(t.o.ak C).lt;by_cases aj:0<GS.length
    .go_wp2;go_region
     obtain⟨k,l⟩:∃k,k=wr.drew:=⟨_,rfl⟩;rw[<-l];have D:=ag (show k.heap[w]?=some (af i j) by rw[l];exact B);have S:=ag (show hR r.heap.size k u5 (done.filter (sB d)) by rw[l];exact YP bQ);have U:=ag (show J r k by rw[l];exact C.drew);have auk:(done.filter (sB d)).length<=10000:=by
      have h1:=r7 (sB d) done;have h2:done.length<=L.length:=by rw[<-LW,dh];omega
      omega
     clear l mh wX PF;replace Q:=(bD D.o).1;replace bm:=(bD D.o).2;have dG:=aU D.o;have PY:=U.o.size;go_wp2_with (at_builtin;go_must (refine Ta rfl (.tmp 37) (.tmp 39) rfl r.heap.size _ (done.filter (sB d)) rfl ?h1 k.heap.size 1 i j rfl ?h2 ?ax ?a8 ?cP ?_;(case h1=>exact S.o.alloc _);(case h2=>simp);(case ax=>simp);(case a8=>omega);(case cP=>simp;omega);intro v' X hD fw;have ev:=ag (show X.heap[w]?=some (af i j) from(fw.block w (by simp;omega) (λg=>bI g.symm)).trans (nm D.o));have bF:=ag (hR.dn (S.o.alloc _) (U.o.alloc PY _) (by simp;omega) fw);clear fw;have zj:=ag hD;clear hD;have a0:=(bD ev.o).1;have ck:=(bD ev.o).2;have ac:=(t.o.ak bF.o).bm))
     obtain⟨m,n⟩:∃m,m=X.alloc (af i j):=⟨_,rfl⟩;rw[<-n];have M:=ag (show J r m by rw[n];exact bF.o.alloc bF.o.size _);have s:=ag (show m.heap[X.heap.size]?=some (af i j) by rw[n];exact bZ X _);have sC:=ag (show hR r.heap.size m v' (done.filter (sB d)++[(i,j)]) by rw[n];exact zj.o.alloc _);have l9:=ag (show v'.ownBlock≠some X.heap.size from λg=>by have :=(cX zj.o _ g).2;omega);have s0:=(bD s.o).1;have s1:=(bD s.o).2;have PO:=cV s.o;have A3:=(t.o.ak M.o).bm;have Y:=(t.o.ak M.o.drew).vA i j false;rw[I]at Y;simp only[qI,nb,r8,fM,qZ]at Y;have hzz:=bF.o.size;clear n a0 ck ac Q bm;go_region
     all_goals(try go_wp2)
     all_goals go_roundw
     all_goals first
      |exact aaS LW hzz s.o R (by rw[r6,show[(i,j)].filter (sB d)=[(i,j)] by simp[aaX,aj]];exact sC.o) l9.o M.o
      |exact aaT aaV I rfl hx0 R B s.o
    go_wp2;go_region
    obtain⟨k,l⟩:∃k,k=wr.drew:=⟨_,rfl⟩;rw[<-l];have D:=ag (show k.heap[w]?=some (af i j) by rw[l];exact B);have S:=ag (show hR r.heap.size k u5 (done.filter (sB d)) by rw[l];exact YP bQ);have U:=ag (show J r k by rw[l];exact C.drew);clear l mh wX PF;replace Q:=(bD D.o).1;replace bm:=(bD D.o).2;have dG:=aU D.o;have PY:=U.o.size;go_wp2;obtain⟨m,n⟩:∃m,m=k.alloc (af i j):=⟨_,rfl⟩;rw[<-n];have M:=ag (show J r m by rw[n];exact U.o.alloc PY _);have s:=ag (show m.heap[k.heap.size]?=some (af i j) by rw[n];exact bZ k _);have sC:=ag (show hR r.heap.size m u5 (done.filter (sB d)) by rw[n];exact S.o.alloc _);have l9:=ag (show u5.ownBlock≠some k.heap.size from λg=>by have :=(cX S.o _ g).2;omega);have s0:=(bD s.o).1;have s1:=(bD s.o).2;have PO:=cV s.o;have A3:=(t.o.ak M.o).bm;have Y:=(t.o.ak M.o.drew).vA i j false;rw[I]at Y;simp only[qI,nb,r8,fM,qZ]at Y;clear n Q bm;go_region
    all_goals(try go_wp2)
    all_goals go_roundw
    all_goals first
     |exact aaS LW PY s.o R (by rw[r6,show[(i,j)].filter (sB d)=[] by simp[aaX,aj],oM];exact sC.o) l9.o M.o
     |exact aaT aaV I rfl hx0 R B s.o
structure fJ (aF be:Nat) (R:Nat->Prop) (os:List (PId×fr)) (bk:List (PId×eG)):Prop where
 ne:aF≠be
 ro:¬R aF
 EA:¬R be
 gQ:∀p∈os,∀b,p.2.gQ=some b->R b
 ja:∀p∈os,∀k∈p.2.ks,∀b,k.2.v=some b->R b
 hh:∀p∈bk,∀b,p.2.v=some b->R b
theorem fJ.mono{R}(a:fJ c f R e d)(j:∀k,R k->h k)(l:¬h c)(m:¬h f):fJ c f h e d:=
 ⟨a.ne,l,m,λp g b i=>j b (a.gQ p g b i),λp g k n b i=>j b (a.ja p g k n b i),λp g b i=>j b (a.hh p g b i)⟩
structure aR (S:Nat->Prop) (w w':World):Prop where
 os:w'.os=w.os
 tape:w'.tape=w.tape
 output:w'.output=w.output
 size:w.heap.size<=w'.heap.size
 other:∀k,k<w.heap.size->¬S k->w'.heap[k]?=w.heap[k]?
theorem aR.cL{S:Nat->Prop}{w w':World}(h:J w w'):aR S w w':=⟨h.os,h.tape,h.output,h.size,λk a _=>h.block k a⟩
theorem aR.trans{S a b c}(h:aR S a b)(k:aR S b c):aR S a c:=
 ⟨k.os.trans h.os,k.tape.trans h.tape,k.output.trans h.output,cd h.size k.size,λi d e=>by rw[k.other i (c0 d h.size) e,h.other i d e]⟩
theorem aR.mono{S w w'}{S':Nat->Prop}(h:aR S w w')(a:∀k,S k->S' k):aR S' w w':=⟨h.os,h.tape,h.output,h.size,λk b c=>h.other k b (λd=>c (a k d))⟩
theorem aR.put{S:Nat->Prop}(o:Obj)(c:S b):aR S a (putObj a b o):=
 ⟨rfl,rfl,rfl,by simp[putObj],λk _ d=>wy (λe=>d (e▸c))⟩
theorem isMap.hU {κ ν:Type} {d:κ->Value} {e:ν->Value} {m:List (κ×ν)} {f:Array MapEntry} (h:isMap d e a b m f c) (g:r.heap[b]?=a.heap[b]?):isMap d e r b m f c:=⟨by rw[g];exact h.bb,h.nK,h.nodup,h.old⟩
theorem jX.hU{w v c}{a:World}(h:jX w v c)(d:∀b,v=some b->a.heap[b]?=w.heap[b]?):jX a v c:=
 h.imp id λ⟨b,f,g,e,i⟩=>⟨b,f,g,e,i.hU (d b e)⟩
theorem uj.hU{w v c}{a:World}(h:uj w v c)(f:∀b,v=some b->a.heap[b]?=w.heap[b]?)(g:∀k∈c,∀b,k.2.v=some b->a.heap[b]?=w.heap[b]?):uj a v c:=
 ⟨h.1.imp id λ⟨b,i,j,e,l⟩=>⟨b,i,j,e,l.hU (f b e)⟩,λp d=>(h.2 p d).hU (g p d)⟩
theorem qk {κ ν:Type} [DecidableEq κ] {x:κ} {v:ν}:∀{m:List (κ×ν)} {p:κ×ν},p∈dj x v m->p∈m\/p=(x,v)
 |[],p,h=>by simp[dj]at h;simp_all
 |q::m,p,h=>by
  unfold dj at h;split at h
  .rcases ft.1 h with h|h
   .simp_all
   simp_all
  rcases ft.1 h with h|h
  .simp_all
  rcases qk h with h|h
  .simp_all
  simp_all
theorem cW.GU{t}(i:cW a f b c t d)(m:fJ b c h t d)(x:PId)(o:fr)(n:uj a o.gQ o.ks)(y:∀g,o.gQ=some g->h g)(z:∀k∈o.ks,∀g,k.2.v=some g->h g):
  ∃q r,(Instr.mapUpdate 171 (.map (some b)) (dC x) (rF o)).run prog a=.ok () (putObj a b (.map q r))/\cW (putObj a b (.map q r)) f b c (dj x o t) d/\fJ b c h (dj x o t) d:=by
 obtain⟨M,N,B⟩:=i.al;obtain⟨D,E,F⟩:=i.he;obtain⟨q,r,I,L⟩:=AD AE B underlying171 x o;have w:∀k,k≠b->(putObj a b (.map q r)).heap[k]?=a.heap[k]?:=λk n=>wy n
 have s:=λk n=>w k (λe=>m.ro (e▸n))
 refine⟨q,r,I,⟨?_,⟨q,r,L⟩,⟨D,E,F.hU (w c (eE m.ne))⟩,?_,?_⟩,⟨m.ne,m.ro,m.EA,?_,?_,m.hh⟩⟩
 .rw[w f (λe=>by subst e;have C:=i.ao;rw[B.bb]at C;cases C)];exact i.ao
 .intro p j;rcases qk j with j|rfl
  .exact(i.hk p j).hU (λg l=>s g (m.gQ p j g l)) (λk n g l=>s g (m.ja p j k n g l))
  exact n.hU (λg l=>s g (y g l)) (λk u g l=>s g (z k u g l))
 .intro p j;exact(i.aO p j).hU (λg l=>s g (m.hh p j g l))
 .intro p j g l;rcases qk j with j|rfl
  .exact m.gQ p j g l
  exact y g l
 intro p j k u g l;rcases qk j with j|rfl
 .exact m.ja p j k u g l
 exact z k u g l
theorem cW.CK{r}(i:cW a f c b r d)(l:fJ c b h r d)(x:PId)(e:eG)(z:jX a e.v e.aK)(u:∀g,e.v=some g->h g):
  ∃n o,(Instr.mapUpdate 172 (.map (some b)) (dC x) (qZ e)).run prog a=.ok () (putObj a b (.map n o))/\cW (putObj a b (.map n o)) f c b r (dj x e d)/\fJ c b h r (dj x e d):=by
 obtain⟨B,C,D⟩:=i.al;obtain⟨I,L,w⟩:=i.he;obtain⟨n,o,E,F⟩:=AD AE w underlying172 x e;have t:∀k,k≠b->(putObj a b (.map n o)).heap[k]?=a.heap[k]?:=λk q=>wy q
 have s:=λk q=>t k (λe=>l.EA (e▸q))
 refine⟨n,o,E,⟨?_,⟨B,C,D.hU (t c l.ne)⟩,⟨n,o,F⟩,?_,?_⟩,⟨l.ne,l.ro,l.EA,l.gQ,l.ja,?_⟩⟩
 .rw[t f (λe=>by subst e;have y:=i.ao;rw[w.bb]at y;cases y)];exact i.ao
 .intro p j;exact(i.hk p j).hU (λg m=>s g (l.gQ p j g m)) (λk q g m=>s g (l.ja p j k q g m))
 .intro p j;rcases qk j with j|rfl
  .exact(i.aO p j).hU (λg m=>s g (l.hh p j g m))
  exact z.hU (λg m=>s g (u g m))
 intro p j g m;rcases qk j with j|rfl
 .exact l.hh p j g m
 exact u g m
theorem ajL {R:Nat->Prop} (h:cW a f b c e d) (s:fJ b c R e d) (j:Bool) (l m:Int):
  O 305 #[.agg #[.bool j],Z f,.agg #[A l,A m]] a λg q=>(∃r,g=ad r)/\cW q f b c (dj (l,m) ⟨j,none,[],(0,0)⟩ e) d/\fJ b c R (dj (l,m) ⟨j,none,[],(0,0)⟩ e) d/\aR (λk=>k=b) a q:=by
 have n:J a ((a.alloc (.cells #[.bool j] 197)).alloc (af l m)).drew:=((aV a _).alloc (by simp) _).drew;have B:=h.bw;have C:=h.lt;obtain⟨t,u,v,w,x⟩:=(h.ak n).GU s (l,m) ⟨j,none,[],(0,0)⟩ ⟨.inl ⟨rfl,rfl⟩,λp y=>by cases y⟩ (λi n=>by cases n) (λk z=>by cases z);simp only[dC,rF]at v;have o:=aN w (aN x ((aR.cL n).trans (aR.put (S:=λk=>k=b) (.map t u) rfl)));go_enter func305,ntmps305;go_wp2;go_region
 all_goals(try go_wp2)
 all_goals go_end0
 all_goals exact⟨⟨_,rfl⟩,o.1,o.2.1,o.2.2⟩
theorem Jl{h:Array MapEntry}{o:Obj}{d:Array Value}{g:Nat×Nat}(k:a.heap[b]?=some (.map h f))(j:a.heap[c]?=some (.cells d i g)):(putObj a.drew b o).heap[c]?=some (.cells d i g):=by rw[wy (λe=>by simp_all)];exact j
theorem cW.other{j s t u}{w':World}(h:cW a j s t u d){g:Nat}{c:Array Value}{f:Nat×Nat}(w:∀k,k≠g->w'.heap[k]?=a.heap[k]?)(C:j≠g)(x:a.heap[g]?=some (.cells c i f)):cW w' j s t u d:=by
 have o:∀{b:Nat} {l:Array MapEntry} {m:Nat},a.heap[b]?=some (.map l m)->w'.heap[b]?=a.heap[b]?:=λD=>w _ (λe=>by subst e;rw[D]at x;cases x)
 obtain⟨l,m,y⟩:=h.al;obtain⟨E,F,z⟩:=h.he;have q:∀{v:Option Nat} {B:List (PId×eP)},jX a v B->jX w' v B:=λq=>q.imp id λ⟨b,l,m,e,n⟩=>⟨b,l,m,e,n.hU (o n.bb)⟩
 exact⟨by rw[w j C];exact h.ao,⟨l,m,y.hU (o y.bb)⟩,⟨E,F,z.hU (o z.bb)⟩,
  λp r=>⟨(h.hk p r).1.imp id λ⟨b,l,m,e,n⟩=>⟨b,l,m,e,n.hU (o n.bb)⟩,λk I=>q ((h.hk p r).2 k I)⟩,λp r=>q (h.aO p r)⟩
abbrev cZ:=List (PId×fr)×List (PId×eG)
def nX (D:cZ) (x b id:PId):cZ:=
 match bV x D.1 with
 |none=>D
 |some a=>
  if a.aS=false then D
  else if b=(0,0) then(dj x {a with first :=id} D.1,dj id ⟨x,a.first,none,[]⟩ D.2)
  else match bV b D.2 with
   |none=>D
   |some e=>if e.aS=x then(D.1,dj b {e with next :=id} (dj id ⟨x,e.next,none,[]⟩ D.2)) else D
theorem aaZ (h:cW a b c f e d) (i j k l m n:Int) (s:o0 (i,j) e=false):
  O 298 #[.agg #[A i,A j,A k,A l],Z b,.agg #[A m,A n]] a λg t=>(∃r,g=ad r)/\J a t:=by
 have p:=(aV a (.cells #[A i,A j,A k,A l] 179)).alloc (by simp) (af m n);have q:=ag (CG (h.ak p) i j);rw[s]at q;go_enter func298,ntmps298;go_wp2_with fail
 refine q.o.mono ?_;rintro g w ⟨rfl,u⟩;go_wp2;exact ey (v:=.tuple #[]) (by simp[results,results298,go_sem]) rfl ⟨⟨_,rfl⟩,bp p u⟩
theorem ajM {R:Nat->Prop} (h:cW a f c b e d) (al:fJ c b R e d) (j l n q:Int) {u:fr} (ci:bV (j,l) e=some u) (hl:u.aS=true):
  O 298 #[.agg #[A j,A l,A 0,A 0],Z f,.agg #[A n,A q]] a λi w'=>(∃r,i=ad r)/\
   cW w' f c b (dj (j,l) {u with first :=(n,q)} e) (dj (n,q) ⟨(j,l),u.first,none,[]⟩ d)/\fJ c b R (dj (j,l) {u with first :=(n,q)} e) (dj (n,q) ⟨(j,l),u.first,none,[]⟩ d)/\aR (λk=>k=c\/k=b) a w':=by
 have bE:=ag ((aV a (.cells #[A j,A l,A 0,A 0] 179)).alloc (by simp) (af n q));have cr:=ag (CG (h.ak bE.o) j l);have aw:o0 (j,l) e=true:=by unfold o0;rw[ci];exact hl
 rw[aw]at cr;obtain⟨ol,U,np,⟨f1,f2⟩⟩:=u;simp only at hl;subst hl;have W:=ag ci;clear ci aw;have E:=ag h;clear h;have dV:=ag al;clear al;have heq:=xS;have Ur:fv 0 0 0 0=true:=rfl;go_enter func298,ntmps298;go_wp2_with fail
 refine cr.o.mono ?_;rintro i m ⟨rfl,X⟩;have y:=ag (show m.heap[a.heap.size]?=some (.cells #[A j,A l,A 0,A 0] 179) by rw[X.block a.heap.size (by simp;omega)];exact nm (bZ _ _));have Y:=ag (show m.heap[a.heap.size+1]?=some (af n q) by rw[X.block (a.heap.size+1) (by simp)];exact(by simp :(a.alloc (.cells #[A j,A l,A 0,A 0] 179)).heap.size=a.heap.size+1)▸bZ (a.alloc (.cells #[A j,A l,A 0,A 0] 179)) _);have F:=ag (bp bE.o X);clear X;have z:=x7 y.o;have B:=x8 y.o;have b8:=AU y.o;have hT:=vn y.o;have I:=(bD Y.o).1;have L:=(bD Y.o).2;have tn:=ag (E.o.ak F.o);have C:=tn.o.bw;have bm:=tn.o.bm;have eA:=(E.o.ak F.o.drew).zw j l false;have hz1:=F.o.size;have db:=(E.o.ak (F.o.alloc hz1 (.cells #[.bool false,.map none,A 0,A 0] 170)).drew).zw j l false;rw[W.o]at eA db;simp only[qI,nb,r8,fM,rF]at eA db;have gW:=tn.o.lt;have jQ:=aU y.o;have kv:=aU Y.o;go_wp2;go_cut [6] (λp wc=>p=Z m.heap.size/\wc=(m.alloc (.cells #[.bool true,.map U,A f1,A f2] 170)).drew)
 case first =>
  go_region
  all_goals(go_wp2_with fail;go_meet)
  all_goals exact⟨rfl,rfl⟩
 case rest=>
  obtain⟨rfl,lD⟩:=hcut;have my:=ag (show J m wc by rw[lD];exact(aV m _).drew);have M:=ag (show wc.heap[m.heap.size]?=some (.cells #[.bool true,.map U,A f1,A f2] 170) by rw[lD];exact bZ m _);have eO:=ag (F.o.trans (my.o.mono hz1));clear lD z B b8 hT I L C bm eA db;have CM:=ag (E.o.ak eO.o);have CN:=ag (bB y.o my.o);have CO:=ag (bB Y.o my.o);have z:=x7 CN.o;have B:=x8 CN.o;have I:=(bD CO.o).1;have L:=(bD CO.o).2;have fI:=x7 M.o;have br:=x8 M.o;have b4:=AU M.o;have lT:=vn M.o;have C:=CM.o.bw;have bm:=CM.o.bm;obtain⟨wY,wZ,LY,sD,oQ⟩:=(E.o.ak eO.o.drew).CK dV.o (n,q) ⟨(j,l),(f1,f2),none,[]⟩ (.inl ⟨rfl,rfl⟩) (λg N=>by cases N);simp only[dC,qZ]at LY;have w:=ag (aN sD oQ);clear sD oQ;obtain⟨P,e4⟩:∃P,P=wc:=⟨_,rfl⟩;subst e4;go_wp2;go_cut [] (λwc=>wc=putObj P.drew b (.map wY wZ))
  case first =>
   go_region
   all_goals(go_wp2_with fail;go_meet)
   all_goals rfl
  case rest=>
   have gC:b<P.heap.size:=by obtain⟨_,_,hm⟩:=CM.o.he;exact hm.lt
   obtain⟨esE,ajN,CP⟩:=CM.o.he;have vw:=ag (show wc.heap[a.heap.size]?=some _ by rw[hcut];exact Jl CP.bb CN.o);have Gw:=ag (show wc.heap[a.heap.size+1]?=some _ by rw[hcut];exact Jl CP.bb CO.o);have x:=ag (show wc.heap[m.heap.size]?=some _ by rw[hcut];exact Jl CP.bb M.o);rw[<-hcut]at w;have Q:=ag (show aR (λk=>k=c\/k=b) a wc by rw[hcut];exact(aR.cL eO.o.drew).trans (aR.put _ (.inr rfl)));have cw:wc.heap.size=P.heap.size:=by rw[hcut];simp[putObj]
   clear hcut CP z B I L fI br b4 lT C bm LY;have z:=x7 vw.o;have B:=x8 vw.o;have I:=(bD Gw.o).1;have L:=(bD Gw.o).2;have fI:=x7 x.o;have br:=x8 x.o;have b4:=AU x.o;have lT:=vn x.o;have of:=cV x.o;have C:=w.o.1.bw;have aaY:=w.o.1.lt;go_wp2;obtain⟨s,t⟩:∃s,s=(wc.setCell (V m 2) (A n)).setCell (V m 3) (A q):=⟨_,rfl⟩;rw[<-t];have eS:∀k,k≠m.heap.size->s.heap[k]?=wc.heap[k]?:=λk D=>by rw[t,mn _ _ _ _ D,mn _ _ _ _ D]
   have fU:=ag (show s.heap[m.heap.size]?=some (.cells #[.bool true,.map U,A n,A q] 170) by rw[t];exact PH (T4 x.o));have vC:=ag (w.o.1.other eS (by omega) x.o);have zv:=ag ((eS _ (by omega)).trans vw.o);have EB:=ag (show aR (λk=>k=c\/k=b) a s from⟨by rw[t];exact Q.o.os,by rw[t];exact Q.o.tape,by rw[t];exact Q.o.output,by rw[t];have :=Q.o.size;simpa[World.setCell]using this,λk D aj=>by rw[eS k (by omega),Q.o.other k D aj]⟩);clear t eS z B I L fI br b4 lT of C;have z:=x7 zv.o;have B:=x8 zv.o;have fI:=x7 fU.o;have br:=x8 fU.o;have b4:=AU fU.o;have lT:=vn fU.o;have C:=vC.o.bw;have qd:=ag (show J s s.drew from(gb s));have LZ:=vC.o.hk;obtain⟨kg,kh,GV,jb,hD⟩:=(vC.o.ak qd.o).GU w.o.2 (j,l) ⟨true,U,np,(n,q)⟩ ((vC.o.hk _ (gZ W.o)).ak qd.o) (λg N=>w.o.2.gQ _ (gZ W.o) g N) (λk D g N=>w.o.2.ja _ (gZ W.o) k D g N);simp only[dC,rF]at GV;have a1:=ag (aN jb (aN hD (EB.o.trans ((aR.cL qd.o).trans (aR.put (S:=λk=>k=c\/k=b) (.map kg kh) (.inl rfl))))));clear jb hD LZ;go_wp2;go_region
   all_goals(try go_wp2)
   all_goals exact ey (v:=.tuple #[]) (by simp[results,results298,go_sem]) rfl ⟨⟨_,rfl⟩,a1.o.1,a1.o.2.1,a1.o.2.2⟩
theorem fh{w:World}{g:Nat}{a c e:Value}{f:Nat×Nat}(h:w.heap[g]?=some (.cells #[a,m,c,v,e] i f)):
  w.cell? (H g)=some a/\w.cell? (K g 1)=some m/\w.cell? (K g 2)=some c/\w.cell? (K g 3)=some v/\w.cell? (K g 4)=some e:=by simp[World.cell?,h]
theorem jX.Jm{S v}(h:jX a v k)(d:aR S a r)(f:∀b,v=some b->¬S b):jX r v k:=
 h.imp id λ⟨b,g,i,e,c⟩=>⟨b,g,i,e,c.hU (d.other b c.lt (f b e))⟩
theorem ajO{c d u e:Value}(h:a.heap[b]?=some (.cells #[m,v,c,d,w] i)):((a.setCell (K b 2) u).setCell (K b 3) e).heap[b]?=some (.cells #[m,v,u,e,w] i):=by obtain⟨_,f⟩:=e8.1 h;simp[World.setCell,aU h,xR,f]
theorem ajP {R:Nat->Prop} (h:cW a f c b e d) (al:fJ c b R e d) (j l m s v w:Int) (hl:o0 (j,l) e=true) (bj:(m,s)≠((0:Int),(0:Int))) (eZ:bV (m,s) d=some n) (az:n.aS=(j,l)):
  O 298 #[.agg #[A j,A l,A m,A s],Z f,.agg #[A v,A w]] a λg w'=>(∃r,g=ad r)/\
   cW w' f c b e (dj (m,s) {n with next :=(v,w)} (dj (v,w) ⟨(j,l),n.next,none,[]⟩ d))/\fJ c b R e (dj (m,s) {n with next :=(v,w)} (dj (v,w) ⟨(j,l),n.next,none,[]⟩ d))/\aR (λk=>k=c\/k=b) a w':=by
 have bE:=ag ((aV a (.cells #[A j,A l,A m,A s] 179)).alloc (by simp) (af v w));have cr:=ag (CG (h.ak bE.o) j l);rw[hl]at cr;obtain⟨q,⟨dc,cx⟩,F,GS⟩:=n;simp only at az;subst az;have I:=ag eZ;clear eZ hl;have z:=ag h;clear h;have B:=ag al;clear al;have heq:=xS;have bI:=Ed;have Ur:fv m s 0 0=false:=by rw[Ch];exact bj
 have ajQ:fv j l j l=true:=by rw[Gd]
 go_enter func298,ntmps298;go_wp2_with fail
 refine cr.o.mono ?_;rintro g u ⟨rfl,P⟩;have C:=ag (show u.heap[a.heap.size]?=some (.cells #[A j,A l,A m,A s] 179) by rw[P.block a.heap.size (by simp;omega)];exact nm (bZ _ _));have CL:=ag (show u.heap[a.heap.size+1]?=some (af v w) by rw[P.block (a.heap.size+1) (by simp)];exact(by simp :(a.alloc (.cells #[A j,A l,A m,A s] 179)).heap.size=a.heap.size+1)▸bZ (a.alloc (.cells #[A j,A l,A m,A s] 179)) _);have L:=ag (bp bE.o P);clear P;have c4:=x7 C.o;have GW:=x8 C.o;have Q:=AU C.o;have U:=vn C.o;have tn:=ag (z.o.ak L.o);have D:=tn.o.bm;have eA:=(z.o.ak L.o.drew).vA m s true;have hz1:=L.o.size;have db:=(z.o.ak (L.o.alloc hz1 (.cells #[A 0,A 0,A 0,A 0,.map none] 176)).drew).vA m s true;rw[I.o]at eA db;simp only[qI,nb,K4,hQ,qZ]at eA db;have gW:=tn.o.lt;have jQ:=aU C.o;have kv:=aU CL.o;go_wp2;go_cut [7,8] (λp t wc=>p=Z u.heap.size/\t=.bool true/\wc=(u.alloc (.cells #[A j,A l,A dc,A cx,.map F] 176)).drew)
 case first =>
  go_region
  all_goals(go_wp2_with fail;go_meet)
  all_goals exact⟨rfl,rfl,rfl⟩
 case rest=>
  obtain⟨rfl,rfl,lD⟩:=hcut;have my:=ag (show J u wc by rw[lD];exact(aV u _).drew);have tp:=ag (show wc.heap[u.heap.size]?=some (.cells #[A j,A l,A dc,A cx,.map F] 176) by rw[lD];exact bZ u _);have eO:=ag (L.o.trans (my.o.mono hz1));clear lD c4 GW Q U D eA db;have CM:=ag (z.o.ak eO.o);have CN:=ag (bB C.o my.o);have CO:=ag (bB CL.o my.o);have c4:=x7 CN.o;have GW:=x8 CN.o;have a0:=(bD CO.o).1;have ck:=(bD CO.o).2;obtain⟨W,X,Y,lT,Cq⟩:=fh tp.o;have D:=CM.o.bm;obtain⟨wY,wZ,LY,sD,oQ⟩:=(z.o.ak eO.o.drew).CK B.o (v,w) ⟨(j,l),(dc,cx),none,[]⟩ (.inl ⟨rfl,rfl⟩) (λi E=>by cases E);simp only[dC,qZ]at LY;have M:=ag (aN sD oQ);clear sD oQ;obtain⟨w2,e4⟩:∃w2,w2=wc:=⟨_,rfl⟩;subst e4;go_wp2;go_cut [] (λwc=>wc=putObj w2.drew b (.map wY wZ))
  case first =>
   go_region
   all_goals(go_wp2_with fail;go_meet)
   all_goals rfl
  case rest=>
   obtain⟨esE,ajN,CP⟩:=CM.o.he;have vw:=ag (show wc.heap[a.heap.size]?=some _ by rw[hcut];exact Jl CP.bb CN.o);have Gw:=ag (show wc.heap[a.heap.size+1]?=some _ by rw[hcut];exact Jl CP.bb CO.o);have qj:=ag (show wc.heap[u.heap.size]?=some _ by rw[hcut];exact Jl CP.bb tp.o);rw[<-hcut]at M;have N:=ag (show aR (λk=>k=c\/k=b) a wc by rw[hcut];exact(aR.cL eO.o.drew).trans (aR.put _ (.inr rfl)));have cw:wc.heap.size=w2.heap.size:=by rw[hcut];simp[putObj]
   clear hcut CP c4 GW a0 ck W X Y lT Cq D LY;have Q:=AU vw.o;have U:=vn vw.o;have a0:=(bD Gw.o).1;have ck:=(bD Gw.o).2;obtain⟨W,X,Y,lT,Cq⟩:=fh qj.o;have of:=cV qj.o;have D:=M.o.1.bm;have aaY:=M.o.1.lt;go_wp2;obtain⟨x,y⟩:∃x,x=(wc.setCell (V u 2) (A v)).setCell (V u 3) (A w):=⟨_,rfl⟩;rw[<-y];have eS:∀k,k≠u.heap.size->x.heap[k]?=wc.heap[k]?:=λk hk=>by rw[y,mn _ _ _ _ hk,mn _ _ _ _ hk]
   have fU:=ag (show x.heap[u.heap.size]?=some (.cells #[A j,A l,A v,A w,.map F] 176) by rw[y];exact ajO qj.o);have vC:=ag (M.o.1.other eS (by omega) qj.o);have zv:=ag ((eS _ (by omega)).trans vw.o);have EB:=ag (show aR (λk=>k=c\/k=b) a x from⟨by rw[y];exact N.o.os,by rw[y];exact N.o.tape,by rw[y];exact N.o.output,by rw[y];have :=N.o.size;simpa[World.setCell]using this,λk hk aj=>by rw[eS k (by omega),N.o.other k hk aj]⟩);clear y eS Q U a0 ck W X Y lT Cq of D;have Q:=AU zv.o;have U:=vn zv.o;obtain⟨W,X,Y,lT,Cq⟩:=fh fU.o;have D:=vC.o.bm;have qd:=ag (show J x x.drew from(gb x));have Us:=ag (show jX x.drew F GS from((z.o.aO _ (gZ I.o)).Jm EB.o (λi E aj=>aj.elim (λg=>B.o.ro (g▸B.o.hh _ (gZ I.o) i E)) (λg=>B.o.EA (g▸B.o.hh _ (gZ I.o) i E)))).ak qd.o);obtain⟨kg,kh,GV,jb,hD⟩:=(vC.o.ak qd.o).CK M.o.2 (m,s) ⟨(j,l),(v,w),F,GS⟩ Us.o (λi E=>B.o.hh _ (gZ I.o) i E);simp only[dC,qZ]at GV;have a1:=ag (aN jb (aN hD (EB.o.trans ((aR.cL qd.o).trans (aR.put (S:=λk=>k=c\/k=b) (.map kg kh) (.inr rfl))))));clear jb hD;go_wp2;go_region
   all_goals(try go_wp2)
   all_goals go_end0
   all_goals exact⟨⟨_,rfl⟩,a1.o.1,a1.o.2.1,a1.o.2.2⟩
theorem ajR (h:cW a b c f e d) (k l i j p q:Int) (y:o0 (k,l) e=true) (E:(i,j)≠((0:Int),(0:Int))) (z:bV (i,j) d=none):
  O 298 #[.agg #[A k,A l,A i,A j],Z b,.agg #[A p,A q]] a λg B=>(∃r,g=ad r)/\J a B:=by
 have t:=(aV a (.cells #[A k,A l,A i,A j] 179)).alloc (by simp) (af p q);have u:=ag (CG (h.ak t) k l);rw[y]at u;have heq:=xS;have F:=Ed;have I:fv i j 0 0=false:=by rw[Ch];omega
 go_enter func298,ntmps298;go_wp2_with fail
 refine u.o.mono ?_;rintro g w ⟨rfl,s⟩;have n:=show w.heap[a.heap.size]?=some (.cells #[A k,A l,A i,A j] 179) by rw[s.block a.heap.size (by simp;omega)];exact nm (bZ _ _)
 have m:=bp t s;have L:=x7 n;have M:=x8 n;have N:=AU n;have P:=vn n;have x:=h.ak m;have Q:=x.bm;have C:=(h.ak m.drew).vA i j true;have D:=(h.ak (m.alloc m.size (.cells #[A 0,A 0,A 0,A 0,.map none] 176)).drew).vA i j true;rw[z]at C D;have R:=x.lt;have S:=aU n;have U:=aU (show w.heap[a.heap.size+1]?=some (af p q) by rw[s.block (a.heap.size+1) (by simp)];exact(by simp :(a.alloc (.cells #[A k,A l,A i,A j] 179)).heap.size=a.heap.size+1)▸bZ (a.alloc (.cells #[A k,A l,A i,A j] 179)) _);go_wp2;go_region
 all_goals go_wp2
 all_goals exact ey (v:=.tuple #[]) (by simp[results,results298,go_sem]) rfl ⟨⟨_,rfl⟩,(m.alloc m.size _).drew⟩
theorem ajS (h:cW a b c f e d) (k l i j q s:Int) (C:o0 (k,l) e=true) (L:(i,j)≠((0:Int),(0:Int))) (D:bV (i,j) d=some n) (E:n.aS≠(k,l)):
  O 298 #[.agg #[A k,A l,A i,A j],Z b,.agg #[A q,A s]] a λg F=>(∃r,g=ad r)/\J a F:=by
 have u:=(aV a (.cells #[A k,A l,A i,A j] 179)).alloc (by simp) (af q s);have w:=ag (CG (h.ak u) k l);rw[C]at w;obtain⟨⟨q1,I⟩,⟨M,N⟩,P,Q⟩:=n;have heq:=xS;have R:=Ed;have S:fv i j 0 0=false:=by rw[Ch];omega
 have U:fv q1 I k l=false:=by rw[Ch];exact E
 go_enter func298,ntmps298;go_wp2_with fail
 refine w.o.mono ?_;rintro g x ⟨rfl,t⟩;have p:=show x.heap[a.heap.size]?=some (.cells #[A k,A l,A i,A j] 179) by rw[t.block a.heap.size (by simp;omega)];exact nm (bZ _ _)
 have m:=bp u t;have W:=x7 p;have X:=x8 p;have Y:=AU p;have hT:=vn p;have y:=h.ak m;have bm:=y.bm;have z:=(h.ak m.drew).vA i j true;have B:=(h.ak (m.alloc m.size (.cells #[A 0,A 0,A 0,A 0,.map none] 176)).drew).vA i j true;rw[D]at z B;simp only[qI,nb,K4,hQ,qZ]at z B;have gW:=y.lt;have jQ:=aU p;have kv:=aU (show x.heap[a.heap.size+1]?=some (af q s) by rw[t.block (a.heap.size+1) (by simp)];exact(by simp :(a.alloc (.cells #[A k,A l,A i,A j] 179)).heap.size=a.heap.size+1)▸bZ (a.alloc (.cells #[A k,A l,A i,A j] 179)) _);go_wp2;go_region
 all_goals go_wp2
 all_goals exact ey (v:=.tuple #[]) (by simp[results,results298,go_sem]) rfl ⟨⟨_,rfl⟩,(m.alloc m.size _).drew⟩
theorem ajT (g:cW a f b c e d) (B:fJ b c h e d) (x j i:PId):
  O 298 #[.agg #[A x.1,A x.2,A j.1,A j.2],Z f,.agg #[A i.1,A i.2]] a λl w=>(∃r,l=ad r)/\
   cW w f b c (nX (e,d) x j i).1 (nX (e,d) x j i).2/\fJ b c h (nX (e,d) x j i).1 (nX (e,d) x j i).2/\aR (λk=>k=b\/k=c) a w:=by
 have skip:∀l w,(∃r,l=Ending.returned r)/\J a w->(∃r,l=ad r)/\cW w f b c e d/\fJ b c h e d/\aR (λk=>k=b\/k=c) a w:=λl w C=>⟨C.1,g.ak C.2,B,aR.cL C.2⟩
 obtain⟨m,n⟩:=x;obtain⟨q,s⟩:=j;obtain⟨o,p⟩:=i;cases u:bV (m,n) e with
 |none=>
  have t:nX (e,d) (m,n) (q,s) (o,p)=(e,d):=by simp[nX,u]
  rw[t];exact(aaZ g m n q s o p (by simp[o0,u])).mono skip
 |some D=>
  cases v:D.aS with
  |false=>
   have t:nX (e,d) (m,n) (q,s) (o,p)=(e,d):=by simp[nX,u,v]
   rw[t];exact(aaZ g m n q s o p (by simp[o0,u,v])).mono skip
  |true=>
   have E:o0 (m,n) e=true:=by simp[o0,u,v]
   by_cases z:(q,s)=((0:Int),(0:Int))
   .injection z with L M;subst L;subst M;have t:nX (e,d) (m,n) (0,0) (o,p)=(dj (m,n) {D with first :=(o,p)} e,dj (o,p) ⟨(m,n),D.first,none,[]⟩ d):=by simp[nX,u,v]
    rw[t];exact ajM g B m n o p u v
   cases y:bV (q,s) d with
   |none=>
    have t:nX (e,d) (m,n) (q,s) (o,p)=(e,d):=by simp only[nX,u,v,y];simp_all
    rw[t];exact(ajR g m n q s o p E z y).mono skip
   |some F=>
    by_cases I:F.aS=(m,n)
    .have t:nX (e,d) (m,n) (q,s) (o,p)=(e,dj (q,s) {F with next :=(o,p)} (dj (o,p) ⟨(m,n),F.next,none,[]⟩ d)):=by simp only[nX,u,v,y];simp_all
     rw[t];exact ajP g B m n q s o p E z y I
    have t:nX (e,d) (m,n) (q,s) (o,p)=(e,d):=by simp only[nX,u,v,y];simp_all
    rw[t];exact(ajS g m n q s o p E z y I).mono skip
def iK {ν:Type} (a:List MapEntry) (m:List ν) (e:MapEntry):Option ν:=((a.zip m).find? λz=>z.1.born==e.born).map (·.2)
theorem PZ {ν:Type} {m:List ν} (a:(l.map (·.born)).Nodup) (d:l.length=m.length) (e:b<l.length):iK l m l[b]=some (m[b]'(by omega)):=by
 unfold iK;have :(l.zip m).find? (λz=>z.1.born==l[b].born)=some (l[b],m[b]'(by omega)):=by
  rw[OE];refine⟨by simp,b,by simp;omega,by simp,λj c=> ?_⟩;have f:=tT.1 a j b (by simp;omega) (by simp_all) c
  simp_all
 simp_all
theorem P0 {ν:Type} {m:List ν} (b:(l.map (·.born)).Nodup) (a:l.length=m.length):l.filterMap (iK l m)=m:=by
 have d:l.map (iK l m)=m.map some:=by
  apply Ea
  .simp[a]
  intro i e c;simp only[pn];rw[PZ b a (by simp_all)]
 have c:l.filterMap (iK l m)=(l.map (iK l m)).filterMap id:=by simp
 simp_all
theorem P1 {κ ν:Type} {a:κ->Value} {b:ν->Value} {m:List (κ×ν)} (c:(l.map (·.born)).Nodup) (h:mQ a b l m) {e:MapEntry} (d:e∈l):
  ∃p∈m,iK l m e=some p/\e.key=a p.1/\e.val=b p.2:=by
 have f:l.length=m.length:=by have :=kq List.length h;simp_all
 obtain⟨i,g,rfl⟩:=mm.1 d;have j:i<m.length:=by omega
 refine⟨m[i],dB _,PZ c f g,?_⟩;have :=kq (·[i]?) h
 simp_all
def rI (a:List (ByteArray×tk)):List ByteArray:=(a.filter λp=>decide (0<p.2.aK.length)).map (·.1)
end
section
open Go.RowKit Tryz
open Go.ChangeMaps (setBlock)
variable {a:World}{b c d i:Nat}{e j:Array MapEntry}{f:List MapEntry}{h:Nat->Prop}
def A8 (s:ByteArray):List Value:=[.string s]
def rJ (B:Nat) (w:World) (v:Value) (l:List ByteArray):Prop:=w.ownsRow B 9 1 v l.length (l.flatMap A8)
theorem P2{i:Array Oper}{rest:List Oper}{o:Oper}{b:Act}{Q:Exit->Act->World->Prop}(k:o.guard=none)(s x:Operand)(m:o.op=.call {callee:=.builtin .append,args:= #[s,x],argTypes:= #[43,43]})(B:Nat)(v:Value)(l:List ByteArray)(n:b.eval s=v)(p:rJ B a v l)(g c:Nat)(y:ByteArray)(q:b.eval x=aa g 1 c)(w:a.cell? (H g)=some (.string y))(z:l.length<1000000000)(r:B<=a.heap.size)(h:∀e d,rJ B d e (l++[y])->a.grownBy d v.ownBlock->wpList prog i Q rest (b.put o.dst e) d):wpList prog i Q (o::rest) b a:=
 OP A8 1 16 43 9 (.string ⟨#[]⟩) (by kernel_rfl) underlying43 rfl (by omega) (λ_=>rfl) k s x m B v l n p g c y q
  (λj u f=>by match j with |0=>simp[A8]at f;simp_all|j+1=>contradiction) (λu f=>by simp[A8]at f;subst f;rfl) (by omega) (by unfold maxLen;omega) r (λe d C t=>h e d (by unfold rJ;simp_all) t)
theorem aa0(a c d:Value)(r:Option Nat)(W:World):(Instr.field 170 (.agg #[a,.map r,c,d]) 1).run prog W=.ok (.map r) W:=Jk a c d r W
theorem Walk.grown{seen w}{m:Option Nat}(h:Walk j d b c seen f w)(n:w.grownBy a m)(o:∀g,m=some g->∃i t k,w.heap[g]?=some (.cells i t k)):Walk j d b c seen f a:=by
 refine⟨?_,?_,h.seen,h.sub⟩
 .rw[n.block b (e8.1 h.map).1 (λe=>by obtain⟨i,t,k,l⟩:=o b e.symm;rw[h.map]at l;cases l)];exact h.map
 rw[n.block c (e8.1 h.iter).1 (λe=>by obtain⟨i,t,k,l⟩:=o c e.symm;rw[h.iter]at l;cases l)];exact h.iter
theorem ajU {w:World} {os:List (PId×fr)} {bk:List (PId×eG)} (h:cW w b c d os bk) (I L:Int) {bg:fr} (ci:bV (I,L) os=some bg) (cE:bg.ks.length<=10000) (P3:List ByteArray->List ByteArray)
  (ajV:∀(W:World) (v:Value) (l:List ByteArray),rJ w.heap.size W v l->l.length<=10000->O 188 #[v] W λe dd=>(∃r,e=ad r)/\rJ w.heap.size dd v (P3 l)/\W.grownBy dd v.ownBlock)
  (zz:∀l l',l.Perm l'->P3 l=P3 l'):
  O 169 #[Z b,.agg #[A I,A L]] w λe w'=>∃u,e=ad u/\rJ w.heap.size w' u (P3 (rI bg.ks))/\J w w':=by
 have bE:=ag (aV w (af I L));have zg:=ag (LM (h.ak bE.o) I L);rw[ci]at zg;have o1:=ag (λW (R:J w W)=>(h.ak R).zw I L false);rw[ci]at o1;have fs:=ag (λW (R:J w W)=>(h.ak R).bw);have kZ:=ag (λW (R:J w W)=>(h.hk _ (gZ ci)).ak R);obtain⟨ol,A7,q,⟨f1,f2⟩⟩:=bg;simp only at cE kZ;simp only[qI,nb,r8,fM,rF,K4]at o1 zg;have aT:=ag h;have aa1:=ag ajV;have Cp:=Jk;rcases(kZ.o w (ca _ _)).1 with⟨rfl,rfl⟩|⟨f,j,s,rfl,hm⟩
 .go_enter func169,ntmps169;go_wp2_with fail
  refine zg.o.mono ?_;rintro e n ⟨rfl,D⟩;have c4:=ak (a:=(V w 0)) (v:=A I) D (by simp);have bK:=ak (a:=(V w 1)) (v:=A L) D (by simp);have t:=ag (bp bE.o D);have bw:=fs.o _ t.o;have db:=o1.o _ t.o.drew;have hz1:=t.o.size;have rG:=YT (P:=prog) n.drew 168 9 159 underlying168;have Uu:=aa0;go_wp2;go_region
  obtain⟨x,C⟩:∃x,x=(n.alloc (.mapIter none 0 #[] 0)).drew:=⟨_,rfl⟩;rw[<-C];have Jn:=ag (show J w x by rw[C];exact(t.o.alloc hz1 _).drew);have ov:(Instr.next (Z n.heap.size) false 0).run prog x=.ok (.tuple #[.bool false]) x:=by rw[C];exact YU (P:=prog) n.drew 0 0 0 #[]
  clear C c4 bK bw db rG Uu Cp;have kc:=ag (aa1.o x (.slice none 0 0) [] (hg _ _ _ _) (by simp));go_wp2;go_loopw [5] (λu wr=>u=.slice none 0 0/\wr=x) (λ_ _=>0)
  case atStart=>simp
  case round=>
   obtain⟨rfl,mw⟩:=hrel;subst mw;go_wp2_with fail
   refine kc.o.mono ?_;rintro e w3 ⟨⟨r,rfl⟩,S,E⟩;have U:=ag (aN S E);clear S E;go_wp2;go_ret
   exact⟨_,rfl,U.o.1,Jn.o.grown U.o.2 Jn.o.size (λk M=>by cases M)⟩
 have y:=ag hm;clear hm;have gC:=y.o.lt;go_enter func169,ntmps169;go_wp2_with fail
 refine zg.o.mono ?_;rintro e n ⟨rfl,D⟩;have c4:=ak (a:=(V w 0)) (v:=A I) D (by simp);have bK:=ak (a:=(V w 1)) (v:=A L) D (by simp);have t:=ag (bp bE.o D);clear D;have bw:=fs.o _ t.o;have db:=o1.o _ t.o.drew;have hz1:=t.o.size;have tq:=ag (y.o.ak t.o.drew);have rG:=SK (P:=prog) n.drew 168 9 159 f j s underlying168 tq.o.bb;have Uu:=aa0;go_wp2;go_region
 obtain⟨x,C⟩:∃x,x=(n.alloc (.mapIter (some f) s #[] s)).drew:=⟨_,rfl⟩;rw[<-C];have Jn:=ag (show J w x by rw[C];exact(t.o.alloc hz1 _).drew);have GX:=ag (show Walk j s f n.heap.size #[] [] x by rw[C];exact⟨(is n _ (y.o.ak t.o).lt).trans (y.o.ak t.o).bb,D5 n _,rfl,λe z=>by cases z⟩)
 clear C c4 bK bw db rG Uu Cp tq;go_wp2;go_loopw [5] (λu wr=>∃seen m,Walk j s f n.heap.size seen m wr/\(m.map (·.born)).Nodup/\m.length+(leftOf j seen).size<=q.length/\rJ w.heap.size wr u (rI (m.filterMap (iK j.toList q)))/\J w wr) (λ_ wr=>CH f n.heap.size wr)
 case atStart=>exact⟨#[],[],GX.o,by simp,by rw[<-y.o.len];simp only[sa,sY];exact atF,hg _ _ _ _,Jn.o⟩
 case round=>
  obtain⟨seen,m,tl,cS,nS,bQ,bl⟩:=hrel;have F:=ag tl;clear tl;have fF:=ag cS;clear cS;have dV:=ag bQ;clear bQ;have jA:=ag bl;clear bl;have tb:=jA.o.size;rcases SQ (P:=prog) wr 0 n.heap.size f s s seen j s F.o.iter F.o.map y.o.old (bW _) with⟨sA,fz⟩|⟨e,z,oY,sE,fz⟩
  .have au:=F.o.all y.o.nodup fF.o sA;have ew:=ag (show(rI (m.filterMap (iK j.toList q))).Perm (rI q) by have h1:=au.filterMap (iK j.toList q);rw[P0 y.o.nodup (by have :=y.o.len;omega)]at h1;unfold rI;exact(h1.filter _).map _)
   have sF:=ag (show(rI (m.filterMap (iK j.toList q))).length<=10000 by rw[ew.o.length_eq];unfold rI;rw[c2];exact cd (r7 _ _) cE)
   have kc:=ag (aa1.o wr u5 _ dV.o sF.o);go_wp2_with fail
   refine kc.o.mono ?_;rintro e w3 ⟨⟨r,rfl⟩,S,E⟩;have U:=ag (aN S E);clear S E;go_wp2;go_ret
   refine⟨_,rfl,?_,jA.o.grown U.o.2 tb (λk M=>(cX dV.o k M).1)⟩;rw[<-zz _ _ ew.o];exact U.o.1
  have hp:e∈j.toList:=by unfold leftOf at z;simp at z;simpa using z.1
  obtain⟨⟨N,gJ⟩,o2,A9,zA,zy⟩:=P1 y.o.nodup y.o.nK hp;have p:=ag (F.o.next (by omega) z sE);obtain⟨B,e4⟩:∃B,B=setBlock oY n.heap.size (.mapIter (some f) s (seen.push e.born) s):=⟨_,rfl⟩;rw[<-e4]at fz p;have nV:=SR (P:=prog) B n.heap.size f s seen j s e p.o.iter p.o.map hp y.o.nodup;rw[zA,zy]at fz nV;simp only[p7,yd]at fz nV;have fw:wr.grownBy B (some n.heap.size):=by rw[e4];exact LN sE _ _
  clear e4 sE;have bF:=ag (jA.o.grown fw tb (λk M=>by cases M;omega));have X:=ag (show rJ w.heap.size B u5 (rI (m.filterMap (iK j.toList q))) from cu dV.o (λg Y=>by obtain⟨cB,Q⟩:=b0 dV.o Y;exact fw.block g (e8.1 Q).1 (λe=>by injection e with e;subst e;rw[F.o.iter]at Q;cases Q)))
  have ev:=ag fw;clear fw;have Ba:=ag (show((m++[e]).map (·.born)).Nodup by rw[ga,nI];refine⟨fF.o,by simp,λa aE i hc CI=> ?_⟩;simp at hc;subst hc;unfold leftOf at z;simp at z;rw[<-F.o.seen]at aE;rw[CI]at aE;exact z.2 (by simpa using aE))
  have HKV:=ag ((kZ.o _ bF.o).2 _ o2);have wX:=Un HKV.o (ty:=3);have lZ:=ag (Jh z);have sq:=ag (show(m++[e]).filterMap (iK j.toList q)=m.filterMap (iK j.toList q)++[(N,gJ)] by rw[YV];simp[A9]);have vB:=lZ.o;have ajW:=bF.o.size;simp only at wX;by_cases aj:0<gJ.aK.length
  .have kt:(rI (m.filterMap (iK j.toList q))).length<=10000:=by unfold rI;rw[c2];refine cd (r7 _ _) (cd (List.length_filterMap_le _ _) (by omega))
   go_wp2_with (at_builtin;go_must (refine P2 rfl (.tmp 28) (.tmp 30) rfl w.heap.size _ (rI (m.filterMap (iK j.toList q))) rfl ?h1 B.heap.size 1 N rfl ?h2 ?a8 ?cP ?_;(case h1=>exact Cc X.o _);(case h2=>simp);(case a8=>omega);(case cP=>simp;omega);intro v' w3 ij E;have o3:=ag E;clear E;have sC:=ag ij;clear ij))
   go_roundw
   case rel=>
    have hI:Walk j s f n.heap.size (seen.push e.born) (m++[e]) w3:=by
     refine Walk.grown ?_ o3.o (λg Y=> ?_)
     .exact⟨(is B _ (e8.1 p.o.map).1).trans p.o.map,(is B _ (e8.1 p.o.iter).1).trans p.o.iter,p.o.seen,p.o.sub⟩
     obtain⟨cB,Q⟩:=b0 (Cc X.o (.cells #[.string N] 9)) Y;exact⟨_,_,_,Q⟩
    refine⟨_,_,hI,Ba.o,by simp;omega,?_,?_⟩
    .rw[sq.o];have :rI (m.filterMap (iK j.toList q)++[(N,gJ)])=rI (m.filterMap (iK j.toList q))++[N]:=by unfold rI;simp[aj]
     rw[this];exact sC.o
    exact(bF.o.alloc ajW _).grown o3.o (by simp;omega) (λk M=>(cX X.o k M).1)
   case measure=>
    have hI:Walk j s f n.heap.size (seen.push e.born) (m++[e]) w3:=by
     refine Walk.grown ?_ o3.o (λg Y=> ?_)
     .exact⟨(is B _ (e8.1 p.o.map).1).trans p.o.map,(is B _ (e8.1 p.o.iter).1).trans p.o.iter,p.o.seen,p.o.sub⟩
     obtain⟨cB,Q⟩:=b0 (Cc X.o (.cells #[.string N] 9)) Y;exact⟨_,_,_,Q⟩
    rw[hI.left,F.o.left];exact vB
  go_wp2;go_roundw
  case rel=>
   refine⟨_,_,p.o,Ba.o,by simp;omega,?_,bF.o⟩;rw[sq.o];have :rI (m.filterMap (iK j.toList q)++[(N,gJ)])=rI (m.filterMap (iK j.toList q)):=by unfold rI;simp[aj]
   rw[this];exact X.o
  case measure=>rw[p.o.left,F.o.left];exact vB
theorem aa2 {κ ν:Type} [DecidableEq κ] {x:κ}:∀{m:List (κ×ν)} {i:Nat},x∉m.map (·.1)->lR x m i=none
 |[],_,_=>rfl
 |p::m,i,h=>by simp only[ip,ft,K6]at h;unfold lR;rw[a7 h.1];exact aa2 h.2
theorem aa3 {κ ν:Type} [DecidableEq κ] {x:κ} {m:List (κ×ν)} (h:x∉m.map (·.1)) (v:ν):dj x v m=m++[(x,v)]:=(Tj (aa2 h)).1 v
theorem aa4 {κ ν:Type} {o:κ->Value} {r:ν->Value} {a:List (κ×ν)} (h:(f.map (·.born)).Nodup) (s:mQ o r f a) (k:(a.map (·.1)).Nodup) {d:List MapEntry} (t:∀e∈d,e∈f) {e:MapEntry} (u:e∈f) (l:((d++[e]).map (·.born)).Nodup) {p:κ×ν} (b:iK f a e=some p):
  p.1∉(d.filterMap (iK f a)).map (·.1):=by
 have m:f.length=a.length:=by have :=kq List.length s;simp_all
 intro v;obtain⟨q,w,x⟩:=dF.1 v;obtain⟨y,n,c⟩:=List.mem_filterMap.1 w;obtain⟨i,z,rfl⟩:=mm.1 u;obtain⟨j,B,rfl⟩:=mm.1 (t y n);rw[PZ h m z]at b;rw[PZ h m B]at c;injection b with b;injection c with c;rw[<-b,<-c]at x;have C:i=j:=by
  apply atC;intro D;rcases YO D with g|g
  .exact tT.1 k i j (by simp;omega) (by simp;omega) g (by simp_all)
  exact tT.1 k j i (by simp;omega) (by simp;omega) g (by simp_all)
 subst C;rw[ga,nI]at l;exact l.2.2 f[i].born (dF.2 ⟨_,n,rfl⟩) f[i].born (by simp) rfl
theorem aR.set{w wr}(c:aR h w wr)(e:a=wr\/a=wr.drew)(i:w.heap.size<=b)(o:Obj):aR h w (setBlock a b o):=by
 have d:a.heap=wr.heap/\a.os=wr.os/\a.tape=wr.tape/\a.output=wr.output:=by rcases e with rfl|rfl<;>exact⟨rfl,rfl,rfl,rfl⟩
 refine⟨d.2.1.trans c.os,d.2.2.1.trans c.tape,d.2.2.2.trans c.output,by simp[setBlock,d.1];exact c.size,λk f g=> ?_⟩;have :b≠k:=by omega
 simp[setBlock,F5,this,d.1];exact c.other k f g
theorem aR.Uv{wr}(b:aR h a wr)(o:Obj):aR h a (wr.alloc o):=
 ⟨b.os,b.tape,b.output,by have :=b.size;simp;omega,λk c d=>(is wr o (c0 c b.size)).trans (b.other k c d)⟩
theorem aR.aa5{wr}(b:aR h a wr):aR h a wr.drew:=⟨b.os,b.tape,b.output,b.size,b.other⟩
theorem Walk.put{seen}(h:Walk e i b c seen f a)(g:d≠b)(j:d≠c)(o:Obj):Walk e i b c seen f (putObj a d o):=
 ⟨(wy (eE g)).trans h.map,(wy (eE j)).trans h.iter,h.seen,h.sub⟩
theorem Walk.alloc{a c b r seen l w}(h:Walk a c b r seen l w)(o:Obj):Walk a c b r seen l (w.alloc o):=
 ⟨(is w _ (e8.1 h.map).1).trans h.map,(is w _ (e8.1 h.iter).1).trans h.iter,h.seen,h.sub⟩
theorem ajX {m:List (PId×eP)} (Q:isMap dC qY a d [] j i) (B:isMap dC qY a c m e b) (R:d≠c) (hk:(m.map (·.1)).Nodup):
  O 302 #[.map (some d),.map (some c)] a λf S=>(∃r,f=ad r)/\(∃U t u,U.Perm m/\isMap dC qY S d U t u)/\aR (λk=>k=d) a S:=by
 have rG:=SK (P:=prog) a 159 36 57 c e b underlying159 B.bb;go_enter func302,ntmps302;have dG:=Q.lt;have gC:=B.lt;have GX:=ag (show Walk e b c a.heap.size #[] [] (a.alloc (.mapIter (some c) b #[] b)) from⟨(is a _ gC).trans B.bb,D5 a _,rfl,λf n=>by cases n⟩);have iL:=ag (show isMap dC qY (a.alloc (.mapIter (some c) b #[] b)) d [] j i from Q.ak (aV a _));have p:=ag B;go_wp2;go_loopw [4] (λ_ wr=>∃seen q,Walk e b c a.heap.size seen q wr/\(q.map (·.born)).Nodup/\(∃t u,isMap dC qY wr d (q.filterMap (iK e.toList m)) t u)/\aR (λk=>k=d) a wr) (λ_ wr=>CH c a.heap.size wr)
 case atStart=>exact⟨#[],[],GX.o,by simp,⟨_,_,iL.o⟩,aR.cL (aV a _)⟩
 case round=>
  obtain⟨seen,q,tl,cS,⟨t,u,Uw⟩,GY⟩:=hrel;have s:=ag tl;have W:=ag cS;have I:=ag Uw;have X:=ag GY;rcases SQ (P:=prog) wr 0 a.heap.size c b b seen e b s.o.iter s.o.map p.o.old (bW _) with⟨sA,C⟩|⟨f,n,Y,D,C⟩
  .have au:=s.o.all p.o.nodup W.o sA;have ew:=ag (show(q.filterMap (iK e.toList m)).Perm m by have h1:=au.filterMap (iK e.toList m);rwa [P0 p.o.nodup (by have :=p.o.len;omega)]at h1)
   go_wp2;go_end0
   exact⟨⟨_,rfl⟩,⟨_,_,_,ew.o,I.o⟩,X.o⟩
  have L:f∈e.toList:=by unfold leftOf at n;simp at n;simpa using n.1
  obtain⟨⟨⟨v,w⟩,⟨x,y,z⟩⟩,o2,A9,zA,zy⟩:=P1 p.o.nodup p.o.nK L;have E:=ag (s.o.next (by omega) n D);have Ba:=ag (show((q++[f]).map (·.born)).Nodup by rw[ga,nI];refine⟨W.o,by simp,λg M l hc CI=> ?_⟩;simp at hc;subst hc;unfold leftOf at n;simp at n;rw[<-s.o.seen]at M;rw[CI]at M;exact n.2 (by simpa using M))
  have lZ:=ag (Jh n);have kz:=ag (X.o.set D (bW _) (.mapIter (some c) b (seen.push f.born) b));have ev:=ag (show isMap dC qY (setBlock Y a.heap.size (.mapIter (some c) b (seen.push f.born) b)) d (q.filterMap (iK e.toList m)) t u from I.o.hU ((LN D _ _).block d I.o.lt (by simp;omega)));obtain⟨F,e4⟩:∃F,F=setBlock Y a.heap.size (.mapIter (some c) b (seen.push f.born) b):=⟨_,rfl⟩;rw[<-e4]at C E kz ev;clear e4 D;have nV:=SR (P:=prog) F a.heap.size c b seen e b f E.o.iter E.o.map L p.o.nodup;rw[zA,zy]at C nV;simp only[dC,qY]at C nV;have sq:=ag (show(q++[f]).filterMap (iK e.toList m)=q.filterMap (iK e.toList m)++[((v,w),(x,y,z))] by rw[YV];simp[A9]);have zB:=ag (aa4 p.o.nodup p.o.nK hk s.o.sub L Ba.o A9);have ou:=ag ((kz.o.Uv (af v w)).Uv (.cells #[A x,A y,A z] 57));have jx:=ag ((E.o.alloc (af v w)).alloc (.cells #[A x,A y,A z] 57));have o3:=ag (ev.o.ak ((aV F (af v w)).alloc (by simp) (.cells #[A x,A y,A z] 57)));obtain⟨P4,Ux,vE,N⟩:=AD AE o3.o underlying159 (v,w) (x,y,z);rw[aa3 zB.o,<-sq.o]at N;simp only[dC,qY]at vE;have rK:=ag N;clear N;have vB:=lZ.o;go_wp2
  try go_region
  all_goals(try go_wp2)
  all_goals go_roundw
  case rel=>exact⟨_,_,jx.o.put R (by omega) _,Ba.o,⟨_,_,rK.o⟩,ou.o.trans (aR.put _ rfl)⟩
  case measure=>rw[(jx.o.put R (by omega) _).left,s.o.left];omega
theorem ajY {m:List (ByteArray×tk)} (E:isMap p7 yd a d [] j i) (w:isMap p7 yd a c m e b) (F:d≠c) (hk:(m.map (·.1)).Nodup):
  O 303 #[.map (some d),.map (some c)] a λf I=>(∃r,f=ad r)/\(∃L t u,L.Perm m/\isMap p7 yd I d L t u)/\aR (λk=>k=d) a I:=by
 have rG:=SK (P:=prog) a 168 9 159 c e b underlying168 w.bb;go_enter func303,ntmps303;have dG:=E.lt;have gC:=w.lt;have GX:=show Walk e b c a.heap.size #[] [] (a.alloc (.mapIter (some c) b #[] b)) from⟨(is a _ gC).trans w.bb,D5 a _,rfl,λf n=>by cases n⟩
 have iL:=show isMap p7 yd (a.alloc (.mapIter (some c) b #[] b)) d [] j i from E.ak (aV a _)
 have p:=w;go_wp2;go_loopw [4] (λ_ wr=>∃seen q,Walk e b c a.heap.size seen q wr/\(q.map (·.born)).Nodup/\(∃t u,isMap p7 yd wr d (q.filterMap (iK e.toList m)) t u)/\aR (λk=>k=d) a wr) (λ_ wr=>CH c a.heap.size wr)
 case atStart=>exact⟨#[],[],GX,by simp,⟨_,_,iL⟩,aR.cL (aV a _)⟩
 case round=>
  obtain⟨seen,q,tl,cS,⟨t,u,Uw⟩,GY⟩:=hrel;have s:=tl;have M:=cS;have y:=Uw;have N:=GY;rcases SQ (P:=prog) wr 0 a.heap.size c b b seen e b s.iter s.map p.old (bW _) with⟨sA,z⟩|⟨f,n,Q,x,z⟩
  .have au:=s.all p.nodup M sA;have ew:=show(q.filterMap (iK e.toList m)).Perm m by have h1:=au.filterMap (iK e.toList m);rwa [P0 p.nodup (by have :=p.len;omega)]at h1
   go_wp2;go_end0
   exact⟨⟨_,rfl⟩,⟨_,_,_,ew,y⟩,N⟩
  have B:f∈e.toList:=by unfold leftOf at n;simp at n;simpa using n.1
  obtain⟨⟨R,S⟩,o2,U,zA,zy⟩:=P1 p.nodup p.nK B;have v:=ag (s.next (by omega) n x);have W:=show((q++[f]).map (·.born)).Nodup by rw[ga,nI];refine⟨M,by simp,λg C l X CI=> ?_⟩;simp at X;subst X;unfold leftOf at n;simp at n;rw[<-s.seen]at C;rw[CI]at C;exact n.2 (by simpa using C)
  have lZ:=Jh n;have Y:=ag (N.set x (bW _) (.mapIter (some c) b (seen.push f.born) b));have ev:=ag (show isMap p7 yd (setBlock Q a.heap.size (.mapIter (some c) b (seen.push f.born) b)) d (q.filterMap (iK e.toList m)) t u from y.hU ((LN x _ _).block d y.lt (by simp;omega)));obtain⟨D,e4⟩:∃D,D=setBlock Q a.heap.size (.mapIter (some c) b (seen.push f.born) b):=⟨_,rfl⟩;rw[<-e4]at z v Y ev;clear e4 x;have nV:=SR (P:=prog) D a.heap.size c b seen e b f v.o.iter v.o.map B p.nodup;rw[zA,zy]at z nV;have sq:=show(q++[f]).filterMap (iK e.toList m)=q.filterMap (iK e.toList m)++[(R,S)] by rw[YV];simp[U]
  have zB:=aa4 p.nodup p.nK hk s.sub B W U;obtain⟨P4,Ux,vE,nY⟩:=AD Lg ev.o underlying168 R S;rw[aa3 zB,<-sq]at nY;have rK:=nY;have vB:=lZ;go_wp2
  try go_region
  all_goals(try go_wp2)
  all_goals go_roundw
  case rel=>exact⟨_,_,v.o.put F (by omega) _,W,⟨_,_,rK⟩,Y.o.trans (aR.put _ rfl)⟩
  case measure=>rw[(v.o.put F (by omega) _).left,s.left];omega
theorem ajZ (g:Option Nat) (w:World):
  O 302 #[.map g,.map none] w λe a=>(∃r,e=ad r)/\J w a:=by
 have b:=YT (P:=prog) w 159 36 57 underlying159;have c:=YU (P:=prog) w 0 0 0 #[];go_enter func302,ntmps302;go_wp2;go_loopw [4] (λ_ wr=>wr=w.alloc (.mapIter none 0 #[] 0)) (λ_ _=>0)
 case atStart=>rfl
 case round=>
  subst hrel;go_wp2;go_end0
  exact⟨⟨_,rfl⟩,aV w (.mapIter none 0 #[] 0)⟩
theorem aj0 (g:Option Nat) (w:World):
  O 303 #[.map g,.map none] w λe a=>(∃r,e=ad r)/\J w a:=by
 have b:=YT (P:=prog) w 168 9 159 underlying168;have c:=YU (P:=prog) w 0 0 0 #[];go_enter func303,ntmps303;go_wp2;go_loopw [4] (λ_ wr=>wr=w.alloc (.mapIter none 0 #[] 0)) (λ_ _=>0)
 case atStart=>rfl
 case round=>
  subst hrel;go_wp2;go_end0
  exact⟨⟨_,rfl⟩,aV w (.mapIter none 0 #[] 0)⟩
end
section
open Go.RowKit Tryz
variable {a z:World}{b d f:Nat}{c B:cZ}{e m n q r w:Value}{h:List PId}{i:Nat->Prop}{j y:List (PId×eP)}{k:Option Nat}{l:TypeId}{s:List (PId×eG)}{u:List (PId×fr)}{v:Nat×Nat}
def tr (a:List PId) (b:List (PId×eP)):List (PId×eP):=b.filter λp=>decide (p.1∉a)
theorem aj1(a:List (PId×eP)):tr [] a=a:=by simp[tr]
theorem aa6 {κ ν:Type} [DecidableEq κ] (x:κ):∀{m:List (κ×ν)},(m.map (·.1)).Nodup->sj x m=m.filter λp=>decide (p.1≠x)
 |[],_=>rfl
 |p::m,h=>by
  simp only[ip,oN]at h;unfold sj;by_cases a:x=p.1
  .rw[bn a];subst a;rw[List.filter_cons_of_neg (by simp)]
   symm
   rw[af1];intro q b;simp only[ne_eq,Eb];intro e;exact h.1 (e▸dF.2 ⟨q,b,rfl⟩)
  rw[a7 a,aa6 x h.2,List.filter_cons_of_pos (by simpa using λe=>a e.symm)]
theorem aj2(c:b<h.length)(d:(j.map (·.1)).Nodup)(a:y.Perm (tr (h.take b) j)):(sj h[b] y).Perm (tr (h.take (b+1)) j):=by
 rw[aa6 _ ((a.map (·.1)).nodup_iff.2 ((List.filter_sublist.map _).nodup d))];refine(a.filter _).trans (List.Perm.of_eq ?_);unfold tr;rw[List.filter_filter];congr 1;funext p;have e:p.1∈h.take (b+1)↔p.1∈h.take b\/p.1=h[b]:=by rw[lx c,dZ,fR]
 simp only[e,K6,ne_eq,Bool.decide_and];exact Bool.and_comm _ _
theorem aR.q2{S}(h:aR S a z){n:Nat}(b:∀k,S k->n<=k)(d:n<=a.heap.size):Below n a z:=
 ⟨h.os,h.tape,h.output,h.size,λk e=>h.other k (by omega) (λc=>by have :=b k c;omega)⟩
theorem aj3 {m:Array MapEntry} (i:isMap dC qY a b [] m d) (n:jX a k j) (o:∀c,k=some c->b≠c) (p:(j.map (·.1)).Nodup):
  O 302 #[.map (some b),.map k] a λe g=>(∃r,e=ad r)/\(∃l q s,l.Perm j/\isMap dC qY g b l q s)/\aR (λf=>f=b) a g:=by
 rcases n with⟨rfl,rfl⟩|⟨c,u,v,rfl,t⟩
 .exact(ajZ (some b) a).mono λe g h=>⟨h.1,⟨[],_,_,afV _,i.ak h.2⟩,aR.cL h.2⟩
 exact ajX i t (o c rfl) p
theorem aj4 {g:List (ByteArray×tk)} {m:Array MapEntry} (j:isMap p7 yd a b [] m d) (n:uj a k g) (o:∀c,k=some c->b≠c) (p:(g.map (·.1)).Nodup):
  O 303 #[.map (some b),.map k] a λe h=>(∃r,e=ad r)/\(∃l q s,l.Perm g/\isMap p7 yd h b l q s)/\aR (λf=>f=b) a h:=by
 rcases n.1 with⟨rfl,rfl⟩|⟨c,u,v,rfl,t⟩
 .exact(aj0 (some b) a).mono λe h i=>⟨i.1,⟨[],_,_,afV _,j.ak i.2⟩,aR.cL i.2⟩
 exact ajY j t (o c rfl) p
theorem Jo(t:TypeId)(w:World):(Instr.makeMap t none).run prog w=.ok (.map (some w.heap.size)) (w.alloc (.map #[] 0)):=rfl
theorem jX.lt{w v d}(h:jX w v d)(b:Nat)(a:v=some b):b<w.heap.size:=by
 rcases h with⟨rfl,_⟩|⟨c,f,g,rfl,e⟩
 .cases a
 injection a with a;subst a;exact e.lt
theorem isMap.fresh {κ ν:Type} (a:κ->Value) (b:ν->Value) (w:World):isMap a b (w.alloc (.map #[] 0)) w.heap.size [] #[] 0:=⟨D5 w _,rfl,by simp,by simp⟩
theorem aa7 (w:jX a k j) (q:(j.map (·.1)).Nodup) {f:List PId} (x:fu a e f):
  O 300 #[.map k,e] a λd y=>(∃g l m p,d=ad (.map (some g))/\a.heap.size<=g/\l.Perm (tr f j)/\isMap dC qY y g l m p)/\J a y:=by
 have z:=aV a (.map #[] 0);have D:=aj3 (isMap.fresh dC qY a) (w.ak z) (λb E=>by have :=w.lt b E;omega) q;have F:=x;obtain⟨lW,lX,rfl,xV,I,L⟩:=bz x;unfold maxLen at I;have M:=L;have CR:=Jo 159;go_enter func300,ntmps300;go_wp2_with fail
 refine D.mono ?_;rintro d w1 ⟨⟨r,rfl⟩,⟨N,P,Q,R,U⟩,W⟩;have X:=z.trans (W.q2 (n:=a.heap.size) (λc q=>by omega) (by simp));have Y:=R;have tq:=U;go_wp2;go_loopw [14] (λi wr=>∃c:Nat,c<=f.length/\i=A c/\(∃l m p,l.Perm (tr (f.take c) j)/\isMap dC qY wr a.heap.size l m p)/\J a wr) (λi _=>f.length-(intOf i).toNat)
 case atStart=>exact⟨0,b6 _,rfl,⟨N,P,Q,by rw[Ga,aj1];exact Y,tq⟩,X⟩
 case round=>
  obtain⟨c,ej,rfl,⟨l,m,p,B,C⟩,s⟩:=hrel;by_cases t:c<f.length
  .obtain⟨u,rfl⟩:=M c t;obtain⟨bw,bm⟩:=fu.cells (F.ak s) rfl c t;have aul:u<wr.heap.size:=e7 wr _ bw;have tb:=s.size;have v:=ag (aj2 t q B);have b9:=ag (s.alloc tb (af (f[c].1) (f[c].2)));obtain⟨P4,hcut,nY⟩:=ZA AE (C.ak (aV wr (af (f[c].1) (f[c].2)))) underlying159 (ty:=0) (t2:=36) f[c];simp only[dC]at hcut;go_wp2
   try go_region
   all_goals(try go_wp2)
   all_goals go_roundw
   case rel=>exact⟨c+1,by omega,by go_num,⟨_,_,_,v.o,nY⟩,b9.o.trans (aR.q2 (aR.put (S:=λc=>c=a.heap.size) _ rfl) (λc q=>by omega) (by simp;omega))⟩
   case measure=>simp[intOf];omega
  have v:=ag B;go_wp2;go_ret
  refine⟨⟨_,l,m,p,rfl,bW _,?_,C⟩,s⟩;have :=v.o;rwa [kp (by omega)]at this
theorem aj5(h:a.heap[b]?=some (.cells #[e,m,n,q,w] l)):(a.setCell (K b 4) r).heap[b]?=some (.cells #[e,m,n,q,r] l):=by obtain⟨_,c⟩:=e8.1 h;simp[World.setCell,aU h,xR,c]
theorem aj6 (h:cW a f d b u s) (al:fJ d b i u s) (x y j l:Int) {z:eG} (eZ:bV (j,l) s=some z) {v:Option Nat} {aK:List (PId×eP)} (aO:jX a v aK) (bO:∀c,v=some c->i c):
  O 301 #[Z f,.agg #[A x,A y,.string ⟨#[]⟩,A j,A l],.map v] a λe U=>(∃r,e=ad r)/\
   cW U f d b u (dj (j,l) {z with v:=v,aK:=aK} s)/\fJ d b i u (dj (j,l) {z with v:=v,aK:=aK} s)/\aR (λk=>k=b) a U:=by
 have q:=ag (aV a (.cells #[A x,A y,.string ⟨#[]⟩,A j,A l] 97));have I:=ag (bZ a (.cells #[A x,A y,.string ⟨#[]⟩,A j,A l] 97));obtain⟨⟨q1,B⟩,⟨C,D⟩,W,GS⟩:=z;have e2:=ag aO;have t:=ag h;have dV:=ag al;obtain⟨g,L⟩:∃g,g=a.alloc (.cells #[A x,A y,.string ⟨#[]⟩,A j,A l] 97):=⟨_,rfl⟩;rw[<-L]at q I;go_enter func301,ntmps301;go_wp2;rw[<-L];have Bd:a.heap.size<g.heap.size:=by simp_all
 clear L;obtain⟨X,Y,mR,pw,uc⟩:=fh I.o;have bm:=(t.o.ak q.o).bm;have gW:=t.o.lt;have aag:=(t.o.ak q.o).lt;have M:=(t.o.ak q.o.drew).vA j l false;have N:=(t.o.ak (q.o.alloc q.o.size (.cells #[A 0,A 0,A 0,A 0,.map none] 176)).drew).vA j l false;rw[eZ]at M N;simp only[qI,nb,r8,fM,qZ]at M N;go_cut [6] (λp wc=>p=Z g.heap.size/\wc=(g.alloc (.cells #[A q1,A B,A C,A D,.map W] 176)).drew)
 case first =>
  go_region
  all_goals(go_wp2_with fail;go_meet)
  all_goals exact⟨rfl,rfl⟩
 case rest=>
  obtain⟨rfl,P⟩:=hcut;have my:=ag (show J g wc by rw[P];exact(aV g _).drew);have E:=ag (show wc.heap[g.heap.size]?=some (.cells #[A q1,A B,A C,A D,.map W] 176) by rw[P];exact bZ g _);have w:=ag (bp q.o my.o);clear P X Y mR pw uc bm M N;have P5:=ag (bB I.o my.o);have CM:=ag (t.o.ak w.o);obtain⟨fI,GZ,G0,lT,Cq⟩:=fh E.o;have of:=cV E.o;go_wp2;obtain⟨m,n⟩:∃m,m=wc.setCell (V g 4) (.map v):=⟨_,rfl⟩;rw[<-n];have F:∀k,k≠g.heap.size->m.heap[k]?=wc.heap[k]?:=λk Q=>by rw[n,mn _ _ _ _ Q]
  have fU:=ag (show m.heap[g.heap.size]?=some (.cells #[A q1,A B,A C,A D,.map v] 176) by rw[n];exact aj5 E.o);have vC:=ag (CM.o.other F (by omega) E.o);have Uz:=ag ((F _ (by omega)).trans P5.o);have hZ:=ag (show J a m from⟨by rw[n];exact w.o.os,by rw[n];exact w.o.tape,by rw[n];exact w.o.output,by rw[n];have :=w.o.size;simpa[World.setCell]using this,λk Q=>by rw[F k (by omega),w.o.block k Q]⟩);clear n F fI GZ G0 lT Cq of;obtain⟨X,Y,mR,pw,uc⟩:=fh Uz.o;obtain⟨fI,GZ,G0,lT,Cq⟩:=fh fU.o;have bm:=vC.o.bm;have qd:=ag (show J m m.drew from(gb m));obtain⟨kg,kh,GV,jb,hD⟩:=(vC.o.ak qd.o).CK dV.o (j,l) ⟨(q1,B),(C,D),v,aK⟩ (e2.o.ak hZ.o.drew) bO;simp only[dC,qZ]at GV;have R:=ag (aN jb (aN hD ((aR.cL hZ.o.drew).trans (aR.put (S:=λk=>k=b) (.map kg kh) rfl))));go_wp2;go_region
  all_goals(try go_wp2)
  all_goals exact ey (v:=.tuple #[]) (by simp[results,results301,go_sem]) rfl ⟨⟨_,rfl⟩,R.o.1,R.o.2.1,R.o.2.2⟩
theorem Jp(h:a.heap[b]?=some (.cells #[e,m,n,q] l v)):
  a.cell? (H b)=some e/\a.cell? (K b 1)=some m/\a.cell? (K b 2)=some n/\a.cell? (K b 3)=some q:=by simp[World.cell?,h]
theorem aj7(h:a.heap[b]?=some (.cells #[e,r,m,n] l)):(a.setCell (K b 1) q).heap[b]?=some (.cells #[e,q,m,n] l):=by obtain⟨_,c⟩:=e8.1 h;simp[World.setCell,aU h,xR,c]
theorem uj.lt{w v d}(h:uj w v d)(b:Nat)(a:v=some b):b<w.heap.size:=by
 rcases h.1 with⟨rfl,_⟩|⟨c,f,g,rfl,e⟩
 .cases a
 injection a with a;subst a;exact e.lt
theorem aj8 (h:cW a f b d u s) (al:fJ b d i u s) (t v I L:Int) {q:ByteArray} (iy:q≠⟨#[]⟩) {D:fr} (ci:bV (t,v) u=some D) (cS:(D.ks.map (·.1)).Nodup) (aO:jX a k j) (bO:∀l,k=some l->i l) (um:∀c,a.heap.size<=c->i c):
  O 301 #[Z f,.agg #[A t,A v,.string q,A I,A L],.map k] a λe w'=>(∃r,e=ad r)/\
   (∃g rL,rL.Perm D.ks/\cW w' f b d (dj (t,v) {D with gQ:=some g,ks:=dj q ⟨k,j⟩ rL} u) s/\fJ b d i (dj (t,v) {D with gQ:=some g,ks:=dj q ⟨k,j⟩ rL} u) s)/\aR (λc=>c=b) a w':=by
 have h9:=LQ iy;have B:=ag (aV a (.cells #[A t,A v,.string q,A I,A L] 97));have zC:=ag (bZ a (.cells #[A t,A v,.string q,A I,A L] 97));obtain⟨M,A7,np,⟨N,P⟩⟩:=D;have rM:=ag cS;clear cS;have px:=ag ci;clear ci;have e2:=ag aO;clear aO;have C:=ag h;clear h;have dV:=ag al;clear al;have qT:=ag um;clear um;simp only at rM;obtain⟨m,jR⟩:∃m,m=a.alloc (.cells #[A t,A v,.string q,A I,A L] 97):=⟨_,rfl⟩;rw[<-jR]at B zC;go_enter func301,ntmps301;go_wp2;rw[<-jR];have Bd:a.heap.size<m.heap.size:=by simp_all
 clear jR;obtain⟨Q,R,U,W,X⟩:=fh zC.o;have bm:=(C.o.ak B.o).bw;have gW:=C.o.lt;have aag:=(C.o.ak B.o).lt;have hz1:=B.o.size;have eA:=(C.o.ak B.o.drew).zw t v false;have db:=(C.o.ak (B.o.alloc hz1 (.cells #[.bool false,.map none,A 0,A 0] 170)).drew).zw t v false;rw[px.o]at eA db;simp only[qI,nb,r8,fM,rF]at eA db;go_cut [7] (λp wc=>p=Z m.heap.size/\wc=(m.alloc (.cells #[.bool M,.map A7,A N,A P] 170)).drew)
 case first =>
  go_region
  all_goals(go_wp2_with fail;go_meet)
  all_goals exact⟨rfl,rfl⟩
 case rest=>
  obtain⟨rfl,lD⟩:=hcut;have my:=ag (show J m wc by rw[lD];exact(aV m _).drew);have tp:=ag (show wc.heap[m.heap.size]?=some (.cells #[.bool M,.map A7,A N,A P] 170) by rw[lD];exact bZ m _);have eO:=ag (B.o.trans (my.o.mono hz1));clear lD Q R U W X bm eA db;have P5:=ag (bB zC.o my.o);have aj9:=aU tp.o;have aka:=aU P5.o;have LU:=ag ((C.o.hk _ (gZ px.o)));have rN:=ag (show J a (wc.alloc (.map #[] 0)) from eO.o.alloc eO.o.size _);have fs:=ag (aj4 (isMap.fresh p7 yd wc) (LU.o.ak rN.o) (λl y=>by have :=LU.o.lt l y;omega) rM.o);have CR:=Jo 168;have HOM:=ag (show(wc.alloc (.map #[] 0)).heap[m.heap.size]?=_ from(is wc _ aj9).trans tp.o);have zD:=ag (show(wc.alloc (.map #[] 0)).heap[a.heap.size]?=_ from(is wc _ aka).trans P5.o);obtain⟨Y,GZ,G0,lT⟩:=Jp HOM.o;go_wp2_with fail
  refine fs.o.mono ?_;rintro e w3 ⟨⟨r,rfl⟩,⟨m3,P4,Ux,ps,nY⟩,ED⟩;have jW:=ag ps;clear ps;have rK:=ag nY;clear nY;have li:=ag ((ED.other m.heap.size (by simp;omega) (by omega)).trans HOM.o);have aa8:=ag ((ED.other a.heap.size (by simp;omega) (by omega)).trans zD.o);have cj:=ag (rN.o.trans (ED.q2 (n:=a.heap.size) (λc w=>by omega) (by simp;omega)));clear ED;clear Y GZ G0 lT;obtain⟨EE,L0,vE,CS⟩:=AD Lg rK.o underlying168 q ⟨k,j⟩;simp only[p7,yd]at vE;have G1:=ag CS;clear CS;have E:=ag (show J a (putObj w3 wc.heap.size (.map EE L0)) from cj.o.trans (aR.q2 (aR.put (S:=λc=>c=wc.heap.size) _ rfl) (λc w=>by omega) cj.o.size));have F:=ag (show(putObj w3 wc.heap.size (.map EE L0)).heap[m.heap.size]?=_ from(wy (by omega)).trans li.o);have aa9:=ag (show(putObj w3 wc.heap.size (.map EE L0)).heap[a.heap.size]?=_ from(wy (by omega)).trans aa8.o);obtain⟨w4,h7⟩:∃w4,w4=putObj w3 wc.heap.size (.map EE L0):=⟨_,rfl⟩;rw[<-h7]at vE G1 E F aa9;obtain⟨Y,GZ,G0,lT⟩:=Jp F.o;have of:=cV F.o;obtain⟨Q,R,U,W,X⟩:=fh aa8.o;have h4l:=aU F.o;clear h7;go_wp2;obtain⟨x,z⟩:∃x,x=w4.setCell (V m 1) (.map (some wc.heap.size)):=⟨_,rfl⟩;rw[<-z];have eS:∀c,c≠m.heap.size->x.heap[c]?=w4.heap[c]?:=λc w=>by rw[z,mn _ _ _ _ w]
  have HO5:=ag (show x.heap[m.heap.size]?=some (.cells #[.bool M,.map (some wc.heap.size),A N,A P] 170) by rw[z];exact aj7 F.o);have HP5:=ag ((eS _ (by omega)).trans aa9.o);have mW:=ag (show J a x from⟨by rw[z];exact E.o.os,by rw[z];exact E.o.tape,by rw[z];exact E.o.output,by rw[z];have :=E.o.size;simpa[World.setCell]using this,λc w=>by rw[eS c (by omega),E.o.block c w]⟩);have Be:=ag (G1.o.hU (eS wc.heap.size (by omega)));have P6:=ag (C.o.ak mW.o);clear z eS Y GZ G0 lT of Q R U W X vE;obtain⟨Q,R,U,W,X⟩:=fh HP5.o;obtain⟨Y,GZ,G0,lT⟩:=Jp HO5.o;have bm:=P6.o.bw;have qd:=ag (show J x x.drew from(gb x));have P7:uj x.drew (some wc.heap.size) (dj q ⟨k,j⟩ m3):=by
   refine⟨.inr ⟨_,_,_,rfl,Be.o.ak qd.o⟩,λp au=> ?_⟩;rcases qk au with au|rfl
   .exact(LU.o.2 p (jW.o.mem_iff.1 au)).ak mW.o.drew
   exact e2.o.ak mW.o.drew
  have hKR:∀c∈dj q ⟨k,j⟩ m3,∀l,c.2.v=some l->i l:=by
   intro c w l y;rcases qk w with w|rfl
   .exact dV.o.ja _ (gZ px.o) c (jW.o.mem_iff.1 w) l y
   exact bO l y
  obtain⟨es6,akb,GV,jb,hD⟩:=(P6.o.ak qd.o).GU dV.o (t,v) ⟨M,some wc.heap.size,dj q ⟨k,j⟩ m3,(N,P)⟩ P7 (λl y=>by injection y with y;subst y;exact qT.o _ (by omega)) hKR;simp only[dC,rF]at GV;have a1:=ag (aN jb (aN hD ((aR.cL mW.o.drew).trans (aR.put (S:=λc=>c=b) (.map es6 akb) rfl))));clear jb hD P7 hKR;go_wp2;go_region
  all_goals(try go_wp2)
  all_goals go_end0
  all_goals exact⟨⟨_,rfl⟩,⟨_,m3,jW.o,a1.o.1,a1.o.2.1⟩,a1.o.2.2⟩
structure ha (D:cZ):Prop where
 o:(D.1.map (·.1)).Nodup
 e:(D.2.map (·.1)).Nodup
 ks:∀p∈D.1,(p.2.ks.map (·.1)).Nodup
 gQ:∀p∈D.1,∀k∈p.2.ks,(k.2.aK.map (·.1)).Nodup
 nW:∀p∈D.2,(p.2.aK.map (·.1)).Nodup
def EF (D:cZ) (o:PId) (a:ByteArray) (x:PId) (v:Option Nat) (aK:List (PId×eP)) (c:cZ):Prop:=
 (a=⟨#[]⟩/\∃d,bV x D.2=some d/\c=(D.1,dj x {d with v:=v,aK:=aK} D.2))\/
 (a≠⟨#[]⟩/\∃b g e,bV o D.1=some b/\e.Perm b.ks/\c=(dj o {b with gQ:=some g,ks:=dj a ⟨v,aK⟩ e} D.1,D.2))
theorem ha.at{D}(h:ha D)(o:PId)(key:ByteArray)(x:PId):((fN D.1 D.2 o key x).aK.map (·.1)).Nodup:=by
 unfold fN;split
 .split
  .split
   .rename_i e a;exact h.nW _ (gZ a)
   simp
  split
  .split
   .rename_i _ f b _ c d;exact h.gQ _ (gZ b) _ (gZ d)
   simp
  simp
 simp
theorem aba (h:cW a f b d c.1 c.2) (D:fJ b d i c.1 c.2) (I:ha c) (o x:PId) (t:ByteArray) (q:mX c.1 c.2 o t x=true) (E:jX a k j) (F:∀m,k=some m->i m) (L:∀l,a.heap.size<=l->i l):
  O 301 #[Z f,.agg #[A o.1,A o.2,.string t,A x.1,A x.2],.map k] a λe u=>(∃r,e=ad r)/\
   (∃s,EF c o t x k j s/\cW u f b d s.1 s.2/\fJ b d i s.1 s.2)/\aR (λl=>l=b\/l=d) a u:=by
 obtain⟨w,y⟩:=o;obtain⟨z,B⟩:=x;unfold mX at q;by_cases n:t=⟨#[]⟩
 .subst n;rw[bn rfl]at q;cases C:bV (z,B) c.2 with
  |none=>rw[C]at q;cases q
  |some M=>exact(aj6 h D w y z B C E F).mono λe u p=>⟨p.1,⟨(c.1,_),.inl ⟨rfl,M,C,rfl⟩,p.2.1,p.2.2.1⟩,p.2.2.2.mono λl n=>.inr n⟩
 rw[a7 n]at q;cases v:bV (w,y) c.1 with
 |none=>rw[v]at q;cases q
 |some N=>
  refine(aj8 h D w y z B n v (I.ks _ (gZ v)) E F L).mono λe u p=>⟨p.1,?_,p.2.2.mono λl n=>.inl n⟩
  obtain⟨g,P,Q,R,S⟩:=p.2.1;exact⟨(_,c.2),.inr ⟨n,N,g,P,v,Q,rfl⟩,R,S⟩
theorem akc (h:cW a b d f u s) (g i j k m n:Int) (l:ByteArray) (c:Value) (t:mX u s (g,i) l (j,k)=false):
  O 304 #[.agg #[A g,A i,.string l,A j,A k,c],Z b,.agg #[A m,A n]] a λe v=>(∃r,e=ad r)/\J a v:=by
 have p:=(aV a (.cells #[A g,A i,.string l,A j,A k,c] 184)).alloc (by simp) (af m n);have q:=ag (LR (h.ak p) g i j k l);rw[t]at q;go_enter func304,ntmps304;go_wp2_with fail
 refine q.o.mono ?_;rintro e x ⟨rfl,w⟩;go_wp2;go_end0
 exact⟨⟨_,rfl⟩,bp p w⟩
theorem akd(h:a.heap[b]?=some (.cells #[e,m,n,q,r,w] l v)):
  a.cell? (H b)=some e/\a.cell? (K b 1)=some m/\a.cell? (K b 2)=some n/\a.cell? (K b 3)=some q/\a.cell? (K b 4)=some r/\a.cell? (K b 5)=some w:=by simp[World.cell?,h]
def EG (D:cZ) (o:PId) (key:ByteArray) (x:PId) (c:List PId) (a:cZ):Prop:=
 if mX D.1 D.2 o key x then ∃v b,b.Perm (tr c (fN D.1 D.2 o key x).aK)/\EF D o key x (some v) b a else a=D
theorem ake (h:cW a f b d c.1 c.2) (R:fJ b d i c.1 c.2) (S:ha c) (m n p q U W:Int) (s:ByteArray) {X:List PId} (Y:fu a e X) (L:mX c.1 c.2 (m,n) s (p,q)=true) (um:∀k,a.heap.size<=k->i k):
  O 304 #[.agg #[A m,A n,.string s,A p,A q,e],Z f,.agg #[A U,A W]] a λj w'=>(∃r,j=ad r)/\
   (∃w v aK,aK.Perm (tr X (fN c.1 c.2 (m,n) s (p,q)).aK)/\EF c (m,n) s (p,q) (some v) aK w/\cW w' f b d w.1 w.2/\fJ b d i w.1 w.2)/\aR (λk=>k=b\/k=d) a w':=by
 have bE:=ag ((aV a (.cells #[A m,A n,.string s,A p,A q,e] 184)).alloc (by simp) (af U W));have cr:=ag (LR (h.ak bE.o) m n p q s);rw[L]at cr;have M:=ag h;clear h;have dV:=ag R;clear R;have rO:=ag S;clear S;have kc:=ag Y;clear Y;have dT:=ag L;clear L;have qT:=ag um;clear um;go_enter func304,ntmps304;go_wp2_with fail
 refine cr.o.mono ?_;rintro j x ⟨rfl,N⟩;have L1:=ag (show x.heap[a.heap.size]?=some (.cells #[A m,A n,.string s,A p,A q,e] 184) by rw[N.block a.heap.size (by simp;omega)];exact nm (bZ _ _));have P:=ag (bp bE.o N);clear N;have hz1:=P.o.size;obtain⟨y,z,B,C,D,E⟩:=akd L1.o;have kN:=ag P.o.drew;have w8:=ag (show J x x.drew from(gb x));have dS:=ag (PW (M.o.ak kN.o) m n p q s);have e2:=ag (M.o.at (m,n) s (p,q));have rM:=ag (rO.o.at (m,n) s (p,q));go_wp2_with fail
 go_region_with (first
  |(go_at_call 86;refine dS.o.mono ?_;rintro j w2 ⟨rfl,bo⟩;have t:J x w2:=w8.o.trans bo;replace y:=ak t y;replace z:=ak t z;replace B:=ak t B;replace C:=ak t C;replace D:=ak t D;replace E:=ak t E;have kz:=ag (bB L1.o t);have F:=ag (P.o.trans (t.mono hz1));clear bo t;have hz2:=F.o.size;have ek:=ag (aa7 (e2.o.ak F.o) rM.o (kc.o.ak F.o)))
  |(go_at_call 300;refine ek.o.mono ?_;rintro j w3 ⟨⟨g,m3,P4,Ux,rfl,ee,ps,nY⟩,u⟩;replace y:=ak u y;replace z:=ak u z;replace B:=ak u B;replace C:=ak u C;replace D:=ak u D;replace E:=ak u E;have Q:=ag (F.o.trans (u.mono hz2));have jW:=ag ps;have UA:=ag (show jX w3 (some g) m3 from .inr ⟨_,_,_,rfl,nY⟩);clear u ps nY;have pB:=ag (aba (M.o.ak Q.o) dV.o rO.o (m,n) (p,q) s dT.o UA.o (λl ah=>qT.o l (by injection ah with ah;omega)) (λk hk=>qT.o k (cd Q.o.size hk))))
  |(go_at_call 301;refine pB.o.mono ?_;rintro j w4 ⟨⟨r,rfl⟩,⟨w,jr,hq4,hM⟩,Bf⟩;have I:=ag (aN jr (aN hq4 (aN hM ((aR.cL Q.o).trans Bf))));clear jr hq4 hM Bf))
 all_goals(try go_wp2)
 all_goals go_end0
 all_goals exact⟨⟨_,rfl⟩,⟨_,_,_,jW.o,I.o.1,I.o.2.1,I.o.2.2.1⟩,I.o.2.2.2⟩
theorem akf (j:cW a f b d c.1 c.2) (z:fJ b d i c.1 c.2) (B:ha c) (o x g:PId) (p:ByteArray) (C:fu a e h) (D:∀k,a.heap.size<=k->i k):
  O 304 #[.agg #[A o.1,A o.2,.string p,A x.1,A x.2,e],Z f,.agg #[A g.1,A g.2]] a λl q=>(∃r,l=ad r)/\
   (∃m,EG c o p x h m/\cW q f b d m.1 m.2/\fJ b d i m.1 m.2)/\aR (λk=>k=b\/k=d) a q:=by
 obtain⟨t,u⟩:=o;obtain⟨w,y⟩:=x;cases s:mX c.1 c.2 (t,u) p (w,y) with
 |false=>exact(akc j t u w y g.1 g.2 p e s).mono λl q n=>⟨n.1,⟨c,by simp[EG,s],j.ak n.2,z⟩,aR.cL n.2⟩
 |true=>
  refine(ake j z B t u w y g.1 g.2 p C s D).mono λl q n=>⟨n.1,?_,n.2.2⟩
  obtain⟨m,v,E,F,I,L,M⟩:=n.2.1;exact⟨m,by unfold EG;rw[bn s];exact⟨v,E,F,I⟩,L,M⟩
def Bg (D:cZ) (o:PId) (key:ByteArray) (x:PId) (a:PId):Bool:=mX D.1 D.2 o key x&&(bV a D.1).isSome
def EH (D:cZ) (o:PId) (key:ByteArray) (x:PId) (a:eP) (d:List PId) (i:PId) (b:cZ):Prop:=
 if Bg D o key x a.2 then ∃v c,c.Perm (tr d (fN D.1 D.2 o key x).aK)/\EF D o key x (some v) (dj i a c) b else b=D
theorem L2{y z s:Value}(h:a.heap[b]?=some (.cells #[e,m,n,q,r,w,y,z,s] l v)):
  a.cell? (H b)=some e/\a.cell? (K b 1)=some m/\a.cell? (K b 2)=some n/\a.cell? (K b 3)=some q/\a.cell? (K b 4)=some r/\a.cell? (K b 5)=some w/\a.cell? (K b 6)=some y/\a.cell? (K b 7)=some z/\a.cell? (K b 8)=some s:=by simp[World.cell?,h]
theorem akg (h:cW a b d f c.1 c.2) (g i j k w m n y z:Int) (l:ByteArray) (s:Value) (p:Bg c (g,i) l (j,k) (m,n)=false):
  O 299 #[.agg #[A g,A i,.string l,A j,A k,A w,A m,A n,s],Z b,.agg #[A y,A z]] a λe E=>(∃r,e=ad r)/\J a E:=by
 have x:=(aV a (.cells #[A g,A i,.string l,A j,A k,A w,A m,A n,s] 182)).alloc (by simp) (af y z);have q:=ag (LR (h.ak x) g i j k l);go_enter func299,ntmps299;unfold Bg at p;cases B:mX c.1 c.2 (g,i) l (j,k) with
 |false=>
  rw[B]at q;go_wp2_with fail
  refine q.o.mono ?_;rintro e C ⟨rfl,t⟩;have u:=ag (bp x t);go_wp2;exact ey (v:=.tuple #[]) (by simp[results,results299,go_sem]) rfl ⟨⟨_,rfl⟩,u.o⟩
 |true=>
  rw[B]at q p;rw[Bool.true_and]at p;go_wp2_with fail
  refine q.o.mono ?_;rintro e C ⟨rfl,t⟩;have u:=ag (bp x t);obtain⟨I,L,M,N,P,Q,R,S,U⟩:=L2 (show C.heap[a.heap.size]?=some (.cells #[A g,A i,.string l,A j,A k,A w,A m,A n,s] 182) by rw[t.block a.heap.size (by simp;omega)];exact nm (bZ _ _));have D:=ag (LM (h.ak u.o) m n);rw[p]at D;go_wp2_with fail
  refine D.o.mono ?_;rintro e W ⟨rfl,F⟩;go_wp2;exact ey (v:=.tuple #[]) (by simp[results,results299,go_sem]) rfl ⟨⟨_,rfl⟩,bp u.o F⟩
theorem akh (h:cW a f b d c.1 c.2) (al:fJ b d i c.1 c.2) (hn:ha c) (n q s t B w x D E:Int) (u:ByteArray) {gs:List PId} (aj:fu a e gs) (F:Bg c (n,q) u (s,t) (w,x)=true) (um:∀k,a.heap.size<=k->i k):
  O 299 #[.agg #[A n,A q,.string u,A s,A t,A B,A w,A x,e],Z f,.agg #[A D,A E]] a λj w'=>(∃r,j=ad r)/\
   (∃C v aK,aK.Perm (tr gs (fN c.1 c.2 (n,q) u (s,t)).aK)/\EF c (n,q) u (s,t) (some v) (dj (D,E) (B,w,x) aK) C/\cW w' f b d C.1 C.2/\fJ b d i C.1 C.2)/\aR (λk=>k=b\/k=d) a w':=by
 have bE:=ag ((aV a (.cells #[A n,A q,.string u,A s,A t,A B,A w,A x,e] 182)).alloc (by simp) (af D E));have cr:=ag (LR (h.ak bE.o) n q s t u);unfold Bg at F;rw[YW]at F;rw[F.1]at cr;have U:=ag h;have dV:=ag al;have rO:=ag hn;have HIS:=ag aj;have dT:=ag F.1;have G2:=ag F.2;have qT:=ag um;go_enter func299,ntmps299;go_wp2_with fail
 refine cr.o.mono ?_;rintro j w1 ⟨rfl,aA⟩;have L1:=ag (show w1.heap[a.heap.size]?=some (.cells #[A n,A q,.string u,A s,A t,A B,A w,A x,e] 182) by rw[aA.block a.heap.size (by simp;omega)];exact nm (bZ _ _));have CL:=ag (show w1.heap[a.heap.size+1]?=some (af D E) by rw[aA.block (a.heap.size+1) (by simp)];exact(by simp :(a.alloc (.cells #[A n,A q,.string u,A s,A t,A B,A w,A x,e] 182)).heap.size=a.heap.size+1)▸bZ (a.alloc (.cells #[A n,A q,.string u,A s,A t,A B,A w,A x,e] 182)) _);have aJ:=ag (bp bE.o aA);obtain⟨I,L,M,N,P,t5,t6,t7,Q⟩:=L2 L1.o;have kc:=ag (LM (U.o.ak aJ.o) w x);rw[G2.o]at kc;go_wp2_with fail
 refine kc.o.mono ?_;rintro j R ⟨rfl,bo⟩;have kz:=ag (bB L1.o bo);have HI2:=ag (bB CL.o bo);have W:=ag (bp aJ.o bo);obtain⟨I,L,M,N,P,t5,t6,t7,Q⟩:=L2 kz.o;have hz2:=W.o.size;have aum:=aU HI2.o;have PM:=ag (show J R R.drew from(gb R));have dS:=ag (PW (U.o.ak W.o.drew) n q s t u);have e2:=ag (U.o.at (n,q) u (s,t));have rM:=ag (rO.o.at (n,q) u (s,t));go_wp2;go_cut [6] (λp wc=>∃g m es aX,p=.map (some g)/\R.heap.size<=g/\m.Perm (tr gs (fN c.1 c.2 (n,q) u (s,t)).aK)/\isMap dC qY wc g m es aX/\J R wc)
 case first =>
  go_region_with (first
   |(go_at_call 86;refine dS.o.mono ?_;rintro j w3 ⟨rfl,bu⟩;have y:=PM.o.trans bu;replace I:=ak y I;replace L:=ak y L;replace M:=ak y M;replace N:=ak y N;replace P:=ak y P;replace Q:=ak y Q;have cj:=ag (W.o.trans (y.mono hz2));have th:=ag y;have ox:=th.o.size;have ek:=ag (aa7 (e2.o.ak cj.o) rM.o (HIS.o.ak cj.o)))
   |(go_at_call 300;refine ek.o.mono ?_;rintro j w4 ⟨⟨g,m4,EE,L0,rfl,eF,hp4,CS⟩,hY⟩;have z:=ag (aN hp4 (aN CS (th.o.trans (hY.mono ox))))))
  all_goals(go_wp2_with fail;go_meet)
  all_goals exact⟨_,_,_,_,rfl,cd ox eF,z.o.1,z.o.2.1,z.o.2.2⟩
 case rest=>
  obtain⟨g,m,es,aX,rfl,aq,o2,hm,X⟩:=hcut;have zD:=ag o2;clear o2;have bR:=ag hm;clear hm;have HTC:=ag (bB kz.o X);have CO:=ag (bB HI2.o X);have my:=ag (W.o.trans (X.mono hz2));clear X;clear I L M N P t5 t6 t7 Q;obtain⟨I,L,M,N,P,t5,t6,t7,Q⟩:=L2 HTC.o;obtain⟨a0,ck⟩:=bD CO.o;obtain⟨UB,UC,vE,Jq⟩:=AD AE bR.o underlying159 (D,E) (B,w,x);simp only[dC,qY]at vE;have Be:=ag Jq;clear Jq;have Y:=ag (show J a (putObj wc g (.map UB UC)) from my.o.trans (aR.q2 (aR.put (S:=λk=>k=g) _ rfl) (λk hk=>by omega) my.o.size));have un:=ag (show(putObj wc g (.map UB UC)).heap[a.heap.size]?=_ from(wy (by omega)).trans HTC.o);obtain⟨w5,ow⟩:∃w5,w5=putObj wc g (.map UB UC):=⟨_,rfl⟩;rw[<-ow]at vE Be Y un;clear ow;obtain⟨s0,s1,s2,s3,s4,s5,s6,s7,s8⟩:=L2 un.o;have pB:=ag (aba (U.o.ak Y.o) dV.o rO.o (n,q) (s,t) u dT.o (show jX w5 (some g) _ from .inr ⟨_,_,_,rfl,Be.o⟩) (λl ah=>qT.o l (by injection ah with ah;omega)) (λk hk=>qT.o k (cd Y.o.size hk)));go_wp2_with fail
  refine pB.o.mono ?_;rintro j w6 ⟨⟨r,rfl⟩,⟨C,jr,zE,zF⟩,ql⟩;have z:=ag (aN jr (aN zE (aN zF ((aR.cL Y.o).trans ql))));clear jr zE zF ql;go_wp2;go_end0
  exact⟨⟨_,rfl⟩,⟨_,_,_,zD.o,z.o.1,z.o.2.1,z.o.2.2.1⟩,z.o.2.2.2⟩
theorem aki (j:cW a f b d c.1 c.2) (D:fJ b d i c.1 c.2) (L:ha c) (o x g:PId) (p:eP) (q:ByteArray) (M:fu a e h) (N:∀k,a.heap.size<=k->i k):
  O 299 #[.agg #[A o.1,A o.2,.string q,A x.1,A x.2,A p.1,A p.2.1,A p.2.2,e],Z f,.agg #[A g.1,A g.2]] a λl s=>(∃r,l=ad r)/\
   (∃m,EH c o q x p h g m/\cW s f b d m.1 m.2/\fJ b d i m.1 m.2)/\aR (λk=>k=b\/k=d) a s:=by
 obtain⟨u,w⟩:=o;obtain⟨y,z⟩:=x;obtain⟨E,F⟩:=g;obtain⟨I,B,C⟩:=p;cases t:Bg c (u,w) q (y,z) (B,C) with
 |false=>exact(akg j u w y z I B C E F q e t).mono λl s n=>⟨n.1,⟨c,by simp[EH,t],j.ak n.2,D⟩,aR.cL n.2⟩
 |true=>
  refine(akh j D L u w y z I B C E F q M t N).mono λl s n=>⟨n.1,?_,n.2.2⟩
  obtain⟨m,v,P,Q,R,S,U⟩:=n.2.1;exact⟨m,by unfold EH;rw[bn t];exact⟨v,P,Q,R⟩,S,U⟩
def jK:cZ:=([((0,0),⟨false,none,[],(0,0)⟩)],[])
theorem abb (w:World):
  O 161 #[] w λe h=>(∃d b c,e=.returned (.pointer (some ⟨d,0,none⟩))/\cW h d b c jK.1 jK.2/\w.heap.size<=d/\w.heap.size<=b/\w.heap.size<=c/\b≠c)/\Below w.heap.size w h:=by
 have u:=Jo;have s:=aV w (.map #[] 0);obtain⟨i,j,l,t⟩:=AD AE (isMap.fresh dC rF w) underlying171 (0,0) ⟨false,none,[],(0,0)⟩;simp only[dC,rF]at l;have f:=ag t;have m:=ag (show Below w.heap.size w (putObj (w.alloc (.map #[] 0)) w.heap.size (.map i j)) from s.trans (aR.q2 (aR.put (S:=λk=>k=w.heap.size) _ rfl) (λk n=>by omega) (by simp)));obtain⟨a,q⟩:∃a,a=putObj (w.alloc (.map #[] 0)) w.heap.size (.map i j):=⟨_,rfl⟩;rw[<-q]at l f m;clear q;have v:=f.o.lt;go_enter func161,ntmps161;go_wp2;go_ret
 have r:=(aV a (.map #[] 0)).alloc (by simp) (.cells #[.map (some w.heap.size),.map (some a.heap.size)] 174);refine⟨⟨a.heap.size+1,w.heap.size,a.heap.size,rfl,⟨(by simp :(a.alloc (.map #[] 0)).heap.size=a.heap.size+1)▸bZ (a.alloc (.map #[] 0)) _,⟨_,_,f.o.ak r⟩,⟨#[],0,(isMap.fresh dC qZ a).ak (aV _ _)⟩,?_,λp g=>by cases g⟩,by omega,by omega,by omega,by omega⟩,bp m.o r⟩;intro p g;have :p=((0,0),⟨false,none,[],(0,0)⟩):=by simpa[jK,dj]using g
 subst this;exact⟨.inl ⟨rfl,rfl⟩,λk n=>by cases n⟩
abbrev mY:=Bool⊕(PId×PId)⊕(PId×ByteArray×PId×eP×List PId)⊕(PId×ByteArray×PId×List PId)
structure pC where
 id:PId
 cb:Int
 chg:mY
def pD (D:cZ) (o:pC) (a:cZ):Prop:=
 match o.chg with
 |.inl l=>a=(dj o.id ⟨l,none,[],(0,0)⟩ D.1,D.2)
 |.inr (.inl (x,b))=>a=nX D x b o.id
 |.inr (.inr (.inl (c,key,x,e,d)))=>EH D c key x e d o.id a
 |.inr (.inr (.inr (c,key,x,d)))=>EG D c key x d a
def l1:cZ->List pC->cZ->Prop
 |D,[],a=>a=D
 |D,o::l,a=>∃b,pD D o b/\l1 b l a
theorem l1.nil:l1 c [] c:=rfl
theorem l1.snoc{l:List pC}{o:pC}:∀{D a:cZ},l1 D l a->pD a o c->l1 D (l++[o]) c:=by
 induction l with
 |nil=>intro D a h b;have d:=h;subst d;exact⟨c,b,rfl⟩
 |cons x l ih=>rintro D a ⟨D0,e,f⟩ b;exact⟨D0,e,ih f b⟩
theorem G4 {κ ν:Type} [DecidableEq κ] {x:κ} {v:ν}:∀{m:List (κ×ν)},(m.map (·.1)).Nodup->((dj x v m).map (·.1)).Nodup
 |[],_=>by simp[dj]
 |p::m,h=>by
  simp only[ip,oN]at h;unfold dj;by_cases b:x=p.1
  .simp_all
  rw[a7 b];simp only[ip,oN];refine⟨λc=> ?_,G4 h.2⟩;obtain⟨q,a,d⟩:=dF.1 c;rcases qk a with a|rfl
  .exact h.1 (d▸dF.2 ⟨q,a,rfl⟩)
  simp_all
theorem ha.GU(h:ha c){x:PId}{o:fr}(b:(o.ks.map (·.1)).Nodup)(d:∀k∈o.ks,(k.2.aK.map (·.1)).Nodup):ha (dj x o c.1,c.2):=by
 refine⟨G4 h.o,h.e,λp a=> ?_,λp a=> ?_,h.nW⟩
 .rcases qk a with a|rfl
  .exact h.ks p a
  omega
 rcases qk a with a|rfl
 .exact h.gQ p a
 omega
theorem ha.CK(h:ha c){x:PId}{e:eG}(b:(e.aK.map (·.1)).Nodup):ha (c.1,dj x e c.2):=by
 refine⟨h.o,G4 h.e,h.ks,h.gQ,λp a=> ?_⟩;rcases qk a with a|rfl
 .exact h.nW p a
 omega
theorem ha.lay(h:ha c)(x b i:PId):ha (nX c x b i):=by
 unfold nX;split
 .exact h
 rename_i a d
 split
 .exact h
 split
 .exact(h.CK (e:=⟨x,a.first,none,[]⟩) (x:=i) (by simp)).GU (o:={a with first :=i}) (h.ks _ (gZ d)) (h.gQ _ (gZ d))
 split
 .exact h
 rename_i e f
 split
 .exact(h.CK (e:=⟨x,e.next,none,[]⟩) (x:=i) (by simp)).CK (e:={e with next :=i}) (h.nW _ (gZ f))
 omega
theorem ha.abd{o x b v}(h:ha c){aK:List (PId×eP)}(i:(aK.map (·.1)).Nodup)(j:EF c o b x v aK B):ha B:=by
 rcases j with⟨_,l,p,rfl⟩|⟨_,m,g,n,d,f,rfl⟩
 .exact h.CK (e:={l with v:=v,aK:=aK}) i
 refine h.GU (o:={m with gQ:=some g,ks:=dj b ⟨v,aK⟩ n}) (G4 ((f.map (·.1)).nodup_iff.2 (h.ks _ (gZ d)))) λk a=> ?_
 rcases qk a with a|rfl
 .exact h.gQ _ (gZ d) k (f.mem_iff.1 a)
 omega
theorem abe(b:(j.map (·.1)).Nodup)(a:y.Perm (tr h j)):(y.map (·.1)).Nodup:=(a.map (·.1)).nodup_iff.2 ((List.filter_sublist.map _).nodup b)
theorem ha.step{o}(h:ha c)(a:pD c o B):ha B:=by
 obtain⟨id,m,chg⟩:=o;rcases chg with l|⟨x,b⟩|⟨d,key,x,n,g⟩|⟨d,key,x,g⟩
 .subst a;exact h.GU (o:=⟨l,none,[],(0,0)⟩) (by simp) (λk i=>by cases i)
 .subst a;exact h.lay x b id
 .simp only[pD,EH]at a;split at a
  .obtain⟨v,j,e,f⟩:=a;exact h.abd (G4 (abe (h.at d key x) e)) f
  simp_all
 simp only[pD,EG]at a;split at a
 .obtain⟨v,j,e,f⟩:=a;exact h.abd (abe (h.at d key x) e) f
 simp_all
theorem ha.mx{D l}(h:ha D)(a:l1 D l c):ha c:=by
 induction l generalizing D with
 |nil=>exact a▸h
 |cons x l ih=>obtain⟨e,b,d⟩:=a;exact ih (h.step b) d
theorem ha.root:ha jK:=by
 refine⟨by simp[jK],by simp[jK],λp a=> ?_,λp a=> ?_,λp a=>by cases a⟩
 .simp[jK]at a
  simp_all
 simp[jK]at a
 simp_all
def CT (w:World) (c:Value):mY->Prop
 |.inl l=>c=.iface 197 (.agg #[.bool l])
 |.inr (.inl (x,b))=>c=.iface 179 (.agg #[A x.1,A x.2,A b.1,A b.2])
 |.inr (.inr (.inl (o,a,x,d,e)))=>∃s,c=.iface 182 (.agg #[A o.1,A o.2,.string a,A x.1,A x.2,A d.1,A d.2.1,A d.2.2,s])/\fu w s e
 |.inr (.inr (.inr (o,a,x,e)))=>∃s,c=.iface 184 (.agg #[A o.1,A o.2,.string a,A x.1,A x.2,s])/\fu w s e
def akj (w:World) (g i:Nat) (o:pC):Prop:=
 w.cell? (K g i)=some (A o.id.1)/\w.cell? (K g (i+1))=some (A o.id.2)/\w.cell? (K g (i+2))=some (A o.cb)/\∃c,w.cell? (K g (i+3))=some c/\CT w c o.chg
theorem aR.cell{w}(h:aR i w a){g:Nat}{v:Value}(d:¬i g)(c:w.cell? (K g b)=some v):a.cell? (K g b)=some v:=by unfold World.cell? at c⊢;rw[h.other g (e7 w _ c) d];exact c
theorem fu.Jm{S}(b:fu a e h)(i:aR S a z)(j:∀g c t f,a.heap[g]?=some (.cells c t f)->¬S g):fu z e h:=
 cu b (λg k=>by obtain⟨c,d⟩:=b0 b k;exact i.other g (aU d) (j g _ _ _ d))
theorem CT.Jm{S w d c q}(h:CT w c q)(i:aR S w d)(j:∀g c t f,w.heap[g]?=some (.cells c t f)->¬S g):CT d c q:=by
 rcases q with l|⟨x,b⟩|⟨o,k,x,n,m⟩|⟨o,k,x,m⟩
 .exact h
 .exact h
 .obtain⟨s,e,a⟩:=h;exact⟨s,e,a.Jm i j⟩
 obtain⟨s,e,a⟩:=h;exact⟨s,e,a.Jm i j⟩
theorem abf {w:World} {R:Nat->Prop} (h:cW w f b d c.1 c.2) (al:fJ b d R c.1 c.2) (hn:ha c) (um:∀k,w.heap.size<=k->R k) (g off cap:Nat) (l:List pC) (hl:l.length<=cap) (hc:l.length<=10000) (P8:off<=100000) (L3:∀k (E:k<l.length),akj w g (off+k*4) l[k]):
  O 134 #[Z f,.slice (some (K g off)) l.length cap] w λe w'=>(∃r,e=ad r)/\
   (∃q,l1 c l q/\cW w' f b d q.1 q.2/\fJ b d R q.1 q.2)/\aR (λk=>k=b\/k=d) w w':=by
 have sw:=show ∀g j t m,w.heap[g]?=some (.cells j t m)->¬(g=b\/g=d) from λg j t m X aj=>by
  obtain⟨es,aX,mz⟩:=h.al;obtain⟨kg,kh,k6⟩:=h.he;rcases aj with rfl|rfl
  .rw[mz.bb]at X;cases X
  rw[k6.bb]at X;cases X
 have El:=L3;have aT:=h;have dV:=ag al;have rO:=ag hn;have qT:=ag um;go_enter func134,ntmps134;go_wp2;go_loopw [8] (λi wr=>∃k:Nat,k<=l.length/\i=A k/\(∃q,l1 c (l.take k) q/\cW wr f b d q.1 q.2/\fJ b d R q.1 q.2)/\aR (λk=>k=b\/k=d) w wr) (λi _=>l.length-(intOf i).toNat)
 case atStart=>exact⟨0,b6 _,rfl,⟨c,.nil,aT,dV.o⟩,aR.cL (ca _ _)⟩
 case round=>
  obtain⟨k,E,rfl,⟨q,iB,aw,bQ⟩,GY⟩:=hrel;have F:=ag iB;have Q:=ag aw;have S:=ag bQ;have B:=ag GY;by_cases U:k<l.length
  .obtain⟨bw,bm,bq,j,ce,pz⟩:=El k U;have Y:¬(g=b\/g=d):=by
    have z:=bw;unfold World.cell? at z;simp only at z;cases dO:w.heap[g]? with
    |none=>rw[dO]at z;cases z
    |some o=>
     cases o with
     |cells cs t m=>exact sw g _ _ _ dO
     |_=>rw[dO]at z;simp at z
   have C:=ag (pz.Jm B.o sw);replace bw:=B.o.cell Y bw;replace bm:=B.o.cell Y bm;replace bq:=B.o.cell Y bq;replace ce:=B.o.cell Y ce;rcases D:l[k].chg with a6|⟨x,a⟩|⟨o,W,x,val,gs⟩|⟨o,W,x,gs⟩
   .rw[D]at C;have v:=C.o;simp only[CT]at v;subst v;have y:=ag (show J wr (wr.alloc (.cells #[A l[k].id.1,A l[k].id.2,A l[k].cb,.iface 197 (.agg #[.bool a6])] 210)) from aV wr _);have I:=ag ((ajL (Q.o.ak y.o) S.o a6 l[k].id.1 l[k].id.2).mono (λe w' p=>(show(∃r,e=ad r)/\(∃n,pD q l[k] n/\cW w' f b d n.1 n.2/\fJ b d R n.1 n.2)/\aR (λk=>k=b\/k=d) _ w' from⟨p.1,⟨(dj l[k].id ⟨a6,none,[],(0,0)⟩ q.1,q.2),by unfold pD;rw[D],p.2.1,p.2.2.1⟩,p.2.2.2.mono λk E=>.inl E⟩)));go_wp2_with fail
    refine I.o.mono ?_;rintro e w2 ⟨⟨r,rfl⟩,z,L⟩;obtain⟨n,M,N,P⟩:=z;have u:=ag (aN M (aN N (aN P (B.o.trans ((aR.cL y.o).trans L)))));go_wp2;go_roundw
    case rel=>exact⟨k+1,by omega,by go_num,⟨n,by rw[lx U];exact .snoc F.o u.o.1,u.o.2.1,u.o.2.2.1⟩,u.o.2.2.2⟩
    case measure=>simp[intOf];omega
   .rw[D]at C;have v:=C.o;simp only[CT]at v;subst v;have y:=ag (show J wr (wr.alloc (.cells #[A l[k].id.1,A l[k].id.2,A l[k].cb,.iface 179 (.agg #[A x.1,A x.2,A a.1,A a.2])] 210)) from aV wr _);have I:=ag ((ajT (Q.o.ak y.o) S.o x a l[k].id).mono (λe w' p=>(show(∃r,e=ad r)/\(∃n,pD q l[k] n/\cW w' f b d n.1 n.2/\fJ b d R n.1 n.2)/\aR (λk=>k=b\/k=d) _ w' from⟨p.1,⟨nX q x a l[k].id,by unfold pD;rw[D],p.2.1,p.2.2.1⟩,p.2.2.2⟩)));go_wp2_with fail
    refine I.o.mono ?_;rintro e w2 ⟨⟨r,rfl⟩,z,L⟩;obtain⟨n,M,N,P⟩:=z;have u:=ag (aN M (aN N (aN P (B.o.trans ((aR.cL y.o).trans L)))));go_wp2;go_roundw
    case rel=>exact⟨k+1,by omega,by go_num,⟨n,by rw[lx U];exact .snoc F.o u.o.1,u.o.2.1,u.o.2.2.1⟩,u.o.2.2.2⟩
    case measure=>simp[intOf];omega
   .rw[D]at C;have v:=C.o;simp only[CT]at v;obtain⟨s,v,L4⟩:=v;subst v;have y:=ag (show J wr (wr.alloc (.cells #[A l[k].id.1,A l[k].id.2,A l[k].cb,.iface 182 (.agg #[A o.1,A o.2,.string W,A x.1,A x.2,A val.1,A val.2.1,A val.2.2,s])] 210)) from aV wr _);have I:=ag ((aki (Q.o.ak y.o) S.o (rO.o.mx F.o) o x l[k].id val W (L4.ak y.o) (λk E=>qT.o k (cd B.o.size (cd y.o.size E)))).mono (λe w' p=>(show(∃r,e=ad r)/\(∃n,pD q l[k] n/\cW w' f b d n.1 n.2/\fJ b d R n.1 n.2)/\aR (λk=>k=b\/k=d) _ w' from⟨p.1,⟨p.2.1.choose,by unfold pD;rw[D];exact p.2.1.choose_spec.1,p.2.1.choose_spec.2.1,p.2.1.choose_spec.2.2⟩,p.2.2⟩)));go_wp2_with fail
    refine I.o.mono ?_;rintro e w2 ⟨⟨r,rfl⟩,z,L⟩;obtain⟨n,M,N,P⟩:=z;have u:=ag (aN M (aN N (aN P (B.o.trans ((aR.cL y.o).trans L)))));go_wp2;go_roundw
    case rel=>exact⟨k+1,by omega,by go_num,⟨n,by rw[lx U];exact .snoc F.o u.o.1,u.o.2.1,u.o.2.2.1⟩,u.o.2.2.2⟩
    case measure=>simp[intOf];omega
   rw[D]at C;have v:=C.o;simp only[CT]at v;obtain⟨s,v,L4⟩:=v;subst v;have y:=ag (show J wr (wr.alloc (.cells #[A l[k].id.1,A l[k].id.2,A l[k].cb,.iface 184 (.agg #[A o.1,A o.2,.string W,A x.1,A x.2,s])] 210)) from aV wr _);have I:=ag ((akf (Q.o.ak y.o) S.o (rO.o.mx F.o) o x l[k].id W (L4.ak y.o) (λk E=>qT.o k (cd B.o.size (cd y.o.size E)))).mono (λe w' p=>(show(∃r,e=ad r)/\(∃n,pD q l[k] n/\cW w' f b d n.1 n.2/\fJ b d R n.1 n.2)/\aR (λk=>k=b\/k=d) _ w' from⟨p.1,⟨p.2.1.choose,by unfold pD;rw[D];exact p.2.1.choose_spec.1,p.2.1.choose_spec.2.1,p.2.1.choose_spec.2.2⟩,p.2.2⟩)));go_wp2_with fail
   refine I.o.mono ?_;rintro e w2 ⟨⟨r,rfl⟩,z,L⟩;obtain⟨n,M,N,P⟩:=z;have u:=ag (aN M (aN N (aN P (B.o.trans ((aR.cL y.o).trans L)))));go_wp2;go_roundw
   case rel=>exact⟨k+1,by omega,by go_num,⟨n,by rw[lx U];exact .snoc F.o u.o.1,u.o.2.1,u.o.2.2.1⟩,u.o.2.2.2⟩
   case measure=>simp[intOf];omega
  go_wp2;go_end0
  refine⟨⟨_,rfl⟩,⟨q,?_,Q.o,S.o⟩,B.o⟩;have :=F.o;rwa [kp (by omega)]at this
end
