/- Our own text. -/
import Derived.BigQuiet
import Derived.Deep.RegionWith
import Derived.Deep.RegionHeld3
import Derived.Test.YtnkpogjiiohapaaGreatDoorA23
import Derived.Test.YtnkpogjiiohapaaGreatDoorA21
import Derived.Test.YtnkpogjiiohapaaGreatDoorA20
import Derived.Test.YtnkpogjiiohapaaGreatDoorA26
import Derived.Test.YtnkpogjiiohapaaGreatDoorA16
import Derived.Test.YtnkpogjiiohapaaGreatDoorA10
import Derived.Test.YtnkpogjiiohapaaGreatDoorA36
import Derived.Test.YtnkpogjiiohapaaGreatDoorA32
import Derived.Test.YtnkpogjiiohapaaGreatDoorA31
set_option linter.unusedSimpArgs false
set_option linter.unusedVariables false
set_option maxRecDepth 1000000
set_option maxHeartbeats 1000000
namespace Go.Proofs.YtnkpogjiiohapaaGreatDoor
section
variable {a c e:Nat}{b h:bn}{d:Nat->List ar}{f:bP}
def AB (i:Nat) (o:ar):Bool:=o.op.id.2==(i:Int)
def qOf (l:List ar):List (Nat×Nat):=l.map fun o=>(o.op.id.2.toNat,o.op.nth.toNat)
def JO (l:List ar) (i:Nat):Nat:=(l.filter (AB i)).length
theorem alC{i:Nat}:∀{l:List ar},(∀o∈l,0<=o.op.id.2)->aa0 (qOf l) i=JO l i
 |[],_=>rfl
 |o::l,h=>by
  have ih:=alC (i:=i) (l:=l) fun p a=>h p (by simp[a])
  have b:=h o (by simp);unfold aa0 qOf JO at *;simp only[aqj,ar3];have e:(o.op.id.2.toNat==i)=AB i o:=by
   unfold AB;rw[Bool.eq_iff_iff,beq_iff_eq,beq_iff_eq];omega
  simp only[e];split
  ·simp[ih]
  omega
theorem aa1{N M}(a:iO N M){b:Nat->Int}{i:Nat}:∀n,n<=N->(oD M b n).filter (AB i)=if i<n then(M i).take (b i).toNat else[]
 |0,_=>by rfl
 |n+1,h=>by
  rw[Ac,arq,aa1 a n (by omega)];by_cases e:i=n
  ·subst e;rw[if_neg (by omega),if_pos (by omega),aqK,List.filter_eq_self];intro o d;obtain⟨_,_,_,f,_⟩:=a.at (c:=i) (by omega) (aqE d);simp[AB,f]
  have :((M n).take (b n).toNat).filter (AB i)=[]:=by
   rw[List.filter_eq_nil_iff];intro o d;obtain⟨_,_,_,f,_⟩:=a.at (c:=n) (by omega) (aqE d);simp[AB,f];omega
  rw[this,aqB];by_cases g:i<n
  ·rw[if_pos g,if_pos (by omega)]
  rw[if_neg g,if_neg (by omega)]
theorem alD(f:iO c d)(g:a<c):qA (d a):=(f.jB a g).imp fun{e b} h=>(qz _ _).2 (.inl h)
theorem ev.alE(ok:ev e d b)(f:a<e)(g:c<e):(b.ops a).filter (AB c)=(d c).take (b.has a c).toNat:=by
 have h:=(ok.copy a f).perm.filter (AB c);rw[aa1 ok.made e (apX _),if_pos g]at h;exact YE ((ok.jB a f).sublist (List.filter_sublist ..)) ((alD ok.made g).sublist (List.take_sublist ..)) h
theorem ev.alF(ok:ev c d b)(f:e<c)(g:a<c):(b.has e a).toNat<=(d a).length:=by
 have :=(ok.copy e f).km a g;omega
theorem ev.aoY(ok:ev a d b)(f:c<a)(g:e<a):JO (b.ops c) e=(b.has c e).toNat:=by
 unfold JO;rw[ok.alE f g,aqg];have :=ok.alF f g;omega
theorem ev.in0(ok:ev a d b)(g:c<a){o:ar}(h:o∈b.ops c):∃i,i<a/\o.op.id.2=(i:Int)/\1<=o.op.nth:=by
 obtain⟨e,f,j⟩:=(ok.copy c g).made h;obtain⟨i,l,_,k,m,_⟩:=ok.made.at f j;exact⟨e,f,k,by omega⟩
def wh (N:Nat) (s:bn) (S:bP):Prop:=(∀c i,c<N->i<N->S.lost c i=JO (s.gone c) i)/\∀c d i,c<N->d<N->d≠c->i<N->S.lost c i<=S.known c d i
theorem wh.more{g:bP}(e:wh a b f)(m:h.gone=b.gone)(l:g.lost=f.lost)(n:∀c d i,f.known c d i<=g.known c d i):wh a h g:=
 ⟨fun c i j k=>by rw[l,m];exact e.1 c i j k,fun c d i j o p k=>by rw[l];exact ap0 (e.2 c d i j o p k) (n c d i)⟩
theorem wh.same{s':bn}{S':bP}(h:wh a b f)(e:s'.gone=b.gone)(g:S'.lost=f.lost)(j:S'.known=f.known):wh a s' S':=h.more e g fun c d i=>by simp_all
theorem l8.gone{c:Nat}:∀(a:List bH) {M d:Nat->List ar} {s b:bn},l8 c a M s d b->b.gone=s.gone
 |[],_,_,_,_,h=>by rw[h.2]
 |p::a,_,_,_,_,h=>by
  obtain⟨f,t,v,_,e⟩:=h;exact(l8.gone a e).trans rfl
theorem wh.Ad(j:wh c b f)(k:tz c b e a h):wh c h (nG c f e a):=by
 have o:h.gone=b.gone:=by
  unfold tz at k;split at k
  ·rw[k]
  ·obtain⟨_,_,_,rfl⟩:=k;rfl
  obtain⟨_,_,rfl⟩:=k;rfl
 have l:(nG c f e a).lost=f.lost/\∀d g i,f.known d g i<=(nG c f e a).known d g i:=by
  unfold nG;split
  ·simp
  split
  ·refine⟨rfl,fun d g i=> ?_⟩;show _<=upd f.known a (upd (f.known a) e _) d g i;by_cases m:d=a
   ·subst m;rw[bF];by_cases n:g=e
    ·subst n;rw[bF];exact Nat.le_max_left _ _
    rw[b6 _ _ n];simp
   rw[b6 _ _ m];simp
  exact⟨rfl,fun _ _ _=>apX _⟩
 exact j.more o l.1 l.2
end
section
open Go.RowKit Go.Conc Tryz
variable {a b d e:Nat}{c:World}
theorem alG{P:Program}{Q:Goroutine->World->Prop}{f:FuncId}{args:Array Value}{a:Frame}{cs:List Frame}{w:World}{R:World->Prop}(d:Calls P f args w fun e w'=>(∃v,e=.returned v)/\R w'){b:Frame}(i:b=Frame.enter P f args .normal)(h:∀v w',R w'->LoneTo P Q (G (a.finish v) cs) w'):LoneTo P Q (G b (a::cs)) w:=by
 subst i;obtain⟨e,w',j,⟨⟨v,rfl⟩,k⟩,l,_,m⟩:=d (a::cs);obtain⟨n,o,p,q⟩:=LoneTo.step (P:=P) (Q:=Q) (g:=G j (a::cs)) (w:=w') (g':=G (a.finish v) cs) (w':=w') (step_leave_returned (c:=a) (cs:=cs) m) (h v w' k);exact⟨n,o,Steps.trans l p,q⟩
theorem alH{P:Program}{Q d:Goroutine->World->Prop}{g:Goroutine}(h:LoneTo P Q g c)(e:∀a b,Q a b->d a b):LoneTo P d g c:=
 let⟨a,b,f,i⟩:=h;⟨a,b,f,e a b i⟩
def JP (N c d:Nat):Nat->bn->bn->Prop
 |0,s,a=>a=s
 |k+1,s,a=>∃b,tz N s c d b/\JP N c d k b a
theorem tz.rest{e}{s:bn}{c:Nat}(f:c≠a){m:hp}{d:List hp}(g:s.ms c a=m::d)(h:tz b s c a e):e.ms c a=d/\e.sh=s.sh:=by
 unfold tz at h;rw[g]at h;cases m with
 |inl l=>
  obtain⟨i,_,_,rfl⟩:=h;refine⟨?_,rfl⟩;show upd (upd s.ms c (upd (s.ms c) a d)) a _ c a=d;rw[b6 _ _ f,bF,bF]
 |inr j=>
  obtain⟨_,_,rfl⟩:=h;refine⟨?_,rfl⟩;show upd s.ms c (upd (s.ms c) a d) c a=d;rw[bF,bF]
def JQ:Code->Code:=fun c=>xc (xb (oA (match oA (oA (oA (oA c))) with |.seq a _=>a|a=>a)))
def JR:Code->Code:=fun c=>oA (oA (oA (oA (oA c))))
def aa2 (b:List Frame) (R:Int->World->Prop) (c:Goroutine) (w':World):Prop:=∃e a,c=G a b/\(∃n,e=.returned (.tuple #[A n,A 0])/\R n w')/\a.fn=122/\a.leaving prog w' e
theorem alI{B e:Code}(g:B=JQ (f122.body.getD .skip))(h:e=JR (f122.body.getD .skip)){R:Int->World->Prop}{w:World}(i:w.heap[a]?=some (.chan 12 #[] true b d false))(n:Int)(j:R n w)(f:List Frame)(k l m o p q r s t u v x y C D E F I L M N P Q S U W X Y GW GX GY JS JT JU JV JW JX JY JZ J0 J1 GZ:Value):
  LoneTo prog (aa2 f R) (G ((base 122).at ⟨#[k,l,m,o,p,q,r,s,t,u,A n,v,x,y,C,D,E,F,I,L,M,N,P,Q,S,U,W,X,Y,GW,GX,GY,.chan (some a),JS,JT,JU,JV,JW,JX,JY,JZ,J0,J1,GZ],[]⟩ [.code B,.inLoop B,.inBlock 1,.code e]) f) w:=by
 refine LoneTo.goes (n:=20) ?_;simp only[g,h,f122,aqu,JQ,JR,oA,xb,xc]
 s_c stepG_seq
 s_reg
 s_stop
 refine LoneTo.step (step_lone_recv_shut true (c:=a) (z:=.nilIface) (stepG_comm (cases := #[rcase a .nilIface]) (blocking:=true) (shape:=.recv true) (w':=w) rfl rfl (by decide) (by simp[go_sem,rcase])) i) ?_;rw[Frame.finish_at]
 walk_nrm
 refine LoneTo.goes (n:=20) ?_
 s_op
 s_c stepG_region_end
 s_c stepG_seq
 s_cond false
 s_exit
 s_c stepG_seq
 s_reg
 s_op
 s_op
 s_op
 s_c stepG_region_end
 s_c stepG_ret'
 s_stop
 exact LoneTo.done ⟨.returned (.tuple #[A n,A 0]),_,rfl,⟨n,rfl,j⟩,rfl,rfl,rfl,rfl,_,func122,by simp[results,f122,Frame.at]⟩
theorem alJ{B g:Code}(hB:B=JQ (f122.body.getD .skip))(ck:g=JR (f122.body.getD .skip)){c:Nat}{M:Nat->List ar}(q:c<b)(r:a<b)(j:c≠a)(cs:List Frame):
  ∀(k:Nat) (n:Int) (w:World) (F I:Nat->Prop) (s:bn) (x:cI) (R:Int->World->Prop) (t y C D E L N xd P Q S U W X Y uL vR GN GO GP GQ GR GS GU GV GW GX GY JS JT JU JV JW JX JY JZ J0 J1 GZ:Value),0<=n->n+k<=100->ec w d F I b e s x->ev b M s->s.sh c a=true->(s.ms c a).length=k->
   (∀w' s',JP b c a k s s'->vT d b e F I w w' s'->R (n+k) w')->
   LoneTo prog (aa2 cs R) (G ((base 122).at ⟨#[Z d,A c,A a,t,y,C,D,E,L,N,A n,xd,P,Q,S,U,W,X,Y,uL,vR,GN,GO,GP,GQ,GR,GS,GU,GV,GW,GX,GY,.chan (some (x.gc c a)),JS,JT,JU,JV,JW,JX,JY,JZ,J0,J1,GZ],[]⟩ [.code B,.inLoop B,.inBlock 1,.code g]) cs) w:=by
 intro k
 induction k with
 |zero=>
  intro n w F I s x R t y C D E L N xd P Q S U W X Y uL vR GN GO GP GQ GR GS GU GV GW GX GY JS JT JU JV JW JX JY JZ J0 J1 GZ oR hn h ok ad i bw;have o:=arb i;have p:=h.link c a q r j;have aF:x.fX c a=[]:=by
   have :=h.tu c a q r j;rw[o]at this;cases f:x.fX c a with
   |nil=>rfl
   |cons _ _=>rw[f]at this;exact this.elim
  rw[aF,ad]at p;exact alI hB ck p.lA n (by simpa using bw w s rfl (h.same (apY _ _))) cs _ _ _ _ _ _ _ _ _ _ _ _ _ _ _ _ _ _ _ _ _ _ _ _ _ _ _ _ _ _ _ _ _ _ _ _ _ _ _ _ _ _
 |succ k ih=>
  intro n w F I s x R t y C D E L N xd P Q S U W X Y uL vR GN GO GP GQ GR GS GU GV GW GX GY JS JT JU JV JW JX JY JZ J0 J1 GZ oR hn h ok ad i bw;obtain⟨m,ms,o⟩:∃m ms,s.ms c a=m::ms:=by
   cases f:s.ms c a with
   |nil=>rw[f]at i;cases i
   |cons m ms=>exact⟨m,ms,rfl⟩
  obtain⟨v,l,p,gu⟩:=Y8 h ok q r j o;rw[ad]at p gu;refine LoneTo.goes (n:=40) ?_;simp only[hB,ck,f122,aqu,JQ,JR,oA,xb,xc]
  s_c stepG_seq
  s_reg
  s_stop
  refine LoneTo.step (step_lone_recv_buf true (c:=x.gc c a) (z:=.nilIface) (stepG_comm (cases := #[rcase (x.gc c a) .nilIface]) (blocking:=true) (shape:=.recv true) (w':=w) rfl rfl (by decide) (by simp[go_sem,rcase])) p.lA (by simp)) ?_;rw[Frame.finish_at];have aj:(v::l).toArray.getD 0 undef=v:=by simp
  have aw:(v::l).toArray.extract 1 (v::l).toArray.size=l.toArray:=by simp
  rw[aj,aw]
  walk_nrm
  refine LoneTo.goes (n:=40) ?_
  s_op
  s_c stepG_region_end
  s_c stepG_seq
  s_cond true
  s_c stepG_skip
  s_c stepG_block
  s_c stepG_seq
  s_reg
  s_op
  s_op
  s_c stepG_region_end
  s_c stepG_seq
  s_reg
  s_op
  s_op
  s_op
  s_op
  s_in
  refine goes_call rfl rfl (by decide) rfl func75 (by decide) rfl ⟨trivial,?_⟩
  s_stop
  refine alG gu (by simp[Frame.enter,Frame.at,func75,base,f75,Act.eval]) fun u w1 ax=> ?_
  obtain⟨s1,ot,iK,ln,x1,lJ,po,dj⟩:=ax;rw[Frame.finish_at]
  walk_nrm
  have hT:IntKind.i64.wrap (n+1)=n+1:=aqS _ (by omega);refine LoneTo.goes (n:=20) ?_
  s_c stepG_region_end
  s_reg
  s_op
  s_op
  s_op
  s_c stepG_region_end
  s_c stepG_inBlock
  s_c stepG_inLoop
  s_stop
  obtain⟨e3,dS⟩:=ot.rest j o;have h2:=ih (n+1) w1 iK ln s1 x1 R t y C D E L N v P Q S U W X Y uL vR GN GO GP GQ GR GS GU GV GW GX GY (.tuple #[v,.bool true]) (.bool true) v (Z d) v (A c) (A a) u (A n) (A (n+1)) GZ (by omega) (by omega) lJ (ok.Ad q r j ot) (by rw[dS];exact ad) (by rw[e3];rw[o]at i;simpa using i) fun w' s' cK eQ=>by
   obtain⟨aR,I',x',h1,h2,al⟩:=eQ;have :=bw w' s' ⟨s1,ot,cK⟩ ⟨aR,I',x',h1,po.1.trans h2,po.2.trans al po.1.size⟩;rw[show n+1+(k:Int)=n+((k+1:Nat):Int) by omega];omega
  simp only[dj,hB,ck,f122,aqu,JQ,JR,oA,xb,xc]at h2;exact h2
def aa3 (r N b:Nat) (F I:Nat->Prop) (s:bn) (c d:Nat) (w:World) (e:Ending) (f:World):Prop:=e=.returned (.tuple #[A (if s.sh c d=true then((s.ms c d).length:Int) else 0),A (if s.sh c d=true then 0 else 11)])/\∃a,JP N c d (if s.sh c d=true then(s.ms c d).length else 0) s a/\vT r N b F I w f a
theorem alK{F I p s x M}(h:ec c e F I d p s x)(ok:ev d M s)(i:a<d)(j:b<d)(k:a≠b):
  O 122 #[Z e,A a,A b] c fun f g=>aa3 e d p F I s a b c f g:=by
 have r:=IV h i j k;have l:=h.link a b i j k;have E:c.cell? (H (x.gl a b))=some (.chan (some (x.gc a b))):=by simp[World.cell?,l.blk]
 have t:c.cell? (K (x.gl a b) 1)=some (.bool (s.sh a b)):=by simp[World.cell?,l.blk]
 cases m:s.sh a b with
 |false=>
  rw[m]at t;go_enter func122,ntmps122;go_wp2_with fail
  refine r.mono ?_;rintro f q ⟨rfl,rfl⟩;go_wp2;go_ret2
  unfold aa3;rw[m];exact⟨rfl,s,rfl,h.same (apY _ _)⟩
 |true=>
  rw[m]at t l;refine calls_of_loneTo fun u=> ?_
  have f:Frame.enter prog 122 #[Z e,A a,A b] .normal=(base 122).at ⟨#[Z e,A a,A b,undef,undef,undef,undef,undef,undef,undef,undef,undef,undef,undef,undef,undef,undef,undef,undef,undef,undef,undef,undef,undef,undef,undef,undef,undef,undef,undef,undef,undef,undef,undef,undef,undef,undef,undef,undef,undef,undef,undef,undef,undef],[]⟩ [.code (f122.body.getD .skip)]:=by
   simp[Frame.enter,Frame.at,func122,base,f122]
  rw[f];refine LoneTo.goes (n:=40) ?_;simp only[f122,aqu]
  s_c stepG_seq
  s_reg
  s_op
  s_op
  s_c stepG_region_end
  s_c stepG_seq
  s_reg
  s_op
  s_op
  s_op
  s_in
  refine goes_call rfl rfl (by decide) rfl func51 (by decide) rfl ⟨trivial,?_⟩
  s_stop
  refine Ym r (by simp[Frame.enter,Frame.at,func51,base,f51,Act.eval]) fun q v=> ?_
  subst v;rw[Frame.finish_at]
  walk_nrm
  refine LoneTo.goes (n:=60) ?_
  s_op
  s_op
  s_op
  s_op
  s_op
  s_c stepG_region_end
  s_c stepG_seq
  s_c stepG_block
  s_c stepG_seq
  s_reg
  s_op
  s_op
  s_op
  s_c stepG_region_end
  s_cond false
  s_c stepG_seq
  s_reg
  s_op
  s_op
  s_op
  s_op
  s_op
  s_op
  s_c stepG_region_end
  s_cond false
  s_c stepG_skip
  s_c stepG_inBlock
  s_c stepG_seq
  s_reg
  s_op
  s_c stepG_region_end
  s_c stepG_seq
  s_c stepG_seq
  s_reg
  s_op
  s_op
  s_op
  s_op
  s_c stepG_region_end
  s_c stepG_block
  s_c stepG_loop
  s_stop
  have w:=l.len;rw[<-(h.tu a b i j k).len]at w;refine alH (alJ rfl rfl i j k u (s.ms a b).length 0 q F I s x (fun n g=>n=(s.ms a b).length/\∃o,JP d a b (s.ms a b).length s o/\vT e d p F I q g o) _ _ _ _ _ _ _ _ _ _ _ _ _ _ _ _ _ _ _ _ _ _ _ _ _ _ _ _ _ _ _ _ _ _ _ _ _ _ _ (by omega) (by omega) h ok m rfl (fun g o y z=>⟨by omega,o,y,z⟩)) ?_;rintro L g ⟨f,B,C,⟨n,N,P,Q⟩,D⟩;refine⟨f,B,C,⟨?_,?_⟩,D⟩
  ·simp_all
  simp_all
end
end Go.Proofs.YtnkpogjiiohapaaGreatDoor
