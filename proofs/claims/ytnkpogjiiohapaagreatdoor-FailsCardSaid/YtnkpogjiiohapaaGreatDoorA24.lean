/- Our own text. -/
import Derived.Conc.LoneCalls
import Derived.Conc.LoneSelectN
import Derived.Test.YtnkpogjiiohapaaGreatDoorA20
import Derived.Test.YtnkpogjiiohapaaGreatDoorA10
import Derived.Test.YtnkpogjiiohapaaGreatDoorA15
set_option linter.unusedSimpArgs false
set_option linter.unusedVariables false
set_option maxRecDepth 1000000
namespace Go.Proofs.YtnkpogjiiohapaaGreatDoor
section
open Go.RowKit Go.Conc Tryz
variable {a b c h:Nat}{d:List Value}{e:World}{f:Bool}{i:Value}
structure hq (w:World) (gl gc:Nat) (l:List Value) (shut:Bool) (s r:Nat):Prop where
 blk:w.heap[gl]?=some (.cells #[.chan (some gc),.bool shut] 153 (0,0))
 lA:w.heap[gc]?=some (.chan 12 l.toArray shut s r false)
 len:l.length<=12
theorem Mz{r}(j:hq e a b (i::d) f h r):
  O 76 #[Z a] e fun g w'=>g=.returned i/\w'=e.setChan b 12 d.toArray f h (r+1) false:=by
 refine calls_of_loneTo fun m=> ?_
 have g:Frame.enter prog 76 #[Z a] .normal=(base 76).at ⟨#[Z a,undef,undef,undef,undef,undef,undef,undef],[]⟩ [.code (f76.body.getD .skip)]:=by
  simp[Frame.enter,Frame.at,func76,base,f76]
 rw[g];have o:e.cell? (H a)=some (.chan (some b)):=by simp[World.cell?,j.blk]
 refine LoneTo.goes (n:=30) ?_;simp only[f76,aqu]
 s_c stepG_seq
 s_reg
 s_op
 s_c stepG_region_end
 s_c stepG_seq
 s_reg
 s_op
 s_op
 s_op
 s_op
 s_stop
 refine LoneTo.step (step_lone_recv_buf false (c:=b) (z:=.nilIface) (stepG_comm (cases := #[rcase b .nilIface]) (blocking:=true) (shape:=.recv false) (w':=e) rfl rfl (by decide) (by simp[go_sem,rcase])) j.lA (by simp)) ?_;rw[Frame.finish_at];have k:(i::d).toArray.getD 0 undef=i:=by simp
 have l:(i::d).toArray.extract 1 (i::d).toArray.size=d.toArray:=by simp
 rw[k,l];simp only[got]
 walk_nrm
 refine LoneTo.goes (n:=4) ?_
 s_op
 s_c stepG_region_end
 s_c stepG_ret'
 s_stop
 exact LoneTo.done ⟨.returned i,_,rfl,⟨rfl,rfl⟩,rfl,rfl,rfl,rfl,_,func76,by simp[results,f76,Frame.at]⟩
theorem Rq{w}(g:hq w a b d f c h):
  O 129 #[Z a] w fun e j=>e=.returned (A d.length)/\j=w:=by
 have l:w.cell? (H a)=some (.chan (some b)):=by simp[World.cell?,g.blk]
 have k:=fun i=>run_len_chan (P:=prog) 151 i underlying151 g.lA
 have m:=fun i=>run_cap_chan (P:=prog) 151 i underlying151 g.lA
 simp only[arp]at k;go_enter func129,ntmps129;go_wp2;go_ret
 exact⟨rfl,rfl⟩
theorem Rr{w g r}(h:hq w a b d g c r):
  O 52 #[Z a] w fun e j=>e=.returned (A (if g then 10 else if d.length=12 then 8 else 0))/\J w j:=by
 have m:w.cell? (H a)=some (.chan (some b)):=by simp[World.cell?,h.blk]
 have n:w.cell? (K a 1)=some (.bool g):=by simp[World.cell?,h.blk]
 have k:=fun f=>run_len_chan (P:=prog) 151 f underlying151 h.lA
 have o:=fun f=>run_cap_chan (P:=prog) 151 f underlying151 h.lA
 have l:=fun f=>run_len_chan (P:=prog) (w:=w.drew) 151 f underlying151 h.lA
 have p:=fun f=>run_cap_chan (P:=prog) (w:=w.drew) 151 f underlying151 h.lA
 simp only[arp]at k l;cases g with
 |true=>
  go_enter func52,ntmps52;go_wp2;go_ret
  exact⟨rfl,apY _ _⟩
 |false=>
  by_cases i:d.length=12
  ·go_enter func52,ntmps52;go_wp2;go_region
   all_goals(go_wp2;go_ret)
   all_goals exact⟨by simp[i],Below.drew (apY _ _)⟩
  go_enter func52,ntmps52;go_wp2;go_region
  all_goals(go_wp2;go_ret)
  all_goals exact⟨by simp[i],Below.drew (apY _ _)⟩
theorem Ym{P:Program}{Q:Goroutine->World->Prop}{f:FuncId}{args:Array Value}{a:Frame}{cs:List Frame}{w:World}{R:World->Prop}(d:Calls P f args w fun e w'=>e=.returned i/\R w'){b:Frame}(j:b=Frame.enter P f args .normal)(h:∀w',R w'->LoneTo P Q (G (a.finish i) cs) w'):LoneTo P Q (G b (a::cs)) w:=by
 subst j;obtain⟨e,w',k,⟨rfl,l⟩,m,_,n⟩:=d (a::cs);have o:=step_leave_returned (c:=a) (cs:=cs) n;obtain⟨p,q,r,s⟩:=LoneTo.step (P:=P) (Q:=Q) (g:=G k (a::cs)) (w:=w') (g':=G (a.finish i) cs) (w':=w') o (h w' l);exact⟨p,q,Steps.trans m r,s⟩
def oA:Code->Code|.seq _ b=>b|c=>c
def xb:Code->Code|.block _ c=>c|c=>c
def xc:Code->Code|.loop c=>c|c=>c
def rp (shut:Bool):List Value->List Value->List Value
 |l,[]=>l
 |l,m::a=>rp shut (if shut=true\/l.length=12 then l else l++[m]) a
def Rt (gl gc:Nat) (l:List Value) (shut:Bool) (r:Nat) (w a:World):Prop:=∃b,hq a gl gc l shut b r/\aO (fun k=>k=gc) w a
def Yn (f:FuncId) (c:List Frame) (R:World->Prop) (d:Goroutine) (b:World):Prop:=∃e a,d=G a c/\(e=.returned (.tuple #[])/\R b)/\a.fn=f/\a.leaving prog b e
theorem hq.ae{w l r}{w':World}(h:hq w a b l f c r)(d:J w w'):hq w' a b l f c r:=
 ⟨(d.block a (aN h.blk)).trans h.blk,(d.block b (aN h.lA)).trans h.lA,h.len⟩
theorem MA(w:World)(cap:Nat)(c:Array Value)(d:Bool)(s r:Nat)(f:Bool)(h:a≠b):(w.setChan b cap c d s r f).heap[a]?=w.heap[a]?:=by
 simp only[World.setChan];rw[Array.getElem?_setIfInBounds_ne (fun e=>h e.symm)]
theorem IM(w:World)(c cap:Nat)(a:Array Value)(b:Bool)(s r:Nat)(d:Bool):aO (fun k=>k=c) w (w.setChan c cap a b s r d):=
 ⟨rfl,rfl,rfl,by rw[size_setChan];exact apX _,fun k _ e=>MA w cap a b s r d e⟩
theorem hq.ne{r}(g:hq e c a d f h r){i:Nat}{v:Value}(k:e.cell? (K b i)=some v):b≠a:=fun j=>by
 subst j;simp[World.cell?,g.lA]at k
theorem hq.Eh(g:hq e b a d f c h)(m:Value)(j k:Nat)(l:d.length<12):hq (e.setChan a 12 (d++[m]).toArray f j k false) b a (d++[m]) f j k:=
 ⟨(MA e _ _ _ _ _ _ (g.ne (i:=0) (v:=.chan (some a)) (by simp[World.cell?,g.blk]))).trans g.blk,by rw[heap_setChan _ _ _ _ _ _ _ _ (aN g.lA)],by simp;omega⟩
theorem ahK(f:Nat)(g:Array Value)(j:Bool)(s r:Nat)(k:Bool)(l:a≠c)(h:e.cell? (K a b)=some i):(e.setChan c f g j s r k).cell? (K a b)=some i:=by
 have d:=MA e f g j s r k l;simp only[World.cell?]at h⊢;rw[d];exact h
theorem ahL{B:Code}(b:B=xc (xb (oA (f53.body.getD .skip)))){R:World->Prop}(c:R e)(a:List Frame)(n:Nat)(d f g h i j k l m o p q r s t u v w x:Value):
  LoneTo prog (Yn 53 a R) (G ((base 53).at ⟨#[d,f,g,h,i,j,k,A n,A n,l,m,o,p,q,r,s,t,u,v,w,x],[]⟩ [.code B,.inLoop B,.inBlock 0]) a) e:=by
 refine LoneTo.goes (n:=20) ?_;simp only[b,f53,aqu,oA,xb,xc]
 s_c stepG_seq
 s_reg
 s_op
 s_c stepG_region_end
 s_c stepG_seq
 have y:decide ((n:Int)<(n:Int))=false:=by simp
 s_cond false
 s_exit
 s_c stepG_end
 s_stop
 exact LoneTo.done ⟨.returned (.tuple #[]),_,rfl,⟨rfl,c⟩,rfl,rfl,rfl,rfl,_,func53,by simp[results,f53,Frame.at]⟩
theorem ahM{B:Code}(v:B=xc (xb (oA (f53.body.getD .skip)))){gl gc g off cap n r:Nat}{shut:Bool}(I:List Frame)(M:Nat->Value)(hn:n<=1000):
  ∀(k i:Nat) (l:List Value) (s:Nat) (w:World) (R:World->Prop) (b d e L N P Q S U W x y z C D X:Value),i+k=n->hq w gl gc l shut s r->(∀j,j<n->w.cell? (K g (off+j))=some (M j))->
   (∀w',Rt gl gc (rp shut l ((List.range k).map fun j=>M (i+j))) shut r w w'->R w')->
   LoneTo prog (Yn 53 I R) (G ((base 53).at ⟨#[Z gl,.slice (some (K g off)) n cap,b,d,e,L,.slice (some (K g off)) n cap,A n,A i,N,P,Q,S,U,W,x,y,z,C,D,X],[]⟩ [.code B,.inLoop B,.inBlock 0]) I) w:=by
 intro k
 induction k with
 |zero=>
  intro i l s w R b d e L N P Q S U W x y z C D X hi f Y m;obtain rfl:i=n:=by omega
  exact ahL v (m w ⟨s,f,aO.cJ (apY _ _)⟩) I i _ _ _ _ _ _ _ _ _ _ _ _ _ _ _ _ _ _ _
 |succ k ih=>
  intro i l s w R b d e L N P Q S U W x y z C D X hi f Y m;have jg:i<n:=by omega
  have aE:decide ((i:Int)<(n:Int))=true:=by simp;omega
  have pI:(0:Int)<=(i:Int):=aqc _;have zD:(i:Int)<(n:Int):=by omega
  have im:=Y i jg;have bf:w.cell? (H gl)=some (.chan (some gc)):=by simp[World.cell?,f.blk]
  refine LoneTo.goes (n:=40) ?_;simp only[v,f53,aqu,oA,xb,xc]
  s_c stepG_seq
  s_reg
  s_op
  s_c stepG_region_end
  s_c stepG_seq
  s_cond true
  s_c stepG_skip
  s_c stepG_seq
  s_c stepG_block
  s_c stepG_seq
  s_reg
  s_op
  s_op
  s_op
  s_c stepG_region_end
  s_c stepG_seq
  s_reg
  s_op
  s_in
  refine goes_call rfl rfl (by decide) rfl func52 (by decide) rfl ⟨trivial,?_⟩
  s_stop
  refine Ym (Rr f) (by simp[Frame.enter,Frame.at,func52,base,f52,Act.eval]) fun o E=> ?_
  rw[Frame.finish_at]
  walk_nrm
  have a:=f.ae E;have a6:o.cell? (H gl)=some (.chan (some gc)):=by simp[World.cell?,a.blk]
  have lJ:∀j,j<n->o.cell? (K g (off+j))=some (M j):=fun j F=>ae E (Y j F)
  have hT:IntKind.i64.wrap ((i:Int)+1)=((i+1:Nat):Int):=by rw[aqS _ (by omega)];simp
  have ahN:(List.range (k+1)).map (fun j=>M (i+j))=M i::(List.range k).map fun j=>M (i+1+j):=by
   rw[List.range_succ_eq_map,aqj,aqO];simp[asA,Nat.add_comm,Nat.add_left_comm]
  rw[ahN]at m;by_cases p:shut=true\/l.length=12
  ·obtain⟨q,ak,nP⟩:∃q:Int,(if shut=true then 10 else if l.length=12 then 8 else 0)=q/\¬(q=0):=by
    by_cases t:shut=true
    ·exact⟨10,by rw[if_pos t],by omega⟩
    rcases p with h|h
    ·exact absurd h t
    exact⟨8,by rw[if_neg t,if_pos h],by omega⟩
   rw[ak];have Ru:(q==0)=false:=by simpa using nP
   refine LoneTo.goes (n:=20) ?_
   s_op
   s_c stepG_region_end
   s_cond false
   s_c stepG_skip
   s_c stepG_inBlock
   s_reg
   s_op
   s_op
   s_c stepG_region_end
   s_c stepG_inLoop
   s_stop
   have u:=ih (i+1) l s o R b d e (M i) (.bool true) (.pointer (some (K g (off+i)))) (M i) (Z gl) (A q) (.bool false) x y z C D (A ((i:Int)+1)) (by omega) a lJ fun w' ⟨s',al,aL⟩=>m w' ⟨s',by unfold rp;rw[if_pos p];exact al,(aO.cJ E).trans aL⟩
   simp only[v,f53,aqu,oA,xb,xc,Int.natCast_add,Int.natCast_one]at u;exact u
  have t:shut=false:=by
   cases shut with
   |false=>rfl
   |true=>exact absurd (.inl rfl) p
  have ahO:¬(l.length=12):=fun h=>p (.inr h)
  have hlen:=a.len;subst t;have cC:(if false=true then(10:Int) else if l.length=12 then 8 else 0)=0:=by rw[if_neg (by simp),if_neg ahO]
  rw[cC];refine LoneTo.goes (n:=20) ?_
  s_op
  s_c stepG_region_end
  s_cond true
  s_reg
  s_op
  s_op
  s_op
  s_op
  s_op
  s_stop
  refine LoneTo.step (step_lone_send_room (c:=gc) (cap:=12) (buf:=l.toArray) (s:=s) (r:=r) (tm:=false) (stepG_comm (cases := #[scase gc (M i) (.tuple #[])]) (blocking:=true) (shape:=.send) (w':=o) rfl rfl (by decide) (by simp[execOp,scase,Act.eval])) a.lA (by simp;omega)) ?_;rw[Frame.finish_at]
  walk_nrm
  refine LoneTo.goes (n:=20) ?_
  s_c stepG_region_end
  s_c stepG_inBlock
  s_reg
  s_op
  s_op
  s_c stepG_region_end
  s_c stepG_inLoop
  s_stop
  have u:=ih (i+1) (l++[M i]) (s+1) (o.setChan gc 12 (l++[M i]).toArray false (s+1) r false) R b d e (M i) (.bool true) (.pointer (some (K g (off+i)))) (M i) (Z gl) (A 0) (.bool true) (Z gl) (Z gl) (Z gl) (.chan (some gc)) (M i) (A ((i:Int)+1)) (by omega) (a.Eh (M i) (s+1) r (by omega)) (fun j F=>ahK _ _ _ _ _ _ (a.ne (lJ j F)) (lJ j F)) fun w' ⟨s',al,aL⟩=>m w' ⟨s',by unfold rp;rw[if_neg p];exact al,((aO.cJ E).trans (IM _ _ _ _ _ _ _ _)).trans aL⟩
  simp only[v,f53,aqu,oA,xb,xc,Int.natCast_add,Int.natCast_one]at u;exact u
theorem Rv{gl gc shut r}{g off cap n:Nat}(h:hq e gl gc d shut a r)(M:Nat->Value)(i:n<=1000)(k:∀j,j<n->e.cell? (K g (off+j))=some (M j)):
  O 53 #[Z gl,.slice (some (K g off)) n cap] e fun b c=>b=.returned (.tuple #[])/\Rt gl gc (rp shut d ((List.range n).map M)) shut r e c:=by
 refine calls_of_loneTo fun l=> ?_
 have b:Frame.enter prog 53 #[Z gl,.slice (some (K g off)) n cap] .normal=(base 53).at ⟨#[Z gl,.slice (some (K g off)) n cap,undef,undef,undef,undef,undef,undef,undef,undef,undef,undef,undef,undef,undef,undef,undef,undef,undef,undef,undef],[]⟩ [.code (f53.body.getD .skip)]:=by
  simp[Frame.enter,Frame.at,func53,base,f53]
 rw[b];refine LoneTo.goes (n:=20) ?_;simp only[f53,aqu]
 s_c stepG_seq
 s_reg
 s_op
 s_op
 s_op
 s_c stepG_region_end
 s_c stepG_block
 s_c stepG_loop
 s_stop
 have f:=ahM rfl (cap:=cap) (off:=off) (g:=g) (n:=n) (r:=r) (gl:=gl) (gc:=gc) (shut:=shut) l M i n 0 d a e (Rt gl gc (rp shut d ((List.range n).map M)) shut r e) undef undef undef undef undef undef undef undef undef undef undef undef undef undef undef undef (by omega) h k (fun c m=>by simpa using m);simp only[f53,aqu,oA,xb,xc,Int.natCast_zero]at f;exact f
end
section
open Go.RowKit Tryz
variable {a:List bg}{b:bH}{c:PId}
theorem e1.congr{D}{c:List bg}(h:e1 a D)(b:∀y,bt c y=bt a y):e1 c D:=
 ⟨fun x o d=>h.bh x o ((b x).symm.trans d),fun x f=>h.gW x ((b x).symm.trans f),fun y e g=>by
  obtain⟨o,i,j⟩:=h.el y e g;exact⟨o,(b _).trans i,j⟩⟩
theorem Yo(c:b.kind≠1)(h:∀o,bt a b.object=some o->gq b o=o):∀y,bt (cc a b) y=bt a y:=by
 intro y;rw[Bx c];by_cases e:y=b.object
 ·subst e;rw[if_pos rfl];cases d:bt a b.object with
  |none=>rfl
  |some o=>simp[h o d]
 rw[if_neg e]
structure Yp (R:List bg) (p:bH):Prop where
 kind:p.kind=1\/p.kind=2\/p.kind=3\/p.kind=4
 make:p.kind=1->bt R p.id=none
 lay:p.kind=2->p.id≠(0,0)/\∀x o,bt R x=some o->p.id∉o.ss.map b9.id
 place:p.kind=3\/p.kind=4->p.key≠⟨#[]⟩->p.element=(0,0)
 cQ:p.kind=3\/p.kind=4->∀x o,bt R x=some o->∀s∈o.ss,∀h∈s.ad,h.cQ≠p.id
 obj:p.kind=3->∃o,bt R p.obj=some o
theorem Yq{l:List b9}{key:ByteArray}(h:c∉l.map b9.id):cM (fk key c) l<0:=by
 have :cM (fk key c) l= -1:=by
  refine G8 fun j b=> ?_
  cases a:fk key c l[j]with
  |false=>rfl
  |true=>
   exfalso;unfold fk at a;rw[Bool.and_eq_true,CL]at a;have e:l[j].id=c:=a.2;exact h (e▸ap5.2 ⟨_,ap6 b,rfl⟩)
 omega
theorem e1.any{D v}(h:e1 a D)(y:fH D){n:Int}(f:Yp a b)(g:mS D (zI b n) v):e1 (cc a b) v:=by
 rcases f.kind with m|m|m
 ·exact h.step y ⟨f.kind,f.make,fun e=>by omega,fun e=>by omega,fun e=>by omega⟩ g
 ·by_cases i:∃o,bt a b.object=some o/\o.list=true/\(b.behind=(0,0)\/b.behind∈o.ss.map b9.id)
  ·exact h.step y ⟨f.kind,f.make,fun e=>⟨(f.lay e).1,(f.lay e).2,i⟩,fun e=>by omega,fun e=>by omega⟩ g
  have z:v=D:=by
   have j:¬b.kind=1:=by omega
   unfold mS zI Ih at g;simp only[j,m,if_true,if_false]at g;simp at g;rw[g];unfold mv;cases k:bC b.object D.1 with
   |none=>rfl
   |some M=>
    cases c:bt a b.object with
    |none=>rw[h.gW _ c]at k;cases k
    |some o=>
     obtain⟨P,r,B⟩:=h.bh _ _ c;rw[k]at r;cases r;by_cases C:M.list=false
     ·simp[C]
     have d:o.list=true:=by rw[<-B.list];simpa using C
     have E:¬b.behind=(0,0):=fun e=>i ⟨o,c,d,.inl e⟩
     simp only[C,E,if_false];cases Q:bC b.behind D.2 with
     |none=>rfl
     |some e=>
      by_cases t:e.list=b.object
      ·exfalso;obtain⟨W,j,q,u⟩:=h.el _ _ Q;rw[t,c]at j;cases j;exact i ⟨o,c,d,.inr u⟩
      simp[t]
  rw[z];refine h.congr (Yo (by omega) fun o c=> ?_);unfold gq;rw[if_pos m];by_cases d:o.list=true
  ·rw[if_pos d];have E:¬b.behind=(0,0):=fun e=>i ⟨o,c,d,.inl e⟩
   have F:=Yq (key:=⟨#[]⟩) (fun e=>i ⟨o,c,d,.inr e⟩);have R:eF b.behind.1 b.behind.2 0 0=false:=by
    cases I:eF b.behind.1 b.behind.2 0 0 with
    |false=>rfl
    |true=>
     exfalso;exact E (show b.behind=(0,0) from CL.1 I)
   unfold qe;rw[R,if_neg (by simp),if_pos F]
  rw[if_neg d]
 have L:b.kind=3\/b.kind=4:=m;by_cases i:∃o,bt a b.object=some o/\((o.list=false/\b.key≠⟨#[]⟩/\b.element=(0,0))\/(o.list=true/\b.key=⟨#[]⟩/\b.element∈o.ss.map b9.id))
 ·obtain⟨o,c,p⟩:=i;refine h.step y ⟨f.kind,f.make,fun e=>by omega,fun _=>⟨o,c,p,fun x w=> ?_⟩,f.obj⟩ g;unfold hg at w;split at w
  ·rename_i s S
   exact f.cQ L _ _ c s (arz S) x w
  cases w
 have N:lE D.1 D.2 b.object b.key b.element=false:=by
  unfold lE;by_cases l:b.key=⟨#[]⟩
  ·rw[if_pos l];cases k:bC b.element D.2 with
   |none=>rfl
   |some e=>
    by_cases t:e.list=b.object
    ·exfalso;obtain⟨o,j,q,u⟩:=h.el _ _ k;rw[t]at j;exact i ⟨o,j,.inr ⟨q,l,u⟩⟩
    simp[t]
  rw[if_neg l];cases k:bC b.object D.1 with
  |none=>rfl
  |some M=>
   cases c:bt a b.object with
   |none=>rw[h.gW _ c]at k;cases k
   |some o=>
    obtain⟨P,r,B⟩:=h.bh _ _ c;rw[k]at r;cases r;have d:o.list=true:=by
     cases I:o.list with
     |true=>rfl
     |false=>exact absurd ⟨o,c,.inl ⟨I,l,f.place L l⟩⟩ i
    have :nr b.object D.1=true:=by
     unfold nr;rw[k];simp[B.list,d]
    simp[this]
 have z:v=D:=by
  have j:¬b.kind=1:=by omega
  have q:¬b.kind=2:=by omega
  unfold mS zI Ih at g;rcases m with m|m
  ·simp only[j,q,m,if_true,if_false,Bn]at g;have U:yj D b.object b.key b.element b.obj=false:=by unfold yj;rw[N];rfl
   simpa[U]using g
  have u:¬b.kind=3:=by omega
  simp only[j,q,u,if_false,Bm,N]at g;simpa using g
 rw[z];refine h.congr (Yo (by omega) fun o c=> ?_);have q:¬b.kind=2:=by omega
 unfold gq;rw[if_neg q];by_cases p:o.list=b.key.toList.isEmpty
 ·rw[if_pos p];cases d:o.list with
  |true=>
   have l:b.key=⟨#[]⟩:=by
    by_cases e:b.key=⟨#[]⟩
    ·exact e
    rw[d,HQ e]at p;cases p
   have F:=Yq (key:=b.key) (fun e=>i ⟨o,c,.inr ⟨d,l,e⟩⟩);unfold lx;rw[if_pos F,if_pos rfl];cases o;simp at d;simp[d]
  |false=>
   exfalso;have l:b.key≠⟨#[]⟩:=fun e=>by
    rw[d,e,VS]at p;cases p
   exact i ⟨o,c,.inl ⟨d,l,f.place L l⟩⟩
 rw[if_neg p]
structure pk (R:List bg) (I:List PId):Prop where
 obj:∀x o,bt R x=some o->x=(0,0)\/x∈I
 slot:∀x o,bt R x=some o->∀s∈o.ss,s.id=(0,0)\/s.id∈I
 cQ:∀x o,bt R x=some o->∀s∈o.ss,∀h∈s.ad,h.cQ∈I
theorem Gk {α:Type} {f:α->α} {x:α}:∀{l:List α} {k:Nat},x∈l.modify k f->x∈l\/∃y∈l,x=f y
 |[],k,h=>by simp at h
 |a::l,0,h=>by
  simp only[asC,aqb]at h;rcases h with rfl|h
  ·exact .inr ⟨a,aqf,rfl⟩
  exact .inl (aqh _ h)
 |a::l,k+1,h=>by
  simp only[asD,aqb]at h;rcases h with rfl|h
  ·exact .inl aqf
  rcases Gk h with h|⟨y,b,e⟩
  ·exact .inl (aqh _ h)
  exact .inr ⟨y,aqh _ b,e⟩
theorem Ry{c:List PId}{b:List cP}{kind:Int}{y h:cP}(a:h∈jt c b kind y):h∈b\/h=y:=by
 unfold jt at a;rcases ap7.1 a with a|a
 ·exact .inl (aqL.1 a).1
 split at a
 ·exact .inr (by simpa using a)
 cases a
theorem IU{l:List b9}{b:PId}{s:b9}(h:s∈qe l b c):s∈l\/s=mH ⟨#[]⟩ c:=by
 have d:∀n,s∈nM l n (mH ⟨#[]⟩ c)->s∈l\/s=mH ⟨#[]⟩ c:=fun n a=>by
  unfold nM at a;rcases ap7.1 a with a|a
  ·exact .inl (aqE a)
  rcases aqb.1 a with rfl|a
  ·exact .inr rfl
  exact .inl (aq8 a)
 unfold qe at h;split at h
 ·exact d _ h
 split at h
 ·exact .inl h
 exact d _ h
theorem Ys{o:bg}{s:b9}(h:s∈(gq b o).ss):(s.id=b.id/\s.ad=[])\/((s.id=(0,0)\/∃s0∈o.ss,s0.id=s.id/\∀x∈s.ad,x∈s0.ad\/x=b.held)/\((∃s0∈o.ss,∀x∈s.ad,x∈s0.ad\/x=b.held)\/∀x∈s.ad,x=b.held)):=by
 unfold gq at h;split at h
 ·split at h
  ·rcases IU h with h|rfl
   ·exact .inr ⟨.inr ⟨s,h,rfl,fun x a=>.inl a⟩,.inl ⟨s,h,fun x a=>.inl a⟩⟩
   exact .inl ⟨rfl,rfl⟩
  exact .inr ⟨.inr ⟨s,h,rfl,fun x a=>.inl a⟩,.inl ⟨s,h,fun x a=>.inl a⟩⟩
 split at h
 ·unfold lx at h;simp only at h;split at h
  ·split at h
   ·exact .inr ⟨.inr ⟨s,h,rfl,fun x a=>.inl a⟩,.inl ⟨s,h,fun x a=>.inl a⟩⟩
   rcases ap7.1 h with h|h
   ·exact .inr ⟨.inr ⟨s,h,rfl,fun x a=>.inl a⟩,.inl ⟨s,h,fun x a=>.inl a⟩⟩
   obtain rfl:=ap9.1 h;refine .inr ⟨.inl rfl,.inr fun x a=> ?_⟩;rcases Ry a with a|a
   ·cases a
   exact a
  rcases Gk h with h|⟨s0,c,rfl⟩
  ·exact .inr ⟨.inr ⟨s,h,rfl,fun x a=>.inl a⟩,.inl ⟨s,h,fun x a=>.inl a⟩⟩
  exact .inr ⟨.inr ⟨s0,c,rfl,fun x a=>Ry a⟩,.inl ⟨s0,c,fun x a=>Ry a⟩⟩
 exact .inr ⟨.inr ⟨s,h,rfl,fun x a=>.inl a⟩,.inl ⟨s,h,fun x a=>.inl a⟩⟩
theorem pk.mu{R I}(h:pk R I)(p:bH):pk (cc R p) (p.id::I):=by
 by_cases k:p.kind=1
 ·have g:∀x o,bt (cc R p) x=some o->bt R x=some o\/(x=p.id/\o.ss=[]):=fun x o a=>by
   rw[yp k]at a;cases d:bt R x with
   |some c=>rw[d]at a;exact .inl a
   |none=>
    rw[d]at a;simp only at a;split at a
    ·rename_i e
     cases a;exact .inr ⟨e,rfl⟩
    cases a
  refine⟨fun x o a=> ?_,fun x o a s b=> ?_,fun x o a s b y f=> ?_⟩
  ·rcases g x o a with a|⟨rfl,_⟩
   ·exact(h.obj x o a).imp id (aqh _)
   exact .inr aqf
  ·rcases g x o a with a|⟨_,e⟩
   ·exact(h.slot x o a s b).imp id (aqh _)
   rw[e]at b;cases b
  rcases g x o a with a|⟨_,e⟩
  ·exact aqh _ (h.cQ x o a s b y f)
  rw[e]at b;cases b
 have g:∀x o,bt (cc R p) x=some o->∃c,bt R x=some c/\(o=c\/o=gq p c):=fun x o a=>by
  rw[Bx k]at a;split at a
  ·cases d:bt R x with
   |none=>rw[d]at a;cases a
   |some c=>rw[d]at a;exact⟨c,rfl,.inr (by simpa using a.symm)⟩
  exact⟨o,a,.inl rfl⟩
 refine⟨fun x o a=> ?_,fun x o a s b=> ?_,fun x o a s b y f=> ?_⟩
 ·obtain⟨c,i,_⟩:=g x o a;exact(h.obj x c i).imp id (aqh _)
 ·obtain⟨c,i,e|e⟩:=g x o a
  ·subst e;exact(h.slot x _ i s b).imp id (aqh _)
  subst e;rcases Ys b with⟨e,_⟩|⟨e|⟨s0,j,e,_⟩,_⟩
  ·exact .inr (e▸aqf)
  ·exact .inl e
  rw[<-e];exact(h.slot x _ i s0 j).imp id (aqh _)
 obtain⟨c,i,e|e⟩:=g x o a
 ·subst e;exact aqh _ (h.cQ x _ i s b y f)
 subst e;rcases Ys b with⟨_,e⟩|⟨_,⟨s0,j,d⟩|d⟩
 ·rw[e]at f;cases f
 ·rcases d y f with f|rfl
  ·exact aqh _ (h.cQ x _ i s0 j y f)
  exact aqf
 rw[d y f];exact aqf
theorem Gl(p:bH)(h:∃o,bt a c=some o):∃o,bt (cc a p) c=some o:=by
 obtain⟨o,h⟩:=h;by_cases b:p.kind=1
 ·rw[yp b,h];exact⟨o,rfl⟩
 rw[Bx b,h];split
 ·exact⟨_,rfl⟩
 exact⟨_,rfl⟩
theorem Yt{R:List bg}(a:b.kind=1):∃o,bt (cc R b) b.id=some o:=by
 rw[yp a];cases bt R b.id with
 |some o=>exact⟨o,rfl⟩
 |none=>exact⟨_,if_pos rfl⟩
def Ei:List PId->List PId->List bH->Prop
 |_,_,[]=>True
 |I,M,p::S=>(p.kind=1\/p.kind=2\/p.kind=3\/p.kind=4)/\p.id≠(0,0)/\p.id∉I/\(p.kind=3\/p.kind=4->p.key≠⟨#[]⟩->p.element=(0,0))/\(p.kind=3->p.obj∈M)/\Ei (p.id::I) (if p.kind=1 then p.id::M else M) S
theorem e1.all:∀(S:List bH) (f:Nat->Int) (R:List bg) (D b:cX) (I M:List PId),e1 R D->fH D->pk R I->(∀x∈M,∃o,bt R x=some o)->Ei I M S->mT D ((List.range S.length).map fun i=>zI (S.getD i ⟨(0,0),0,false,(0,0),⟨#[]⟩,(0,0),(0,0),0,(0,0),[]⟩) (f i)) b->e1 (S.foldl cc R) b/\fH b
 |[],f,R,D,b,I,M,h,g,_,_,_,j=>by
  have e:b=D:=j;exact⟨e▸h,e▸g⟩
 |p::S,f,R,D,b,I,M,h,g,k,l,a,j=>by
  rw[aqk,List.range_succ_eq_map,aqj,aqO]at j;obtain⟨t,m,u⟩:=j;simp only[List.getD_cons_zero]at m;have v:Yp R p:=⟨a.1,fun _=>by
    cases c:bt R p.id with
    |none=>rfl
    |some o=>
     rcases k.obj _ _ c with e|e
     ·exact absurd e a.2.1
     exact absurd e a.2.2.1,
   fun _=>⟨a.2.1,fun x o c w=>by
    obtain⟨s,n,e⟩:=ap5.1 w;rcases k.slot x o c s n with q|q
    ·exact a.2.1 (e.symm.trans q)
    exact a.2.2.1 (e▸q)⟩,a.2.2.2.1,fun _ x o c s n y z e=>a.2.2.1 (e▸k.cQ x o c s n y z),fun r=>l _ (a.2.2.2.2.1 r)⟩
  refine e1.all S (fun i=>f (i+1)) (cc R p) t b (p.id::I) (if p.kind=1 then p.id::M else M) (h.any g v m) (g.step m) (k.mu p) (fun x d=> ?_) a.2.2.2.2.2 ?_
  ·split at d
   ·rename_i r
    rcases aqb.1 d with rfl|d
    ·exact Yt r
    exact Gl p (l x d)
   exact Gl p (l x d)
  simpa[asA]using u
end
end Go.Proofs.YtnkpogjiiohapaaGreatDoor
