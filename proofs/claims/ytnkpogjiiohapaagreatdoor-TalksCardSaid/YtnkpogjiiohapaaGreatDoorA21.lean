/- Our own text. -/
import Derived.Conc.LoneCalls
import Derived.Conc.LoneSelectN
import Derived.Test.YtnkpogjiiohapaaGreatDoorA17
import Derived.Test.YtnkpogjiiohapaaGreatDoorA09
import Derived.Test.YtnkpogjiiohapaaGreatDoorA13
import Derived.Test.YtnkpogjiiohapaaGreatDoorA20
import Derived.Test.YtnkpogjiiohapaaGreatDoorA18
set_option linter.unusedSimpArgs false
set_option linter.unusedVariables false
set_option maxRecDepth 1000000
namespace Go.Proofs.YtnkpogjiiohapaaGreatDoor
section
open Go.RowKit Go.Conc Tryz
variable {a b d i:Nat}{e:List Value}{f:World}{h:Bool}{j:Value}
structure j2 (w:World) (gl gc:Nat) (l:List Value) (shut:Bool) (s r:Nat):Prop where
 blk:w.heap[gl]?=some (.cells #[.chan (some gc),.bool shut] 153 (0,0))
 oc:w.heap[gc]?=some (.chan 12 l.toArray shut s r false)
 len:l.length<=12
theorem ahf(k:j2 f a b (j::e) h d i):
  O 76 #[Z a] f fun g w'=>g=.returned j/\w'=f.setChan b 12 e.toArray h d (i+1) false:=by
 refine calls_of_loneTo fun o=> ?_
 have g:Frame.enter prog 76 #[Z a] .normal=(base 76).at ⟨#[Z a,undef,undef,undef,undef,undef,undef,undef],[]⟩ [.code (f76.body.getD .skip)]:=by
  simp[Frame.enter,Frame.at,func76,base,f76]
 rw[g];have p:f.cell? (H a)=some (.chan (some b)):=by simp[World.cell?,k.blk]
 refine LoneTo.goes (n:=30) ?_;simp only[f76,apr]
 s_c stepG_seq
 s_reg
 s_op
 s_c stepG_region_end
 s_c stepG_seq
 s_reg
 s_op
 s_op
 s_op
 s_op
 s_stop
 refine LoneTo.step (step_lone_recv_buf false (c:=b) (z:=.nilIface) (stepG_comm (cases := #[rcase b .nilIface]) (blocking:=true) (shape:=.recv false) (w':=f) rfl rfl (by decide) (by simp[go_sem,rcase])) k.oc (by simp)) ?_;rw[Frame.finish_at];have l:(j::e).toArray.getD 0 undef=j:=by simp
 have m:(j::e).toArray.extract 1 (j::e).toArray.size=e.toArray:=by simp
 rw[l,m];simp only[got]
 walk_nrm
 refine LoneTo.goes (n:=4) ?_
 s_op
 s_c stepG_region_end
 s_c stepG_ret'
 s_stop
 exact LoneTo.done ⟨.returned j,_,rfl,⟨rfl,rfl⟩,rfl,rfl,rfl,rfl,_,func76,by simp[results,f76,Frame.at]⟩
theorem XO{w}(c:j2 w a b e h d i):
  O 129 #[Z a] w fun f j=>f=.returned (A e.length)/\j=w:=by
 have l:w.cell? (H a)=some (.chan (some b)):=by simp[World.cell?,c.blk]
 have k:=fun g=>run_len_chan (P:=prog) 151 g underlying151 c.oc
 have m:=fun g=>run_cap_chan (P:=prog) 151 g underlying151 c.oc
 simp only[ap8]at k;go_enter func129,ntmps129;go_wp2;go_ret
 exact⟨rfl,rfl⟩
theorem XP{w g}(h:j2 w a b e g d i):
  O 52 #[Z a] w fun c k=>c=.returned (A (if g then 10 else if e.length=12 then 8 else 0))/\J w k:=by
 have n:w.cell? (H a)=some (.chan (some b)):=by simp[World.cell?,h.blk]
 have o:w.cell? (K a 1)=some (.bool g):=by simp[World.cell?,h.blk]
 have l:=fun f=>run_len_chan (P:=prog) 151 f underlying151 h.oc
 have p:=fun f=>run_cap_chan (P:=prog) 151 f underlying151 h.oc
 have m:=fun f=>run_len_chan (P:=prog) (w:=w.drew) 151 f underlying151 h.oc
 have q:=fun f=>run_cap_chan (P:=prog) (w:=w.drew) 151 f underlying151 h.oc
 simp only[ap8]at l m;cases g with
 |true=>
  go_enter func52,ntmps52;go_wp2;go_ret
  exact⟨rfl,aoQ _ _⟩
 |false=>
  by_cases j:e.length=12
  ·go_enter func52,ntmps52
   go_wp2;go_region
   all_goals(go_wp2;go_ret)
   all_goals exact⟨by simp[j],Below.drew (aoQ _ _)⟩
  ·go_enter func52,ntmps52
   go_wp2;go_region
   all_goals(go_wp2;go_ret)
   all_goals exact⟨by simp[j],Below.drew (aoQ _ _)⟩
theorem ahh{P:Program}{Q:Goroutine->World->Prop}{f:FuncId}{args:Array Value}{a:Frame}{cs:List Frame}{w:World}{R:World->Prop}(d:Calls P f args w fun e w'=>e=.returned j/\R w'){b:Frame}(i:b=Frame.enter P f args .normal)(h:∀w',R w'->LoneTo P Q (G (a.finish j) cs) w'):LoneTo P Q (G b (a::cs)) w:=by
 subst i;obtain⟨e,w',k,⟨rfl,l⟩,m,_,n⟩:=d (a::cs);have o:=step_leave_returned (c:=a) (cs:=cs) n;obtain⟨p,q,r,s⟩:=LoneTo.step (P:=P) (Q:=Q) (g:=G k (a::cs)) (w:=w') (g':=G (a.finish j) cs) (w':=w') o (h w' l);exact⟨p,q,Steps.trans m r,s⟩
def Dz:Code->Code|.seq _ b=>b|c=>c
def DC:Code->Code|.block _ c=>c|c=>c
def DD:Code->Code|.loop c=>c|c=>c
def tk (shut:Bool):List Value->List Value->List Value
 |l,[]=>l
 |l,m::a=>tk shut (if shut=true\/l.length=12 then l else l++[m]) a
def QG (gl gc:Nat) (l:List Value) (shut:Bool) (r:Nat) (w a:World):Prop:=∃b,j2 a gl gc l shut b r/\aP (fun k=>k=gc) w a
def XR (f:FuncId) (c:List Frame) (R:World->Prop) (d:Goroutine) (b:World):Prop:=∃e a,d=G a c/\(e=.returned (.tuple #[])/\R b)/\a.fn=f/\a.leaving prog b e
theorem j2.af{w l r}{w':World}(c:j2 w a b l h d r)(e:J w w'):j2 w' a b l h d r:=
 ⟨(e.block a (aM c.blk)).trans c.blk,(e.block b (aM c.oc)).trans c.oc,c.len⟩
theorem LP(w:World)(c:Nat)(d:Array Value)(f:Bool)(s r:Nat)(g:Bool)(h:a≠b):(w.setChan b c d f s r g).heap[a]?=w.heap[a]?:=by
 simp only[World.setChan];rw[Array.getElem?_setIfInBounds_ne (fun e=>h e.symm)]
theorem XS(w:World)(c cap:Nat)(a:Array Value)(b:Bool)(s r:Nat)(d:Bool):aP (fun k=>k=c) w (w.setChan c cap a b s r d):=
 ⟨rfl,rfl,rfl,by rw[size_setChan];exact aoP _,fun k _ e=>LP w cap a b s r d e⟩
theorem j2.ne{s r}(c:j2 f d a e h s r){i:Nat}{v:Value}(j:f.cell? (K b i)=some v):b≠a:=fun g=>by
 subst g;simp[World.cell?,c.oc]at j
theorem j2.DE{r}(c:j2 f b a e h d r)(m:Value)(g j:Nat)(k:e.length<12):j2 (f.setChan a 12 (e++[m]).toArray h g j false) b a (e++[m]) h g j:=
 ⟨(LP f _ _ _ _ _ _ (c.ne (i:=0) (v:=.chan (some a)) (by simp[World.cell?,c.blk]))).trans c.blk,by rw[heap_setChan _ _ _ _ _ _ _ _ (aM c.oc)],by simp;omega⟩
theorem ahi(c:Nat)(g:Array Value)(i:Bool)(s r:Nat)(k:Bool)(l:a≠d)(h:f.cell? (K a b)=some j):(f.setChan d c g i s r k).cell? (K a b)=some j:=by
 have e:=LP f c g i s r k l;simp only[World.cell?]at h⊢;rw[e];exact h
theorem ahj{B:Code}(b:B=DD (DC (Dz (f53.body.getD .skip)))){R:World->Prop}(c:R f)(a:List Frame)(n:Nat)(d e g h i j k l m o p q r s t u v w x:Value):
  LoneTo prog (XR 53 a R) (G ((base 53).at ⟨#[d,e,g,h,i,j,k,A n,A n,l,m,o,p,q,r,s,t,u,v,w,x],[]⟩ [.code B,.inLoop B,.inBlock 0]) a) f:=by
 refine LoneTo.goes (n:=20) ?_;simp only[b,f53,apr,Dz,DC,DD]
 s_c stepG_seq
 s_reg
 s_op
 s_c stepG_region_end
 s_c stepG_seq
 have y:decide ((n:Int)<(n:Int))=false:=by simp
 s_cond false
 s_exit
 s_c stepG_end
 s_stop
 exact LoneTo.done ⟨.returned (.tuple #[]),_,rfl,⟨rfl,c⟩,rfl,rfl,rfl,rfl,_,func53,by simp[results,f53,Frame.at]⟩
theorem ahk{B:Code}(v:B=DD (DC (Dz (f53.body.getD .skip)))){gl gc g off cap n r:Nat}{shut:Bool}(I:List Frame)(M:Nat->Value)(hn:n<=1000):
  ∀(k i:Nat) (l:List Value) (s:Nat) (w:World) (R:World->Prop) (b d e L N P Q S U W x y z C D X:Value),i+k=n->j2 w gl gc l shut s r->(∀j,j<n->w.cell? (K g (off+j))=some (M j))->
   (∀w',QG gl gc (tk shut l ((List.range k).map fun j=>M (i+j))) shut r w w'->R w')->
   LoneTo prog (XR 53 I R) (G ((base 53).at ⟨#[Z gl,.slice (some (K g off)) n cap,b,d,e,L,.slice (some (K g off)) n cap,A n,A i,N,P,Q,S,U,W,x,y,z,C,D,X],[]⟩ [.code B,.inLoop B,.inBlock 0]) I) w:=by
 intro k
 induction k with
 |zero=>
  intro i l s w R b d e L N P Q S U W x y z C D X hi f Y m;obtain rfl:i=n:=by omega
  exact ahj v (m w ⟨s,f,aP.cQ (aoQ _ _)⟩) I i _ _ _ _ _ _ _ _ _ _ _ _ _ _ _ _ _ _ _
 |succ k ih=>
  intro i l s w R b d e L N P Q S U W x y z C D X hi f Y m;have jr:i<n:=by omega
  have aE:decide ((i:Int)<(n:Int))=true:=by simp;omega
  have pj:(0:Int)<=(i:Int):=ao0 _;have zf:(i:Int)<(n:Int):=by omega
  have jx:=Y i jr;have bc:w.cell? (H gl)=some (.chan (some gc)):=by simp[World.cell?,f.blk]
  refine LoneTo.goes (n:=40) ?_;simp only[v,f53,apr,Dz,DC,DD]
  s_c stepG_seq
  s_reg
  s_op
  s_c stepG_region_end
  s_c stepG_seq
  s_cond true
  s_c stepG_skip
  s_c stepG_seq
  s_c stepG_block
  s_c stepG_seq
  s_reg
  s_op
  s_op
  s_op
  s_c stepG_region_end
  s_c stepG_seq
  s_reg
  s_op
  s_in
  refine goes_call rfl rfl (by decide) rfl func52 (by decide) rfl ⟨trivial,?_⟩
  s_stop
  refine ahh (XP f) (by simp[Frame.enter,Frame.at,func52,base,f52,Act.eval]) fun o E=> ?_
  rw[Frame.finish_at]
  walk_nrm
  have a:=f.af E;have a6:o.cell? (H gl)=some (.chan (some gc)):=by simp[World.cell?,a.blk]
  have l2:∀j,j<n->o.cell? (K g (off+j))=some (M j):=fun j F=>af E (Y j F)
  have iz:IntKind.i64.wrap ((i:Int)+1)=((i+1:Nat):Int):=by rw[apO _ (by omega)];simp
  have ahl:(List.range (k+1)).map (fun j=>M (i+j))=M i::(List.range k).map fun j=>M (i+1+j):=by
   rw[List.range_succ_eq_map,apb,apI];simp[aru,Nat.add_comm,Nat.add_left_comm]
  rw[ahl]at m;by_cases p:shut=true\/l.length=12
  ·obtain⟨q,ao,ng⟩:∃q:Int,(if shut=true then 10 else if l.length=12 then 8 else 0)=q/\¬(q=0):=by
    by_cases t:shut=true
    ·exact⟨10,by rw[if_pos t],by omega⟩
    ·rcases p with h|h
     ·exact absurd h t
     ·exact⟨8,by rw[if_neg t,if_pos h],by omega⟩
   rw[ao];have LQ:(q==0)=false:=by simpa using ng
   refine LoneTo.goes (n:=20) ?_
   s_op
   s_c stepG_region_end
   s_cond false
   s_c stepG_skip
   s_c stepG_inBlock
   s_reg
   s_op
   s_op
   s_c stepG_region_end
   s_c stepG_inLoop
   s_stop
   have u:=ih (i+1) l s o R b d e (M i) (.bool true) (.pointer (some (K g (off+i)))) (M i) (Z gl) (A q) (.bool false) x y z C D (A ((i:Int)+1)) (by omega) a l2 fun w' ⟨fe,ak,aL⟩=>m w' ⟨fe,by unfold tk;rw[if_pos p];exact ak,(aP.cQ E).trans aL⟩
   simp only[v,f53,apr,Dz,DC,DD,Int.natCast_add,Int.natCast_one]at u;exact u
  ·have t:shut=false:=by
    cases shut with
    |false=>rfl
    |true=>exact absurd (.inl rfl) p
   have ahm:¬(l.length=12):=fun h=>p (.inr h)
   have hlen:=a.len;subst t;have ct:(if false=true then(10:Int) else if l.length=12 then 8 else 0)=0:=by rw[if_neg (by simp),if_neg ahm]
   rw[ct];refine LoneTo.goes (n:=20) ?_
   s_op
   s_c stepG_region_end
   s_cond true
   s_reg
   s_op
   s_op
   s_op
   s_op
   s_op
   s_stop
   refine LoneTo.step (step_lone_send_room (c:=gc) (cap:=12) (buf:=l.toArray) (s:=s) (r:=r) (tm:=false) (stepG_comm (cases := #[scase gc (M i) (.tuple #[])]) (blocking:=true) (shape:=.send) (w':=o) rfl rfl (by decide) (by simp[execOp,scase,Act.eval])) a.oc (by simp;omega)) ?_;rw[Frame.finish_at]
   walk_nrm
   refine LoneTo.goes (n:=20) ?_
   s_c stepG_region_end
   s_c stepG_inBlock
   s_reg
   s_op
   s_op
   s_c stepG_region_end
   s_c stepG_inLoop
   s_stop
   have u:=ih (i+1) (l++[M i]) (s+1) (o.setChan gc 12 (l++[M i]).toArray false (s+1) r false) R b d e (M i) (.bool true) (.pointer (some (K g (off+i)))) (M i) (Z gl) (A 0) (.bool true) (Z gl) (Z gl) (Z gl) (.chan (some gc)) (M i) (A ((i:Int)+1)) (by omega) (a.DE (M i) (s+1) r (by omega)) (fun j F=>ahi _ _ _ _ _ _ (a.ne (l2 j F)) (l2 j F)) fun w' ⟨fe,ak,aL⟩=>m w' ⟨fe,by unfold tk;rw[if_neg p];exact ak,((aP.cQ E).trans (XS _ _ _ _ _ _ _ _)).trans aL⟩
   simp only[v,f53,apr,Dz,DC,DD,Int.natCast_add,Int.natCast_one]at u;exact u
theorem XU{gl gc shut r}{g off cap n:Nat}(h:j2 f gl gc e shut a r)(M:Nat->Value)(i:n<=1000)(k:∀j,j<n->f.cell? (K g (off+j))=some (M j)):
  O 53 #[Z gl,.slice (some (K g off)) n cap] f fun b c=>b=.returned (.tuple #[])/\QG gl gc (tk shut e ((List.range n).map M)) shut r f c:=by
 refine calls_of_loneTo fun l=> ?_
 have b:Frame.enter prog 53 #[Z gl,.slice (some (K g off)) n cap] .normal=(base 53).at ⟨#[Z gl,.slice (some (K g off)) n cap,undef,undef,undef,undef,undef,undef,undef,undef,undef,undef,undef,undef,undef,undef,undef,undef,undef,undef,undef],[]⟩ [.code (f53.body.getD .skip)]:=by
  simp[Frame.enter,Frame.at,func53,base,f53]
 rw[b];refine LoneTo.goes (n:=20) ?_;simp only[f53,apr]
 s_c stepG_seq
 s_reg
 s_op
 s_op
 s_op
 s_c stepG_region_end
 s_c stepG_block
 s_c stepG_loop
 s_stop
 have d:=ahk rfl (cap:=cap) (off:=off) (g:=g) (n:=n) (r:=r) (gl:=gl) (gc:=gc) (shut:=shut) l M i n 0 e a f (QG gl gc (tk shut e ((List.range n).map M)) shut r f) undef undef undef undef undef undef undef undef undef undef undef undef undef undef undef undef (by omega) h k (fun c m=>by simpa using m);simp only[f53,apr,Dz,DC,DD,Int.natCast_zero]at d;exact d
end
section
open Go.RowKit Tryz
variable {a b i n:Nat}{d h s u:Nat->Prop}{e m:World}{j:List ba}{k:bu}{q:Int}{r:PId}
theorem eA.congr{D}{b:List ba}(h:eA j D)(a:∀y,bl b y=bl j y):eA b D:=
 ⟨fun x o c=>h.bg x o ((a x).symm.trans c),fun x d=>h.c7 x ((a x).symm.trans d),fun y e f=>by
  obtain⟨o,g,i⟩:=h.el y e f;exact⟨o,(a _).trans g,i⟩⟩
theorem XV(a:k.kind≠1)(h:∀o,bl j k.object=some o->e9 k o=o):∀y,bl (b0 j k) y=bl j y:=by
 intro y;rw[zj a];by_cases e:y=k.object
 ·subst e
  rw[if_pos rfl];cases b:bl j k.object with
  |none=>rfl
  |some o=>simp[h o b]
 ·rw[if_neg e]
structure XW (R:List ba) (p:bu):Prop where
 kind:p.kind=1\/p.kind=2\/p.kind=3\/p.kind=4
 make:p.kind=1->bl R p.id=none
 lay:p.kind=2->p.id≠(0,0)/\∀x o,bl R x=some o->p.id∉o.ss.map bU.id
 place:p.kind=3\/p.kind=4->p.key≠⟨#[]⟩->p.element=(0,0)
 cD:p.kind=3\/p.kind=4->∀x o,bl R x=some o->∀s∈o.ss,∀h∈s.ad,h.cD≠p.id
 obj:p.kind=3->∃o,bl R p.obj=some o
theorem XX{l:List bU}{key:ByteArray}(h:r∉l.map bU.id):cK (eG key r) l<0:=by
 have :cK (eG key r) l= -1:=by
  refine Gt fun j b=> ?_
  cases a:eG key r l[j]with
  |false=>rfl
  |true=>
   exfalso;unfold eG at a;rw[Bool.and_eq_true,B6]at a;have e:l[j].id=r:=a.2;exact h (e▸aoX.2 ⟨_,aoY b,rfl⟩)
 omega
theorem eA.any{D v}(h:eA j D)(y:fG D)(c:XW j k)(d:l0 D (zk k q) v):eA (b0 j k) v:=by
 rcases c.kind with m|m|m
 ·exact h.step y ⟨c.kind,c.make,fun e=>by omega,fun e=>by omega,fun e=>by omega⟩ d
 ·by_cases f:∃o,bl j k.object=some o/\o.list=true/\(k.behind=(0,0)\/k.behind∈o.ss.map bU.id)
  ·exact h.step y ⟨c.kind,c.make,fun e=>⟨(c.lay e).1,(c.lay e).2,f⟩,fun e=>by omega,fun e=>by omega⟩ d
  ·have z:v=D:=by
    have g:¬k.kind=1:=by omega
    unfold l0 zk Hn at d;simp only[g,m,if_true,if_false]at d;simp at d;rw[d];unfold mj;cases i:bq k.object D.1 with
    |none=>rfl
    |some M=>
     cases a:bl j k.object with
     |none=>rw[h.c7 _ a]at i;cases i
     |some o=>
      obtain⟨P,r,B⟩:=h.bg _ _ a;rw[i]at r;cases r;by_cases C:M.list=false
      ·simp[C]
      ·have b:o.list=true:=by rw[<-B.list];simpa using C
       have E:¬k.behind=(0,0):=fun e=>f ⟨o,a,b,.inl e⟩
       simp only[C,E,if_false];cases Q:bq k.behind D.2 with
       |none=>rfl
       |some e=>
        by_cases t:e.list=k.object
        ·exfalso
         obtain⟨W,g,p,u⟩:=h.el _ _ Q;rw[t,a]at g;cases g;exact f ⟨o,a,b,.inr u⟩
        ·simp[t]
   rw[z];refine h.congr (XV (by omega) fun o a=> ?_);unfold e9;rw[if_pos m];by_cases b:o.list=true
   ·rw[if_pos b]
    have E:¬k.behind=(0,0):=fun e=>f ⟨o,a,b,.inl e⟩
    have F:=XX (key:=⟨#[]⟩) (fun e=>f ⟨o,a,b,.inr e⟩);have R:et k.behind.1 k.behind.2 0 0=false:=by
     cases I:et k.behind.1 k.behind.2 0 0 with
     |false=>rfl
     |true=>
      exfalso;exact E (show k.behind=(0,0) from B6.1 I)
    unfold oD;rw[R,if_neg (by simp),if_pos F]
   ·rw[if_neg b]
 ·have L:k.kind=3\/k.kind=4:=m
  by_cases f:∃o,bl j k.object=some o/\((o.list=false/\k.key≠⟨#[]⟩/\k.element=(0,0))\/(o.list=true/\k.key=⟨#[]⟩/\k.element∈o.ss.map bU.id))
  ·obtain⟨o,a,n⟩:=f
   refine h.step y ⟨c.kind,c.make,fun e=>by omega,fun _=>⟨o,a,n,fun x w=> ?_⟩,c.obj⟩ d;unfold fD at w;split at w
   ·rename_i s S
    exact c.cD L _ _ a s (aqi S) x w
   ·cases w
  ·have N:lA D.1 D.2 k.object k.key k.element=false:=by
    unfold lA;by_cases l:k.key=⟨#[]⟩
    ·rw[if_pos l]
     cases i:bq k.element D.2 with
     |none=>rfl
     |some e=>
      by_cases t:e.list=k.object
      ·exfalso
       obtain⟨o,g,p,u⟩:=h.el _ _ i;rw[t]at g;exact f ⟨o,g,.inr ⟨p,l,u⟩⟩
      ·simp[t]
    ·rw[if_neg l]
     cases i:bq k.object D.1 with
     |none=>rfl
     |some M=>
      cases a:bl j k.object with
      |none=>rw[h.c7 _ a]at i;cases i
      |some o=>
       obtain⟨P,r,B⟩:=h.bg _ _ a;rw[i]at r;cases r;have b:o.list=true:=by
        cases I:o.list with
        |true=>rfl
        |false=>exact absurd ⟨o,a,.inl ⟨I,l,c.place L l⟩⟩ f
       have :nh k.object D.1=true:=by
        unfold nh;rw[i];simp[B.list,b]
       simp[this]
   have z:v=D:=by
    have g:¬k.kind=1:=by omega
    have p:¬k.kind=2:=by omega
    unfold l0 zk Hn at d;rcases m with m|m
    ·simp only[g,p,m,if_true,if_false,AM]at d
     have U:xG D k.object k.key k.element k.obj=false:=by unfold xG;rw[N];rfl
     simpa[U]using d
    ·have u:¬k.kind=3:=by omega
     simp only[g,p,u,if_false,AL,N]at d;simpa using d
   rw[z];refine h.congr (XV (by omega) fun o a=> ?_);have p:¬k.kind=2:=by omega
   unfold e9;rw[if_neg p];by_cases n:o.list=k.key.toList.isEmpty
   ·rw[if_pos n]
    cases b:o.list with
    |true=>
     have l:k.key=⟨#[]⟩:=by
      by_cases e:k.key=⟨#[]⟩
      ·exact e
      ·rw[b,GX e]at n;cases n
     have F:=XX (key:=k.key) (fun e=>f ⟨o,a,.inr ⟨b,l,e⟩⟩);unfold kN;rw[if_pos F,if_pos rfl];cases o;simp at b;simp[b]
    |false=>
     exfalso;have l:k.key≠⟨#[]⟩:=fun e=>by
      rw[b,e,GW]at n;cases n
     exact f ⟨o,a,.inl ⟨b,l,c.place L l⟩⟩
   ·rw[if_neg n]
structure o2 (R:List ba) (I:List PId):Prop where
 obj:∀x o,bl R x=some o->x=(0,0)\/x∈I
 slot:∀x o,bl R x=some o->∀s∈o.ss,s.id=(0,0)\/s.id∈I
 cD:∀x o,bl R x=some o->∀s∈o.ss,∀h∈s.ad,h.cD∈I
theorem FO {α:Type} {f:α->α} {x:α}:∀{l:List α} {k:Nat},x∈l.modify k f->x∈l\/∃y∈l,x=f y
 |[],k,h=>by simp at h
 |a::l,0,h=>by
  simp only[arx,ao3]at h;rcases h with rfl|h
  ·exact .inr ⟨a,ao6,rfl⟩
  ·exact .inl (apa _ h)
 |a::l,k+1,h=>by
  simp only[ary,ao3]at h;rcases h with rfl|h
  ·exact .inl ao6
  ·rcases FO h with h|⟨y,b,e⟩
   ·exact .inl (apa _ h)
   ·exact .inr ⟨y,apa _ b,e⟩
theorem QI{c:List PId}{b:List cE}{kind:Int}{y h:cE}(a:h∈hb c b kind y):h∈b\/h=y:=by
 unfold hb at a;rcases aoZ.1 a with a|a
 ·exact .inl (apA.1 a).1
 ·split at a
  ·exact .inr (by simpa using a)
  ·cases a
theorem Ig{l:List bU}{b:PId}{s:bU}(h:s∈oD l b r):s∈l\/s=me ⟨#[]⟩ r:=by
 have c:∀n,s∈lr l n (me ⟨#[]⟩ r)->s∈l\/s=me ⟨#[]⟩ r:=fun n a=>by
  unfold lr at a;rcases aoZ.1 a with a|a
  ·exact .inl (apx a)
  ·rcases ao3.1 a with rfl|a
   ·exact .inr rfl
   ·exact .inl (ap0 a)
 unfold oD at h;split at h
 ·exact c _ h
 ·split at h
  ·exact .inl h
  ·exact c _ h
theorem XY{o:ba}{s:bU}(h:s∈(e9 k o).ss):(s.id=k.id/\s.ad=[])\/((s.id=(0,0)\/∃s0∈o.ss,s0.id=s.id/\∀x∈s.ad,x∈s0.ad\/x=k.held)/\((∃s0∈o.ss,∀x∈s.ad,x∈s0.ad\/x=k.held)\/∀x∈s.ad,x=k.held)):=by
 unfold e9 at h;split at h
 ·split at h
  ·rcases Ig h with h|rfl
   ·exact .inr ⟨.inr ⟨s,h,rfl,fun x a=>.inl a⟩,.inl ⟨s,h,fun x a=>.inl a⟩⟩
   ·exact .inl ⟨rfl,rfl⟩
  ·exact .inr ⟨.inr ⟨s,h,rfl,fun x a=>.inl a⟩,.inl ⟨s,h,fun x a=>.inl a⟩⟩
 ·split at h
  ·unfold kN at h
   simp only at h;split at h
   ·split at h
    ·exact .inr ⟨.inr ⟨s,h,rfl,fun x a=>.inl a⟩,.inl ⟨s,h,fun x a=>.inl a⟩⟩
    ·rcases aoZ.1 h with h|h
     ·exact .inr ⟨.inr ⟨s,h,rfl,fun x a=>.inl a⟩,.inl ⟨s,h,fun x a=>.inl a⟩⟩
     ·obtain rfl:=ao2.1 h
      refine .inr ⟨.inl rfl,.inr fun x a=> ?_⟩;rcases QI a with a|a
      ·cases a
      ·exact a
   ·rcases FO h with h|⟨s0,b,rfl⟩
    ·exact .inr ⟨.inr ⟨s,h,rfl,fun x a=>.inl a⟩,.inl ⟨s,h,fun x a=>.inl a⟩⟩
    ·exact .inr ⟨.inr ⟨s0,b,rfl,fun x a=>QI a⟩,.inl ⟨s0,b,fun x a=>QI a⟩⟩
  ·exact .inr ⟨.inr ⟨s,h,rfl,fun x a=>.inl a⟩,.inl ⟨s,h,fun x a=>.inl a⟩⟩
theorem o2.mo{R I}(h:o2 R I)(p:bu):o2 (b0 R p) (p.id::I):=by
 by_cases k:p.kind=1
 ·have g:∀x o,bl (b0 R p) x=some o->bl R x=some o\/(x=p.id/\o.ss=[]):=fun x o a=>by
   rw[wh k]at a;cases d:bl R x with
   |some c=>rw[d]at a;exact .inl a
   |none=>
    rw[d]at a;simp only at a;split at a
    ·rename_i e
     cases a;exact .inr ⟨e,rfl⟩
    ·cases a
  refine⟨fun x o a=> ?_,fun x o a s b=> ?_,fun x o a s b y f=> ?_⟩
  ·rcases g x o a with a|⟨rfl,_⟩
   ·exact(h.obj x o a).imp id (apa _)
   ·exact .inr ao6
  ·rcases g x o a with a|⟨_,e⟩
   ·exact(h.slot x o a s b).imp id (apa _)
   ·rw[e]at b;cases b
  ·rcases g x o a with a|⟨_,e⟩
   ·exact apa _ (h.cD x o a s b y f)
   ·rw[e]at b;cases b
 ·have g:∀x o,bl (b0 R p) x=some o->∃c,bl R x=some c/\(o=c\/o=e9 p c):=fun x o a=>by
   rw[zj k]at a;split at a
   ·cases d:bl R x with
    |none=>rw[d]at a;cases a
    |some c=>rw[d]at a;exact⟨c,rfl,.inr (by simpa using a.symm)⟩
   ·exact⟨o,a,.inl rfl⟩
  refine⟨fun x o a=> ?_,fun x o a s b=> ?_,fun x o a s b y f=> ?_⟩
  ·obtain⟨c,i,_⟩:=g x o a
   exact(h.obj x c i).imp id (apa _)
  ·obtain⟨c,i,e|e⟩:=g x o a
   ·subst e
    exact(h.slot x _ i s b).imp id (apa _)
   ·subst e
    rcases XY b with⟨e,_⟩|⟨e|⟨s0,j,e,_⟩,_⟩
    ·exact .inr (e▸ao6)
    ·exact .inl e
    ·rw[<-e]
     exact(h.slot x _ i s0 j).imp id (apa _)
  ·obtain⟨c,i,e|e⟩:=g x o a
   ·subst e
    exact apa _ (h.cD x _ i s b y f)
   ·subst e
    rcases XY b with⟨_,e⟩|⟨_,⟨s0,j,d⟩|d⟩
    ·rw[e]at f;cases f
    ·rcases d y f with f|rfl
     ·exact apa _ (h.cD x _ i s0 j y f)
     ·exact ao6
    ·rw[d y f];exact ao6
theorem FP(p:bu)(h:∃o,bl j r=some o):∃o,bl (b0 j p) r=some o:=by
 obtain⟨o,h⟩:=h;by_cases a:p.kind=1
 ·rw[wh a,h];exact⟨o,rfl⟩
 ·rw[zj a,h]
  split
  ·exact⟨_,rfl⟩
  ·exact⟨_,rfl⟩
theorem XZ{R:List ba}(a:k.kind=1):∃o,bl (b0 R k) k.id=some o:=by
 rw[wh a];cases bl R k.id with
 |some o=>exact⟨o,rfl⟩
 |none=>exact⟨_,if_pos rfl⟩
def DH:List PId->List PId->List bu->Prop
 |_,_,[]=>True
 |I,M,p::S=>(p.kind=1\/p.kind=2\/p.kind=3\/p.kind=4)/\p.id≠(0,0)/\p.id∉I/\(p.kind=3\/p.kind=4->p.key≠⟨#[]⟩->p.element=(0,0))/\(p.kind=3->p.obj∈M)/\DH (p.id::I) (if p.kind=1 then p.id::M else M) S
theorem eA.all:∀(S:List bu) (f:Nat->Int) (R:List ba) (D b:cN) (I M:List PId),eA R D->fG D->o2 R I->(∀x∈M,∃o,bl R x=some o)->DH I M S->mN D ((List.range S.length).map fun i=>zk (S.getD i ⟨(0,0),0,false,(0,0),⟨#[]⟩,(0,0),(0,0),0,(0,0),[]⟩) (f i)) b->eA (S.foldl b0 R) b/\fG b
 |[],f,R,D,b,I,M,h,g,_,_,_,j=>by
  have e:b=D:=j;exact⟨e▸h,e▸g⟩
 |p::S,f,R,D,b,I,M,h,g,k,l,a,j=>by
  rw[apd,List.range_succ_eq_map,apb,apI]at j;obtain⟨t,m,u⟩:=j;simp only[List.getD_cons_zero]at m;have v:XW R p:=⟨a.1,fun _=>by
    cases c:bl R p.id with
    |none=>rfl
    |some o=>
     rcases k.obj _ _ c with e|e
     ·exact absurd e a.2.1
     ·exact absurd e a.2.2.1,
   fun _=>⟨a.2.1,fun x o c w=>by
    obtain⟨s,n,e⟩:=aoX.1 w;rcases k.slot x o c s n with q|q
    ·exact a.2.1 (e.symm.trans q)
    ·exact a.2.2.1 (e▸q)⟩,a.2.2.2.1,fun _ x o c s n y z e=>a.2.2.1 (e▸k.cD x o c s n y z),fun r=>l _ (a.2.2.2.2.1 r)⟩
  refine eA.all S (fun i=>f (i+1)) (b0 R p) t b (p.id::I) (if p.kind=1 then p.id::M else M) (h.any g v m) (g.step m) (k.mo p) (fun x d=> ?_) a.2.2.2.2.2 ?_
  ·split at d
   ·rename_i r
    rcases ao3.1 d with rfl|d
    ·exact XZ r
    ·exact FP p (l x d)
   ·exact FP p (l x d)
  ·simpa[aru]using u
structure bO where
 gt:Nat->Int
 has:Nat->Nat->Int
 ops:Nat->List av
 gone:Nat->List av
 kept:Nat->List av
 early:Nat->List (PId×av)
 lI:Nat->Nat->Nat->Int
 ms:Nat->Nat->List iH
 sh:Nat->Nat->Bool
variable {f:bO}
structure dc where
 c8:Nat
 eX:Nat
 jT:Nat
 lm:List (PId×Nat)
 ei:Nat->Nat
 ia:Nat->Nat->Prop
 q:Nat->fU
 gl:Nat->Nat->Nat
 gc:Nat->Nat->Nat
 gr:Nat->Nat->List Value
 vm:Nat->Nat->Nat
 yd:Nat->Nat->Nat
variable {l:dc}
def QJ (k:Nat):Value:=Z k
theorem Bs {α:Type} (f:Nat->α) (c:Nat):upd f c (f c)=f:=by
 funext i;unfold upd;split
 ·rename_i e;rw[e]
 ·rfl
def X0 (a:List av) (D0:nt):Prop:=eA c2 D0.1/\fG D0.1/\(∀p∈D0.1.1,p.2.ks=[])/\D0.2=a.map (·.op)
structure gb (w:World) (r:Nat) (F I:Nat->Prop) (N sp:Nat) (s:bO) (x:dc):Prop where
 blk:w.heap[r]?=some (.cells #[.slice (some (H x.c8)) N x.eX,.map (some x.jT)] 119 (0,0))
 row:w.ownsRow 0 92 1 (.slice (some (H x.c8)) N x.eX) N ((List.range N).flatMap fun c=>iD (x.ei c))
 hN:N<=4
 eM:∀c,c<N->dx w (x.ei c) (x.ia c) I N sp c (s.gt c) (s.has c) (s.kept c) (s.early c) (x.q c)
 kH:∀c,c<N->X0 (s.gone c) (x.q c).D0
 mU:∀c,c<N->s.ops c=s.gone c++s.kept c
 Bt:∀c d,c<N->d<N->c≠d->∃g,bq (d:Int) (x.q c).kV=some g/\∀i,i<N->rowOf ((x.q c).eb g) i=s.lI c d i
 FQ:∀c,c<N->(∀d ca g,bq d (x.q c).kV=some g->bq ca (x.q c).kV=some g->d=ca)/\(∀p∈(x.q c).kV,∃d:Nat,d<N/\d≠c/\p.1=(d:Int))/\((x.q c).kV.map (·.1)).Nodup
 lmap:∃es aR,isMap cX QJ w x.jT x.lm es aR
 look:∀c d,c<N->d<N->c≠d->bq ((c:Int),(d:Int)) x.lm=some (x.gl c d)
 Bu:∀a b:Int,(¬∃c d:Nat,c<N/\d<N/\c≠d/\a=c/\b=d)->bq (a,b) x.lm=none
 link:∀c d,c<N->d<N->c≠d->j2 w (x.gl c d) (x.gc c d) (x.gr c d) (s.sh c d) (x.vm c d) (x.yd c d)
 wz:∀c d,c<N->d<N->c≠d->en (r3 w I) (s.ms c d) (x.gr c d)
 inj:∀c d b2 ca,c<N->d<N->c≠d->b2<N->ca<N->b2≠ca->x.gc c d=x.gc b2 ca->c=b2/\d=ca
 sub:∀c,c<N->∀k,x.ia c k->F k
 jy:∀c b2,c<N->b2<N->c≠b2->∀k,x.ia c k->¬x.ia b2 k
 pL:∀c,c<N->¬x.ia c r
 zE:∀c,c<N->¬x.ia c x.c8
 qt:∀c,c<N->¬x.ia c x.jT
 nl:∀e,e<N->∀c d,c<N->d<N->c≠d->¬x.ia e (x.gl c d)/\¬x.ia e (x.gc c d)
 cd:F r
 mr:F x.c8
 pM:F x.jT
 dK:∀c d,c<N->d<N->c≠d->F (x.gl c d)/\F (x.gc c d)
 lt:∀k,F k->k<w.heap.size
 eT:∀k,I k->¬F k
 cJ:∀k,I k->k<w.heap.size
theorem ahn(f:Nat->Nat)(n k:Nat)(a:k<n):((List.range n).flatMap fun c=>iD (f c))[k]?=some (Z (f k)):=by
 have :((List.range n).flatMap fun c=>iD (f c))=(List.range n).map fun c=>Z (f c):=by
  unfold iD;exact List.map_eq_flatMap.symm
 rw[this];simp[a]
theorem en.imp {α β:Type} {R d:α->β->Prop} (h:∀a b,R a b->d a b):∀{l:List α} {m:List β},en R l m->en d l m
 |[],[],_=>trivial
 |[],_::_,c=>c.elim
 |_::_,[],c=>c.elim
 |_::_,_::_,c=>⟨h _ _ c.1,en.imp h c.2⟩
theorem j2.jY{l c}(h:j2 e a b l c i n)(d:m.heap[a]?=e.heap[a]?)(f:m.heap[b]?=e.heap[b]?):j2 m a b l c i n:=
 ⟨d.trans h.blk,f.trans h.oc,h.len⟩
theorem gb.gB{w r F I N sp s x}{i:World}(h:gb w r F I N sp s x)(j:w.heap.size<=i.heap.size)(b:∀k,F k->i.heap[k]?=w.heap[k]?)(n:∀k,I k->i.heap[k]?=w.heap[k]?):gb i r F I N sp s x:=by
 obtain⟨o,p,l⟩:=h.lmap;exact⟨by rw[b _ h.cd];exact h.blk,b4 h.row (fun g q=>by cases q;exact b _ h.mr),h.hN,fun c a=>(h.eM c a).gB j (fun k hF=>b k (h.sub c a k hF)) n,h.kH,h.mU,h.Bt,h.FQ,⟨o,p,l.gE (b _ h.pM)⟩,h.look,h.Bu,fun c d a e f=>(h.link c d a e f).jY (b _ (h.dK c d a e f).1) (b _ (h.dK c d a e f).2),fun c d a e f=>(h.wz c d a e f).imp fun m u l=>l.gU n j (fun _ y=>y),h.inj,h.sub,h.jy,h.pL,h.zE,h.qt,h.nl,h.cd,h.mr,h.pM,h.dK,fun k hF=>aoV (h.lt k hF) j,h.eT,fun k hF=>aoV (h.cJ k hF) j⟩
theorem gb.af{w r x}{w':World}(c:gb w r d h a b f x)(e:J w w'):gb w' r d h a b f x:=c.gB e.size (fun k g=>e.block k (c.lt k g)) (fun k g=>e.block k (c.cJ k g))
theorem gb.cell{w x}(e:gb w b d h a i f x){c:Nat}(g:c<a):w.cell? (K x.c8 c)=some (Z (x.ei c)):=by
 have j:=aqE e.row c (by omega);rw[j];exact ahn x.ei a c g
theorem gb.cap{r s}(f:gb m r d h b i s l):b<=l.eX/\l.eX<=maxLen:=by
 obtain⟨a,c,e,g,j,_⟩:=bp f.row;cases e;exact⟨g,j⟩
theorem gb.zr{w r F I N b s x}(h:gb w r F I N b s x){I':Nat->Prop}(e:∀k,I k->I' k)(f:∀k,I' k->k<w.heap.size)(g:∀k,I' k->¬F k):gb w r F I' N b s x:=
 ⟨h.blk,h.row,h.hN,fun c a=>(h.eM c a).zr e f fun k i hF=>g k i (h.sub c a k hF),h.kH,h.mU,h.Bt,h.FQ,h.lmap,h.look,h.Bu,h.link,fun c d a j l=>(h.wz c d a j l).imp fun m u n=>n.gU (fun _ _=>rfl) (aoP _) e,h.inj,h.sub,h.jy,h.pL,h.zE,h.qt,h.nl,h.cd,h.mr,h.pM,h.dK,h.lt,g,f⟩
theorem gb.X1{xZ has' gone' DI ir P}(c:gb e i h s b n f l)(I:a<b){ops':List av}{nw':Nat->Nat->Int}(S:dx m (l.ei a) d u b n a xZ has' DI ir P)(F:c0 (l.ia a) d e m)(U:∀k,s k->u k)(oq:∀k,u k->s k\/e.heap.size<=k)(ng:X0 gone' P.D0)(rW:ops'=gone'++DI)(Km:P.kV=(l.q a).kV)(DJ:∀r,r<b->a≠r->∀g,bq (r:Int) (l.q a).kV=some g->∀t,t<b->rowOf (P.eb g) t=nw' r t):
  ∃Q,gb m i (fun k=>h k\/d k) u b n {f with gt:=upd f.gt a xZ,has:=upd f.has a has',ops:=upd f.ops a ops',gone:=upd f.gone a gone',kept:=upd f.kept a DI,early:=upd f.early a ir,lI:=upd f.lI a nw'} Q/\c0 h (fun k=>h k\/d k) e m/\Q.ei=l.ei/\Q.gl=l.gl/\Q.gc=l.gc/\Q.gr=l.gr/\Q.q=upd l.q a P:=by
 have N:∀k,k<e.heap.size->¬l.ia a k->m.heap[k]?=e.heap[k]?:=F.other;have hi:∀k,s k->m.heap[k]?=e.heap[k]?:=fun k U=>N k (c.cJ k U) fun hF=>c.eT k U (c.sub a I k hF)
 obtain⟨es,aR,hm⟩:=c.lmap;have L:∀j,j<b->∀k,(if j=a then d else l.ia j) k->l.ia j k\/e.heap.size<=k:=fun j z k hF=>by
  by_cases B:j=a
  ·subst B
   simp only[if_true]at hF;exact F.sub k hF
  ·simp only[B,if_false]at hF
   exact .inl hF
 refine⟨{l with ia:=fun j=>if j=a then d else l.ia j,q:=upd l.q a P},⟨?_,b4 c.row (fun g ah=>by cases ah;exact N l.c8 (c.lt _ c.mr) (c.zE a I)),c.hN,?_,?_,?_,?_,?_,⟨es,aR,hm.gE (N _ (c.lt _ c.pM) (c.qt a I))⟩,c.look,c.Bu,fun o p C D E=>(c.link o p C D E).jY (N _ (c.lt _ (c.dK o p C D E).1) (c.nl a I o p C D E).1) (N _ (c.lt _ (c.dK o p C D E).2) (c.nl a I o p C D E).2),fun o p C D E=>(c.wz o p C D E).imp fun w x hm=>hm.gU hi F.size U,c.inj,?_,?_,?_,?_,?_,?_,.inl c.cd,.inl c.mr,.inl c.pM,fun o p C D E=>⟨.inl (c.dK o p C D E).1,.inl (c.dK o p C D E).2⟩,?_,?_,S.cJ⟩,?_,rfl,rfl,rfl,rfl,rfl⟩
 ·rw[N i (c.lt _ c.cd) (c.pL a I)];exact c.blk
 ·intro j z
  by_cases B:j=a
  ·subst B
   simp only[bN,if_true];exact S
  ·simp only[ck _ _ B,B,if_false]
   refine((c.eM j z).gB F.size (fun k hF=>N k ((c.eM j z).lt k hF) (c.jy j a z I B k hF)) hi).zr U S.cJ fun k M hF=> ?_
   rcases oq k M with y|y
   ·exact c.eT k y (c.sub j z k hF)
   ·have :=(c.eM j z).lt k hF;omega
 ·intro j z
  by_cases B:j=a
  ·subst B
   simp only[bN];exact ng
  ·simp only[ck _ _ B]
   exact c.kH j z
 ·intro j z
  by_cases B:j=a
  ·subst B
   simp only[bN];exact rW
  ·simp only[ck _ _ B]
   exact c.mU j z
 ·intro j v z aD QK
  by_cases B:j=a
  ·subst B
   simp only[bN,Km];obtain⟨g,ah,_⟩:=c.Bt j v z aD QK;exact⟨g,ah,DJ v aD QK g ah⟩
  ·simp only[ck _ _ B]
   exact c.Bt j v z aD QK
 ·intro j z
  by_cases B:j=a
  ·subst B
   simp only[bN,Km];exact c.FQ j z
  ·simp only[ck _ _ B]
   exact c.FQ j z
 ·intro j z k hF
  rcases L j z k hF with y|y
  ·exact .inl (c.sub j z k y)
  ·by_cases B:j=a
   ·subst B
    simp only[if_true]at hF;exact .inr hF
   ·simp only[B,if_false]at hF
    exact .inl (c.sub j z k hF)
 ·intro W R y X br k tj vn
  rcases L W y k tj with b1|b1
  ·rcases L R X k vn with Y|Y
   ·exact c.jy W R y X br k b1 Y
   ·have :=(c.eM W y).lt k b1;omega
  ·rcases L R X k vn with Y|Y
   ·have :=(c.eM R X).lt k Y;omega
   ·by_cases aj:W=a
    ·have aw:¬R=a:=fun j=>br (aj.trans j.symm)
     simp only[aw,if_false]at vn;have :=(c.eM R X).lt k vn;omega
    ·simp only[aj,if_false]at tj
     have :=(c.eM W y).lt k tj;omega
 ·intro j z hF
  rcases L j z i hF with y|y
  ·exact c.pL j z y
  ·have :=c.lt _ c.cd;omega
 ·intro j z hF
  rcases L j z _ hF with y|y
  ·exact c.zE j z y
  ·have :=c.lt _ c.mr
   simp only at y;omega
 ·intro j z hF
  rcases L j z _ hF with y|y
  ·exact c.qt j z y
  ·have :=c.lt _ c.pM
   simp only at y;omega
 ·intro j z o p C D E
  refine⟨fun hF=> ?_,fun hF=> ?_⟩
  ·rcases L j z _ hF with y|y
   ·exact(c.nl j z o p C D E).1 y
   ·have :=c.lt _ (c.dK o p C D E).1
    simp only at y;omega
  ·rcases L j z _ hF with y|y
   ·exact(c.nl j z o p C D E).2 y
   ·have :=c.lt _ (c.dK o p C D E).2
    simp only at y;omega
 ·intro k M
  rcases M with M|M
  ·exact aoV (c.lt k M) F.size
  ·exact S.lt k M
 ·intro k ye hF
  rcases hF with hF|hF
  ·rcases oq k ye with y|y
   ·exact c.eT k y hF
   ·have :=c.lt k hF;omega
  ·exact S.eT k ye hF
 ·exact⟨F.os,F.tape,F.output,F.size,fun k hl hF=>N k hl fun y=>hF (c.sub a I k y),fun k M=>M.elim .inl fun y=>(F.sub k y).imp (c.sub a I k) id⟩
theorem gb.QL{x y t z v}(c:gb e n d u b i f l)(r:a<b){ops':List av}(D:dx m (l.ei a) h s b i a x y t z v)(E:c0 (l.ia a) h e m)(F:∀k,u k->s k)(I:∀k,s k->u k\/e.heap.size<=k)(w:Fl (l.q a) v)(L:ops'=f.gone a++t):
  ∃p,gb m n (fun k=>d k\/h k) s b i {f with gt:=upd f.gt a x,has:=upd f.has a y,ops:=upd f.ops a ops',kept:=upd f.kept a t,early:=upd f.early a z} p/\c0 d (fun k=>d k\/h k) e m/\p.ei=l.ei/\p.gl=l.gl/\p.gc=l.gc/\p.gr=l.gr/\p.q=upd l.q a v:=by
 have B:=c.X1 r D E F I (gone':=f.gone a) (nw':=f.lI a) (by rw[w.1];exact c.kH a r) L w.2.1 (fun j M N g P o Q=>by
  obtain⟨S,C,R⟩:=c.Bt a j r M N;rw[P]at C;cases C;rw[w.2.2];exact R o Q)
 rw[Bs,Bs]at B;exact B
theorem gb.Ih{r F R o ms vm yd}(h:gb e r F d n R f l)(D:a<n)(E:i<n)(I:a≠i)(hl:j2 m (l.gl a i) (l.gc a i) o (f.sh a i) vm yd)(z:aP (fun k=>k=l.gc a i) e m)(L:en (r3 e d) ms o):
  gb m r F d n R {f with ms:=upd f.ms a (upd (f.ms a) i ms)} {l with gr:=upd l.gr a (upd (l.gr a) i o),vm:=upd l.vm a (upd (l.vm a) i vm),yd:=upd l.yd a (upd (l.yd a) i yd)}:=by
 have S:=(h.link a i D E I).oc;have N8:=(h.dK a i D E I).2;have s:∀k,F k->k≠l.gc a i->m.heap[k]?=e.heap[k]?:=fun k hF hn=>z.other k (h.lt k hF) hn
 have U:∀k,d k->m.heap[k]?=e.heap[k]?:=fun k W=>z.other k (h.cJ k W) fun c=>h.eT k W (c▸N8)
 have M:∀(k:Nat) (X:Array Value) (t:TypeId) (p:Nat×Nat),e.heap[k]?=some (.cells X t p)->k≠l.gc a i:=fun k X t p s c=>by rw[c,S]at s;cases s
 obtain⟨es,aR,Y⟩:=h.lmap;have hf:l.jT≠l.gc a i:=fun c=>by have :=Y.blk;rw[c,S]at this;cases this
 have hgC:l.c8≠l.gc a i:=fun c=>by
  obtain⟨cur,cH⟩:=bt h.row (g:=l.c8) rfl;exact M _ _ _ _ cH c
 refine⟨by rw[s _ h.cd (M _ _ _ _ h.blk)];exact h.blk,b4 h.row (fun g ah=>by cases ah;exact s _ h.mr hgC),h.hN,fun c N=>(h.eM c N).gB z.size (fun k hF=>s k (h.sub c N k hF) fun P=>(h.nl c N a i D E I).2 (P▸hF)) U,h.kH,h.mU,h.Bt,h.FQ,⟨es,aR,Y.gE (s _ h.pM hf)⟩,h.look,h.Bu,?_,?_,h.inj,h.sub,h.jy,h.pL,h.zE,h.qt,h.nl,h.cd,h.mr,h.pM,h.dK,fun k hF=>aoV (h.lt k hF) z.size,h.eT,fun k hF=>aoV (h.cJ k hF) z.size⟩
 ·intro j b v w x
  by_cases c:j=a/\b=i
  ·obtain⟨rfl,rfl⟩:=c
   simp only[bN];exact hl
  ·have br:l.gc j b≠l.gc a i:=fun P=>c (h.inj j b a i v w x D E I P)
   have ky:=(h.link j b v w x).jY (s _ (h.dK j b v w x).1 (M _ _ _ _ (h.link j b v w x).blk)) (s _ (h.dK j b v w x).2 br);by_cases C:j=a
   ·subst C
    have B:b≠i:=fun B=>c ⟨rfl,B⟩
    simp only[bN,ck _ _ B];exact ky
   ·simp only[ck _ _ C]
    exact ky
 ·intro j b v w x
  have Q:∀{ms:List iH} {o:List Value},en (r3 e d) ms o->en (r3 m d) ms o:=fun ay=>ay.imp fun q u L=>L.gU U z.size (fun _ y=>y)
  by_cases C:j=a
  ·subst C
   by_cases B:b=i
   ·subst B
    simp only[bN];exact Q L
   ·simp only[bN,ck _ _ B]
    exact Q (h.wz j b v w x)
  ·simp only[ck _ _ C]
   exact Q (h.wz j b v w x)
end
end Go.Proofs.YtnkpogjiiohapaaGreatDoor
