/- Our own text. -/
import Derived.Conc.LoneCalls
import Derived.Conc.LoneSelectN
import Derived.Test.YtnkpogjiiohapaaGreatDoorA17
set_option linter.unusedSimpArgs false
set_option linter.unusedVariables false
set_option maxRecDepth 1000000
namespace Go.Proofs.YtnkpogjiiohapaaGreatDoor
section
open Go.RowKit Go.Conc Tryz
variable {a b c f:Nat}{d:List Value}{e:World}{h:Bool}{i:Value}
structure iw (w:World) (gl gc:Nat) (l:List Value) (shut:Bool) (s r:Nat):Prop where
 bb:w.heap[gl]?=some (.cells #[.chan (some gc),.bool shut] 153)
 mT:w.heap[gc]?=some (.chan 12 l.toArray shut s r false)
 len:l.length<=12
theorem QW {r:Nat} (j:iw e a b (i::d) h f r):
  O 76 #[Z a] e λg w'=>g=ad i/\w'=e.setChan b 12 d.toArray h f (r+1) false:=by
 refine calls_of_loneTo λm=> ?_
 have g:Frame.enter prog 76 #[Z a] .normal=(base 76).at ⟨#[Z a,undef,undef,undef,undef,undef,undef,undef],[]⟩ [.code (f76.body.getD .skip)]:=by rfl
 rw[g];have o:e.cell? (H a)=some (.chan (some b)):=by simp[World.cell?,j.bb]
 refine LoneTo.goes (n:=30) ?_;simp only[f76,nb]
 s_c stepG_seq
 s_reg
 s_op
 s_c stepG_region_end
 s_c stepG_seq
 s_reg
 s_op
 s_op
 s_op
 s_op
 s_stop
 refine LoneTo.step (step_lone_recv_buf false (c:=b) (z:=.nilIface) (stepG_comm (cases := #[rcase b .nilIface]) (blocking:=true) (shape:=.recv false) (w':=e) rfl rfl (by decide) (by simp[go_sem,rcase])) j.mT (by simp)) ?_;rw[K8];have k:(i::d).toArray.getD 0 undef=i:=by simp
 have l:(i::d).toArray.extract 1 (i::d).toArray.size=d.toArray:=by simp
 rw[k,l];simp only[got]
 walk_nrm
 refine LoneTo.goes (n:=4) ?_
 s_op
 s_c stepG_region_end
 s_c stepG_ret'
 s_stop
 exact LoneTo.done ⟨ad i,_,rfl,⟨rfl,rfl⟩,rfl,rfl,rfl,rfl,_,func76,by simp[results,f76,Frame.at]⟩
theorem V5 {w:World} (g:iw w a b d h c f):
  O 129 #[Z a] w λe j=>e=ad (A d.length)/\j=w:=by
 have k:w.cell? (H a)=some (.chan (some b)):=by simp[World.cell?,g.bb]
 have l:=λi=>run_len_chan (P:=prog) 151 i underlying151 g.mT
 have m:=λi=>run_cap_chan (P:=prog) 151 i underlying151 g.mT
 go_enter func129,ntmps129;go_wp2;go_ret
 simp
theorem V6 {w:World} {i:Bool} (h:iw w a b d i c f):
  O 52 #[Z a] w λe j=>e=ad (A (if i then 10 else if d.length=12 then 8 else 0))/\J w j:=by
 have k:w.cell? (H a)=some (.chan (some b)):=by simp[World.cell?,h.bb]
 have l:w.cell? (K a 1)=some (.bool i):=by simp[World.cell?,h.bb]
 have m:=λg=>run_len_chan (P:=prog) 151 g underlying151 h.mT
 have n:=λg=>run_cap_chan (P:=prog) 151 g underlying151 h.mT
 have o:=λg=>run_len_chan (P:=prog) (w:=w.drew) 151 g underlying151 h.mT
 have p:=λg=>run_cap_chan (P:=prog) (w:=w.drew) 151 g underlying151 h.mT
 cases i with
 |true=>
  go_enter func52,ntmps52;go_wp2;go_ret
  exact⟨rfl,ca _ _⟩
 |false=>
  by_cases q:d.length=12
  .go_enter func52,ntmps52;go_wp2;go_region
   all_goals(go_wp2;go_ret)
   all_goals exact⟨by rfl,Below.drew (ca _ _)⟩
  go_enter func52,ntmps52;go_wp2;go_region
  all_goals(go_wp2;go_ret)
  all_goals exact⟨by rfl,Below.drew (ca _ _)⟩
theorem acv {P:Program} {Q:Goroutine->World->Prop} {f:FuncId} {args:Array Value} {a:Frame} {cs:List Frame} {w:World} {R:World->Prop} (d:Calls P f args w λe w'=>e=ad i/\R w') {b:Frame} (j:b=Frame.enter P f args .normal) (h:∀w',R w'->LoneTo P Q (G (a.finish i) cs) w'):LoneTo P Q (G b (a::cs)) w:=by subst j;obtain⟨e,w',k,⟨rfl,l⟩,m,_,n⟩:=d (a::cs);obtain⟨o,p,q,r⟩:=LoneTo.step (P:=P) (Q:=Q) (g:=G k (a::cs)) (w:=w') (g':=G (a.finish i) cs) (w':=w') (atL (c:=a) (cs:=cs) n) (h w' l);exact⟨o,p,Steps.trans m q,r⟩
def rb:Code->Code|.seq _ b=>b|c=>c
def BH:Code->Code|.block _ c=>c|c=>c
def BI:Code->Code|.loop c=>c|c=>c
def tE (shut:Bool):List Value->List Value->List Value
 |l,[]=>l
 |l,m::a=>tE shut (if shut=true\/l.length=12 then l else l++[m]) a
def V8 (gl gc:Nat) (l:List Value) (shut:Bool) (r:Nat) (w a:World):Prop:=∃b,iw a gl gc l shut b r/\aR (λk=>k=gc) w a
def acw (f:FuncId) (c:List Frame) (R:World->Prop) (d:Goroutine) (b:World):Prop:=∃e a,d=G a c/\(e=ad (.tuple #[])/\R b)/\a.fn=f/\a.leaving prog b e
theorem iw.ak{w l}{w':World}(d:iw w a b l h c f)(e:J w w'):iw w' a b l h c f:=
 ⟨(e.block a (aU d.bb)).trans d.bb,(e.block b (aU d.mT)).trans d.mT,d.len⟩
theorem QX(w:World)(cap:Nat)(c:Array Value)(d:Bool)(s r:Nat)(f:Bool)(h:a≠b):(w.setChan b cap c d s r f).heap[a]?=w.heap[a]?:=by simp only[World.setChan];rw[aga (λe=>h e.symm)]
theorem MN (w:World) (c cap:Nat) (a:Array Value) (b:Bool) (s r:Nat) (d:Bool):aR (λk=>k=c) w (w.setChan c cap a b s r d):=
 ⟨rfl,rfl,rfl,by rw[size_setChan];simp,λk _ e=>QX w cap a b s r d e⟩
theorem iw.ne{r}(g:iw e c a d h f r){i:Nat}{v:Value}(k:e.cell? (K b i)=some v):b≠a:=λj=>by subst j;simp[World.cell?,g.mT]at k
theorem iw.HJ(g:iw e b a d h c f)(m:Value)(j k:Nat)(l:d.length<12):iw (e.setChan a 12 (d++[m]).toArray h j k false) b a (d++[m]) h j k:=
 ⟨(QX e _ _ _ _ _ _ (g.ne (i:=0) (v:=.chan (some a)) (by simp[World.cell?,g.bb]))).trans g.bb,by rw[heap_setChan _ _ _ _ _ _ _ _ (aU g.mT)],by simp;omega⟩
theorem amu(f:Nat)(g:Array Value)(j:Bool)(s r:Nat)(k:Bool)(l:a≠c)(h:e.cell? (K a b)=some i):(e.setChan c f g j s r k).cell? (K a b)=some i:=by
 have d:=QX e f g j s r k l;simp only[World.cell?]at h⊢
 simp_all
theorem amv{B:Code}(b:B=BI (BH (rb (f53.body.getD .skip)))){R:World->Prop}(c:R e)(a:List Frame)(n:Nat)(d f g h i j k l m o p q r s t u v w x:Value):
  LoneTo prog (acw 53 a R) (G ((base 53).at ⟨#[d,f,g,h,i,j,k,A n,A n,l,m,o,p,q,r,s,t,u,v,w,x],[]⟩ [.code B,.inLoop B,.inBlock 0]) a) e:=by
 refine LoneTo.goes (n:=20) ?_;simp only[b,f53,nb,rb,BH,BI]
 s_c stepG_seq
 s_reg
 s_op
 s_c stepG_region_end
 s_c stepG_seq
 have y:decide ((n:Int)<(n:Int))=false:=by simp
 s_cond false
 s_exit
 s_c stepG_end
 s_stop
 exact LoneTo.done ⟨ad (.tuple #[]),_,rfl,⟨rfl,c⟩,rfl,rfl,rfl,rfl,_,func53,by simp[results,f53,Frame.at]⟩
theorem amw {B:Code} (p:B=BI (BH (rb (f53.body.getD .skip)))) {gl gc g off cap n r:Nat} {shut:Bool} (I:List Frame) (M:Nat->Value) (hn:n<=1000):
  ∀(k i:Nat) (l:List Value) (s:Nat) (w:World) (R:World->Prop) (b d e L N P Q S U W t u v x y X:Value),i+k=n->iw w gl gc l shut s r->(∀j,j<n->w.cell? (K g (off+j))=some (M j))->
   (∀w',V8 gl gc (tE shut l ((List.range k).map λj=>M (i+j))) shut r w w'->R w')->
   LoneTo prog (acw 53 I R) (G ((base 53).at ⟨#[Z gl,.slice (some (K g off)) n cap,b,d,e,L,.slice (some (K g off)) n cap,A n,A i,N,P,Q,S,U,W,t,u,v,x,y,X],[]⟩ [.code B,.inLoop B,.inBlock 0]) I) w:=by
 intro k
 induction k with
 |zero=>
  intro i l s w R b d e L N P Q S U W t u v x y X hi f Y m;obtain rfl:i=n:=by omega
  exact amv p (m w ⟨s,f,aR.cL (ca _ _)⟩) I i _ _ _ _ _ _ _ _ _ _ _ _ _ _ _ _ _ _ _
 |succ k ih=>
  intro i l s w R b d e L N P Q S U W t u v x y X hi f Y m;have h3:i<n:=by omega
  have aL:decide ((i:Int)<(n:Int))=true:=by simp;omega
  have om:(0:Int)<=(i:Int):=by simp
  have Bi:(i:Int)<(n:Int):=by omega
  have jF:=Y i h3;have bw:w.cell? (H gl)=some (.chan (some gc)):=by simp[World.cell?,f.bb]
  refine LoneTo.goes (n:=40) ?_;simp only[p,f53,nb,rb,BH,BI]
  s_c stepG_seq
  s_reg
  s_op
  s_c stepG_region_end
  s_c stepG_seq
  s_cond true
  s_c stepG_skip
  s_c stepG_seq
  s_c stepG_block
  s_c stepG_seq
  s_reg
  s_op
  s_op
  s_op
  s_c stepG_region_end
  s_c stepG_seq
  s_reg
  s_op
  s_in
  refine goes_call rfl rfl (by decide) rfl func52 rfl rfl ⟨trivial,?_⟩
  s_stop
  refine acv (V6 f) (by simp[Frame.enter,Frame.at,func52,base,f52,Act.eval]) λz C=> ?_
  rw[K8]
  walk_nrm
  have a:=f.ak C;have bm:z.cell? (H gl)=some (.chan (some gc)):=by simp[World.cell?,a.bb]
  have n2:=λj D=>ak C (Y j D)
  have jR:IntKind.i64.wrap ((i:Int)+1)=((i+1:Nat):Int):=by rw[mN _ (by omega)];simp
  have amx:(List.range (k+1)).map (λj=>M (i+j))=M i::(List.range k).map λj=>M (i+1+j):=by rw[atM,ip,rz];simp[afZ,Nat.add_comm,Nat.add_left_comm]
  rw[amx]at m;by_cases E:shut=true\/l.length=12
  .obtain⟨q,aw,qb⟩:∃q:Int,(if shut=true then 10 else if l.length=12 then 8 else 0)=q/\¬(q=0):=by
    by_cases F:shut=true
    .exact⟨10,by rw[bn F],by omega⟩
    rcases E with h|h
    .contradiction
    exact⟨8,by rw[a7 F,bn h],by omega⟩
   rw[aw];have hqb:(q==0)=false:=by simpa using qb
   refine LoneTo.goes (n:=20) ?_
   s_op
   s_c stepG_region_end
   s_cond false
   s_c stepG_skip
   s_c stepG_inBlock
   s_reg
   s_op
   s_op
   s_c stepG_region_end
   s_c stepG_inLoop
   s_stop
   have o:=ih (i+1) l s z R b d e (M i) (.bool true) (.pointer (some (K g (off+i)))) (M i) (Z gl) (A q) (.bool false) t u v x y (A ((i:Int)+1)) (by omega) a n2 λw' ⟨s',ax,a8⟩=>m w' ⟨s',by unfold tE;rw[bn E];exact ax,(aR.cL C).trans a8⟩
   simp only[p,f53,nb,rb,BH,BI,Int.natCast_add,Int.natCast_one]at o;exact o
  have F:shut=false:=by
   cases shut with
   |false=>rfl
   |true=>exact absurd (.inl rfl) E
  have amy:¬(l.length=12):=by omega
  have hlen:=a.len;subst F;have cR:(if false=true then(10:Int) else if l.length=12 then 8 else 0)=0:=by rw[a7 (by simp),a7 amy]
  rw[cR];refine LoneTo.goes (n:=20) ?_
  s_op
  s_c stepG_region_end
  s_cond true
  s_reg
  s_op
  s_op
  s_op
  s_op
  s_op
  s_stop
  refine LoneTo.step (step_lone_send_room (c:=gc) (cap:=12) (buf:=l.toArray) (s:=s) (r:=r) (tm:=false) (stepG_comm (cases := #[scase gc (M i) (.tuple #[])]) (blocking:=true) (shape:=.send) (w':=z) rfl rfl (by decide) (by simp[execOp,scase,Act.eval])) a.mT (by simp;omega)) ?_;rw[K8]
  walk_nrm
  refine LoneTo.goes (n:=20) ?_
  s_c stepG_region_end
  s_c stepG_inBlock
  s_reg
  s_op
  s_op
  s_c stepG_region_end
  s_c stepG_inLoop
  s_stop
  have o:=ih (i+1) (l++[M i]) (s+1) (z.setChan gc 12 (l++[M i]).toArray false (s+1) r false) R b d e (M i) (.bool true) (.pointer (some (K g (off+i)))) (M i) (Z gl) (A 0) (.bool true) (Z gl) (Z gl) (Z gl) (.chan (some gc)) (M i) (A ((i:Int)+1)) (by omega) (a.HJ (M i) (s+1) r (by omega)) (λj D=>amu _ _ _ _ _ _ (a.ne (n2 j D)) (n2 j D)) λw' ⟨s',ax,a8⟩=>m w' ⟨s',by unfold tE;rw[a7 E];exact ax,((aR.cL C).trans (MN _ _ _ _ _ _ _ _)).trans a8⟩
  simp only[p,f53,nb,rb,BH,BI,Int.natCast_add,Int.natCast_one]at o;exact o
theorem V9 {gl gc g off cap n:Nat} {shut:Bool} {r:Nat} (h:iw e gl gc d shut a r) (M:Nat->Value) (f:n<=1000) (i:∀j,j<n->e.cell? (K g (off+j))=some (M j)):
  O 53 #[Z gl,.slice (some (K g off)) n cap] e λb c=>b=ad (.tuple #[])/\V8 gl gc (tE shut d ((List.range n).map M)) shut r e c:=by
 refine calls_of_loneTo λk=> ?_
 have b:Frame.enter prog 53 #[Z gl,.slice (some (K g off)) n cap] .normal=(base 53).at ⟨#[Z gl,.slice (some (K g off)) n cap,undef,undef,undef,undef,undef,undef,undef,undef,undef,undef,undef,undef,undef,undef,undef,undef,undef,undef,undef],[]⟩ [.code (f53.body.getD .skip)]:=by simp[Frame.enter,Frame.at,func53,base,f53]
 rw[b];refine LoneTo.goes (n:=20) ?_;simp only[f53,nb]
 s_c stepG_seq
 s_reg
 s_op
 s_op
 s_op
 s_c stepG_region_end
 s_c stepG_block
 s_c stepG_loop
 s_stop
 exact amw rfl (cap:=cap) (off:=off) (g:=g) (n:=n) (r:=r) (gl:=gl) (gc:=gc) (shut:=shut) k M f n 0 d a e (V8 gl gc (tE shut d ((List.range n).map M)) shut r e) undef undef undef undef undef undef undef undef undef undef undef undef undef undef undef undef (by omega) h i (λc l=>by simp_all)
end
section
open Go.RowKit Tryz
variable {a:List bA}{b:bT}{c:PId}
theorem fO.congr{D}{b:List bA}(h:fO a D)(c:∀y,bM b y=bM a y):fO b D:=
 ⟨λx o d=>h.br x o ((c x).symm.trans d),λx f=>h.fI x ((c x).symm.trans f),λy e g=>by
  obtain⟨o,i,j⟩:=h.el y e g
  simp_all⟩
theorem acx(c:b.aM≠1)(h:∀o,bM a b.eT=some o->hJ b o=o):∀y,bM (cC a b) y=bM a y:=by
 intro y;rw[EQ c];by_cases e:y=b.eT
 .subst e;rw[bn rfl];cases d:bM a b.eT with
  |none=>rfl
  |some o=>simp[h o d]
 simp_all
structure acy (R:List bA) (p:bT):Prop where
 aM:p.aM=1\/p.aM=2\/p.aM=3\/p.aM=4
 make:p.aM=1->bM R p.id=none
 lay:p.aM=2->p.id≠(0,0)/\∀x o,bM R x=some o->p.id∉o.ss.map cK.id
 place:p.aM=3\/p.aM=4->p.key≠⟨#[]⟩->p.hx=(0,0)
 dt:p.aM=3\/p.aM=4->∀x o,bM R x=some o->∀s∈o.ss,∀h∈s.aj,h.dt≠p.id
 obj:p.aM=3->∃o,bM R p.obj=some o
theorem acz{l:List cK}{key:ByteArray}(h:c∉l.map cK.id):di (gA key c) l<0:=by
 have :di (gA key c) l= -1:=by
  refine La λj b=> ?_
  cases a:gA key c l[j]with
  |false=>rfl
  |true=>exfalso;unfold gA at a;rw[YW,Gd]at a;have e:l[j].id=c:=a.2;exact h (e▸dF.2 ⟨_,dB b,rfl⟩)
 omega
theorem fO.any{D v}(h:fO a D)(y:ha D){n:Int}(d:acy a b)(g:pD D (C3 b n) v):fO (cC a b) v:=by
 rcases d.aM with l|l|l
 .exact h.step y ⟨d.aM,d.make,λe=>by omega,λe=>by omega,λe=>by omega⟩ g
 .by_cases m:∃o,bM a b.eT=some o/\o.aS=true/\(b.ik=(0,0)\/b.ik∈o.ss.map cK.id)
  .exact h.step y ⟨d.aM,d.make,λe=>⟨(d.lay e).1,(d.lay e).2,m⟩,λe=>by omega,λe=>by omega⟩ g
  have z:v=D:=by
   have i:¬b.aM=1:=by omega
   unfold pD C3 Mh at g;simp only[i,l,hQ,fM]at g;simp at g;rw[g];unfold nX;cases j:bV b.eT D.1 with
   |none=>rfl
   |some L=>
    cases c:bM a b.eT with
    |none=>rw[h.fI _ c]at j;cases j
    |some o=>
     obtain⟨P,r,B⟩:=h.br _ _ c;rw[j]at r;cases r;by_cases M:L.aS=false
     .simp[M]
     have f:o.aS=true:=by rw[<-B.aS];simp_all
     have C:¬b.ik=(0,0):=by simp_all
     simp only[M,C,fM];cases Q:bV b.ik D.2 with
     |none=>rfl
     |some e=>
      by_cases t:e.aS=b.eT
      .exfalso;obtain⟨W,i,q,u⟩:=h.el _ _ Q;rw[t,c]at i;cases i;exact m ⟨o,c,f,.inr u⟩
      simp[t]
  rw[z];refine h.congr (acx (by omega) λo c=> ?_);unfold hJ;rw[bn l];by_cases f:o.aS=true
  .rw[bn f];have C:¬b.ik=(0,0):=by simp_all
   have E:=acz (key:=⟨#[]⟩) (λe=>m ⟨o,c,f,.inr e⟩);have R:fv b.ik.1 b.ik.2 0 0=false:=by
    cases F:fv b.ik.1 b.ik.2 0 0 with
    |false=>rfl
    |true=>exfalso;exact C (show b.ik=(0,0) from Gd.1 F)
   unfold sm;rw[R,a7 (by simp),bn E]
  simp_all
 have I:=l;by_cases m:∃o,bM a b.eT=some o/\((o.aS=false/\b.key≠⟨#[]⟩/\b.hx=(0,0))\/(o.aS=true/\b.key=⟨#[]⟩/\b.hx∈o.ss.map cK.id))
 .obtain⟨o,c,p⟩:=m;refine h.step y ⟨d.aM,d.make,λe=>by omega,λ_=>⟨o,c,p,λx w=> ?_⟩,d.obj⟩ g;unfold ju at w;split at w
  .rename_i s S
   exact d.dt I _ _ c s (D9 S) x w
  cases w
 have N:mX D.1 D.2 b.eT b.key b.hx=false:=by
  unfold mX;by_cases k:b.key=⟨#[]⟩
  .rw[bn k];cases j:bV b.hx D.2 with
   |none=>rfl
   |some e=>
    by_cases t:e.aS=b.eT
    .exfalso;obtain⟨o,i,q,u⟩:=h.el _ _ j;rw[t]at i;exact m ⟨o,i,.inr ⟨q,k,u⟩⟩
    simp[t]
  rw[a7 k];cases j:bV b.eT D.1 with
  |none=>rfl
  |some L=>
   cases c:bM a b.eT with
   |none=>rw[h.fI _ c]at j;cases j
   |some o=>
    obtain⟨P,r,B⟩:=h.br _ _ c;rw[j]at r;cases r;have f:o.aS=true:=by
     cases F:o.aS with
     |true=>rfl
     |false=>exact absurd ⟨o,c,.inl ⟨F,k,d.place I k⟩⟩ m
    have :o0 b.eT D.1=true:=by unfold o0;rw[j];simp[B.aS,f]
    simp[this]
 have z:v=D:=by
  have i:¬b.aM=1:=by omega
  have q:¬b.aM=2:=by omega
  unfold pD C3 Mh at g;rcases l with l|l
  .simp only[i,q,l,hQ,fM,EH]at g;have U:Bg D b.eT b.key b.hx b.obj=false:=by unfold Bg;rw[N];rfl
   simpa[U]using g
  have u:¬b.aM=3:=by omega
  simp only[i,q,u,fM,EG,N]at g;simpa using g
 rw[z];refine h.congr (acx (by omega) λo c=> ?_);have q:¬b.aM=2:=by omega
 unfold hJ;rw[a7 q];by_cases p:o.aS=b.key.toList.isEmpty
 .rw[bn p];cases f:o.aS with
  |true=>
   have k:b.key=⟨#[]⟩:=by
    by_cases e:b.key=⟨#[]⟩
    .exact e
    rw[f,LQ e]at p;cases p
   have E:=acz (key:=b.key) (λe=>m ⟨o,c,.inr ⟨f,k,e⟩⟩);unfold mS;rw[bn E,bn rfl];cases o;simp at f;simp[f]
  |false=>
   exfalso;have k:b.key≠⟨#[]⟩:=λe=>by rw[f,e,aaO]at p;cases p
   exact m ⟨o,c,.inl ⟨f,k,d.place I k⟩⟩
 rw[a7 p]
structure rX (R:List bA) (I:List PId):Prop where
 obj:∀x o,bM R x=some o->x=(0,0)\/x∈I
 slot:∀x o,bM R x=some o->∀s∈o.ss,s.id=(0,0)\/s.id∈I
 dt:∀x o,bM R x=some o->∀s∈o.ss,∀h∈s.aj,h.dt∈I
theorem J0 {α:Type} {f:α->α} {x:α}:∀{l:List α} {k:Nat},x∈l.modify k f->x∈l\/∃y∈l,x=f y
 |[],k,h=>by simp at h
 |a::l,0,h=>by
  simp only[Y0,ft]at h;rcases h with rfl|h
  .simp
  simp_all
 |a::l,k+1,h=>by
  simp only[Y1,ft]at h;rcases h with rfl|h
  .simp
  rcases J0 h with h|⟨y,b,e⟩
  .simp_all
  exact .inr ⟨y,jk _ b,e⟩
theorem Wb{c:List PId}{b:List dr}{d:Int}{y h:dr}(a:h∈lA c b d y):h∈b\/h=y:=by
 rcases dZ.1 a with a|a
 .exact .inl (p4.1 a).1
 simp_all
theorem MP{l:List cK}{b:PId}{s:cK}(h:s∈sm l b c):s∈l\/s=qK ⟨#[]⟩ c:=by
 have d:∀n,s∈te l n (qK ⟨#[]⟩ c)->s∈l\/s=qK ⟨#[]⟩ c:=λn a=>by
  rcases dZ.1 a with a|a
  .exact .inl (mo a)
  rcases ft.1 a with rfl|a
  .simp
  exact .inl (tS a)
 unfold sm at h;split at h
 .exact d _ h
 split at h
 .simp_all
 exact d _ h
theorem acB{o:bA}{s:cK}(h:s∈(hJ b o).ss):(s.id=b.id/\s.aj=[])\/((s.id=(0,0)\/∃s0∈o.ss,s0.id=s.id/\∀x∈s.aj,x∈s0.aj\/x=b.held)/\((∃s0∈o.ss,∀x∈s.aj,x∈s0.aj\/x=b.held)\/∀x∈s.aj,x=b.held)):=by
 unfold hJ at h;split at h
 .split at h
  .rcases MP h with h|rfl
   .exact .inr ⟨.inr ⟨s,h,rfl,λx a=>.inl a⟩,.inl ⟨s,h,λx a=>.inl a⟩⟩
   exact .inl ⟨rfl,rfl⟩
  exact .inr ⟨.inr ⟨s,h,rfl,λx a=>.inl a⟩,.inl ⟨s,h,λx a=>.inl a⟩⟩
 split at h
 .unfold mS at h;split at h
  .split at h
   .exact .inr ⟨.inr ⟨s,h,rfl,λx a=>.inl a⟩,.inl ⟨s,h,λx a=>.inl a⟩⟩
   rcases dZ.1 h with h|h
   .exact .inr ⟨.inr ⟨s,h,rfl,λx a=>.inl a⟩,.inl ⟨s,h,λx a=>.inl a⟩⟩
   obtain rfl:=fR.1 h;refine .inr ⟨.inl rfl,.inr λx a=> ?_⟩;rcases Wb a with a|a
   .cases a
   omega
  rcases J0 h with h|⟨s0,c,rfl⟩
  .exact .inr ⟨.inr ⟨s,h,rfl,λx a=>.inl a⟩,.inl ⟨s,h,λx a=>.inl a⟩⟩
  exact .inr ⟨.inr ⟨s0,c,rfl,λx a=>Wb a⟩,.inl ⟨s0,c,λx a=>Wb a⟩⟩
 exact .inr ⟨.inr ⟨s,h,rfl,λx a=>.inl a⟩,.inl ⟨s,h,λx a=>.inl a⟩⟩
theorem rX.mx{R I}(h:rX R I)(p:bT):rX (cC R p) (p.id::I):=by
 by_cases k:p.aM=1
 .have f:∀x o,bM (cC R p) x=some o->bM R x=some o\/(x=p.id/\o.ss=[]):=λx o a=>by
   rw[Bl k]at a;cases c:bM R x with
   |some b=>rw[c]at a;exact .inl a
   |none=>
    rw[c]at a;simp only at a;split at a
    .rename_i e
     cases a
     simp_all
    cases a
  refine⟨λx o a=> ?_,λx o a s d=> ?_,λx o a s d y g=> ?_⟩
  .rcases f x o a with a|⟨rfl,_⟩
   .exact(h.obj x o a).imp id (jk _)
   simp
  .rcases f x o a with a|⟨_,e⟩
   .exact(h.slot x o a s d).imp id (jk _)
   simp_all
  rcases f x o a with a|⟨_,e⟩
  .exact jk _ (h.dt x o a s d y g)
  simp_all
 have f:∀x o,bM (cC R p) x=some o->∃b,bM R x=some b/\(o=b\/o=hJ p b):=λx o a=>by
  rw[EQ k]at a;split at a
  .cases c:bM R x with
   |none=>rw[c]at a;cases a
   |some b=>rw[c]at a;exact⟨b,rfl,.inr (by simp_all)⟩
  simp_all
 refine⟨λx o a=> ?_,λx o a s d=> ?_,λx o a s d y g=> ?_⟩
 .obtain⟨b,i,_⟩:=f x o a;exact(h.obj x b i).imp id (jk _)
 .obtain⟨b,i,e|e⟩:=f x o a
  .subst e;exact(h.slot x _ i s d).imp id (jk _)
  subst e;rcases acB d with⟨e,_⟩|⟨e|⟨s0,j,e,_⟩,_⟩
  .simp_all
  .simp_all
  rw[<-e];exact(h.slot x _ i s0 j).imp id (jk _)
 obtain⟨b,i,e|e⟩:=f x o a
 .subst e;exact jk _ (h.dt x _ i s d y g)
 subst e;rcases acB d with⟨_,e⟩|⟨_,⟨s0,j,c⟩|c⟩
 .simp_all
 .rcases c y g with g|rfl
  .exact jk _ (h.dt x _ i s0 j y g)
  exact kH
 rw[c y g];exact kH
theorem J1(p:bT)(h:∃o,bM a c=some o):∃o,bM (cC a p) c=some o:=by
 obtain⟨o,h⟩:=h;by_cases b:p.aM=1
 .rw[Bl b,h];simp
 rw[EQ b,h];split
 .simp
 simp
theorem acC{R:List bA}(a:b.aM=1):∃o,bM (cC R b) b.id=some o:=by
 rw[Bl a];cases bM R b.id with
 |some o=>exact⟨o,rfl⟩
 |none=>exact⟨_,bn rfl⟩
def HK:List PId->List PId->List bT->Prop
 |_,_,[]=>True
 |I,M,p::S=>(p.aM=1\/p.aM=2\/p.aM=3\/p.aM=4)/\p.id≠(0,0)/\p.id∉I/\(p.aM=3\/p.aM=4->p.key≠⟨#[]⟩->p.hx=(0,0))/\(p.aM=3->p.obj∈M)/\HK (p.id::I) (if p.aM=1 then p.id::M else M) S
theorem fO.all:∀(S:List bT) (f:Nat->Int) (R:List bA) (D b:cZ) (I M:List PId),fO R D->ha D->rX R I->(∀x∈M,∃o,bM R x=some o)->HK I M S->l1 D ((List.range S.length).map λi=>C3 (S.getD i ⟨(0,0),0,false,(0,0),⟨#[]⟩,(0,0),(0,0),0,(0,0),[]⟩) (f i)) b->fO (S.foldl cC R) b/\ha b
 |[],f,R,D,b,I,M,h,k,_,_,_,g=>by
  have e:b=D:=g
  simp_all
 |p::S,f,R,D,b,I,M,h,k,j,l,a,g=>by
  rw[iq,atM,ip,rz]at g;obtain⟨t,r,z⟩:=g;have u:acy R p:=⟨a.1,λ_=>by
    cases c:bM R p.id with
    |none=>rfl
    |some o=>
     rcases j.obj _ _ c with e|e
     .exact absurd e a.2.1
     exact absurd e a.2.2.1,
   λ_=>⟨a.2.1,λx o c v=>by
    obtain⟨s,m,e⟩:=dF.1 v;rcases j.slot x o c s m with n|n
    .exact a.2.1 (e.symm.trans n)
    exact a.2.2.1 (e▸n)⟩,a.2.2.2.1,λ_ x o c s m y w e=>a.2.2.1 (e▸j.dt x o c s m y w),λq=>l _ (a.2.2.2.2.1 q)⟩
  refine fO.all S (λi=>f (i+1)) (cC R p) t b (p.id::I) (if p.aM=1 then p.id::M else M) (h.any k u r) (k.step r) (j.mx p) (λx d=> ?_) a.2.2.2.2.2 ?_
  .split at d
   .rename_i q
    rcases ft.1 d with rfl|d
    .exact acC q
    exact J1 p (l x d)
   exact J1 p (l x d)
  assumption
end
