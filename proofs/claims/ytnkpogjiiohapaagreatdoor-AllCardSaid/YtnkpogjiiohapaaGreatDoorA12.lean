/- Our own text. -/
import Derived.Shelf.Spec.SlicesInsert
import Derived.Lib.AppendZerosOnto
import Derived.Test.YtnkpogjiiohapaaGreatDoorA11
set_option linter.unusedSimpArgs false
set_option linter.unusedVariables false
set_option maxRecDepth 1000000
set_option maxHeartbeats 4000000
namespace Go.Proofs.YtnkpogjiiohapaaGreatDoor
section
open Go.RowKit Go.Proofs Tryz
variable {a b:Nat}
theorem Qd{P:Program}(w:World)(h n p d:TypeId)(g o e q:Nat)(a:Addr)(f r k:Nat)(c:Array Value)(t:TypeId)(b:List Value)(s:P.underlying h=some (.slice d))(u:(P.info? d).map (·.size)=some k)(x:w.heap[g]?=some (.cells c t))(y:b.length=Nat.min f e*k)(z:∀j v,b[j]?=some v->w.cell? (a.add j)=some v)(D:o+b.length<=c.size)(B:∀v∈b,v.oneCell'=true):
  (Builtin.copy_ #[h,n] p #[.slice (some (K g o)) e q,.slice (some a) f r]).run P w=
   .ok (goInt (Nat.min f e)) (w.setRow g (c.toList.take o++b++c.toList.drop (o+b.length)).toArray):=by
 have l:=run_loadCells_list (P:=P) w a b z;cases m:P.info? d with
 |none=>simp[m]at u
 |some i=>
  have C:i.size=k:=by simp_all
  rw[y]at l;simp[Builtin.copy_,xM s,Builtin.lenOf,Builtin.firstCells,sizeOf,typeInfo,m,C,l,run_storeCells_at P g o t b 0 c w x (by omega) B]
theorem aks{e d X:List Value}{c:Nat}(k:e.length=c*4)(l:e.take (b*4)=d)(h:X.length=4)(q:a<b)(r:b+1<=c):
  (e.take ((a+1)*4)++d.drop (a*4)++e.drop ((a+1)*4+(d.drop (a*4)).length)).length=c*4/\
  ∀f,f=e.take ((a+1)*4)++d.drop (a*4)++e.drop ((a+1)*4+(d.drop (a*4)).length)->(f.take (a*4)++X++f.drop (a*4+X.length)).length=c*4/\(f.take (a*4)++X++f.drop (a*4+X.length)).take ((b+1)*4)=d.take (a*4)++X++d.drop (a*4):=by
 have i:d.length=b*4:=by rw[<-l,gU];omega
 have g:(d.drop (a*4)).length=(b-a)*4:=by rw[ly,i];omega
 have m:(e.take ((a+1)*4)).length=a*4+4:=by rw[gU];omega
 refine⟨by simp only[dh,ly,m,g,i,k];omega,λf n=> ?_⟩;have o:f.take (a*4)=d.take (a*4):=by rw[n,kr,Ay (by omega),Gb,<-l,Gb];congr 1;omega
 have p:f.drop (a*4+X.length)=d.drop (a*4)++e.drop ((a+1)*4+(d.drop (a*4)).length):=by simp_all
 rw[o,p];have j:(d.take (a*4)).length=a*4:=by rw[gU];omega
 refine⟨by simp only[dh,ly,j,g,i,k,h];omega,?_⟩;rw[<-kr,Ay (by simp only[dh,j,g,h];omega),kp (by simp only[dh,j,g,h];omega)]
theorem abh{l:List ay}{x:ay}(b:a<l.length):(l.take a++x::l.drop a).flatMap ec=(l.flatMap ec).take (a*4)++ec x++(l.flatMap ec).drop (a*4):=by
 have c:((l.take a).flatMap ec).length=a*4:=by rw[rB ec 4 (λ_=>rfl),gU];omega
 have d:l.flatMap ec=(l.take a).flatMap ec++(l.drop a).flatMap ec:=by rw[<-oL,za]
 simp_all
theorem L7:(prog.info? 210).map (·.size)=some 4:=by kernel_rfl
theorem akt(w:World):(Go.sizeOf 210).run prog w=.ok 4 w:=by
 have h:=L7;cases a:prog.info? 210 with
 |none=>rw[a]at h;cases h
 |some i=>
  rw[a]at h;have b:i.size=4:=by simp_all
  simp[sizeOf,typeInfo,a,b]
theorem aku {w:World} {l:List ay} {d:Array Value} (s:w.heap[a]?=some (.cells d 210)) (F:d.size=b*4) (I:d.toList.take (l.length*4)=l.flatMap ec) (L:l.length+1<=b) (dM:b<=9223372036854775807) (x:ay) (g:Nat) (t:w.heap[g]?=some (.cells (ec x).toArray 210 (0,0))) (M:g≠a) (i:Nat) (N:i<l.length) (hl:l.length<=100000):
  O 212 #[aa a l.length b,A i,aa g 1 1] w λe Q=>e=ad (aa a (l.length+1) b)/\eV 0 Q (aa a (l.length+1) b) (l.take i++x::l.drop i)/\aR (λk=>k=a) w Q:=by
 have EJ:∀z B,(callFunc 233 #[aa g 1 1,.slice (some (K a ((i+1)*4))) z B]).run prog w=.ok (.value (.bool false)) w:=λz B=>by
  rw[af2 func233 (by rfl) (by rfl) (by kernel_rfl) (e:=Extern.SlicesOverlaps.overlaps #[202,202] #[4]) (by kernel_rfl),
   Lib.run_overlaps_apart w 202 4 210 underlying202 4 akt (H g) (K a ((i+1)*4)) 1 1 z B M 210 210 4 (b*4) (by simp[World.shape?,t,ec]) (by simp[World.shape?,s,F]) (by omega) (by simp[World.frozen?,t]) (by simp[World.frozen?,t])]
  rfl
 have hz2:¬((i:Int)=(l.length:Int)):=by omega
 have jR:IntKind.i64.wrap ((i:Int)+1)=(i:Int)+1:=mN _ (by omega);have h3:i<=l.length:=by omega
 have GY:((i:Int)+1).toNat=i+1:=by omega
 have bo:¬(b=i+1):=by omega
 have bu:(i:Int)<=(l.length:Int)+1:=by omega
 have hY:¬(b=i):=by omega
 have nU:¬((b:Int)<(l.length:Int)+1):=by omega
 have om:(0:Int)<=(i:Int):=by simp
 have aA:(0:Int)<=(i:Int)+1:=by omega
 have mixed:prog.follows .mixedOrders=true:=by rfl
 have Bi:(i:Int)<=(l.length:Int):=by omega
 have oU:=rB ec 4 (λ_=>rfl) l;have kL:d.toList.length=b*4:=by omega
 have R:∀j v,(l.flatMap ec)[j]?=some v->w.cell? (K a j)=some v:=λj v q=>by
  rw[zb w a j d 210 (0,0) s];rw[<-I,wq]at q
  simp_all
 have S:∀v∈l.flatMap ec,v.oneCell'=true:=λv C=>by obtain⟨o,_,al⟩:=lg.1 C;exact CW o v al
 obtain⟨c,u⟩:∃c,c=(d.toList.take ((i+1)*4)++(l.flatMap ec).drop (i*4)++d.toList.drop ((i+1)*4+((l.flatMap ec).drop (i*4)).length)).toArray:=⟨_,rfl⟩;have U:((l.flatMap ec).drop (i*4)).length=(l.length-i)*4:=by rw[ly,oU];omega
 have L9:∀m n D,(Builtin.copy_ #[202,202] m #[.slice (some (K a ((i+1)*4))) (l.length-i) n,.slice (some (K a (i*4))) (l.length+1-i) D]).run prog w.drew=.ok (goInt (l.length-i:Nat)) (w.drew.setRow a c):=λm n D=>by
  have r:Nat.min (l.length+1-i) (l.length-i)=l.length-i:=by simp only[af3];split <;>omega
  have :=Qd (P:=prog) w.drew 202 202 m 210 a ((i+1)*4) (l.length-i) n (K a (i*4)) (l.length+1-i) D 4 d 210 ((l.flatMap ec).drop (i*4)) underlying202 L7 s (by rw[U,r]) (λj v q=>by rw[SS];exact R _ v (by rwa [YY]at q)) (by rw[U,F];omega) (λv C=>S v (tS C))
  rw[r,<-u]at this;exact this
 obtain⟨W,Y⟩:=aks (X:=ec x) kL I rfl N L;have UL:c.size=b*4:=by rw[u];simpa using W
 obtain⟨abi,abj⟩:=Y c.toList (by rw[u]);obtain⟨f,y⟩:∃f,f=(c.toList.take (i*4)++ec x++c.toList.drop (i*4+(ec x).length)).toArray:=⟨_,rfl⟩;have abk:(w.drew.setRow a c).heap[a]?=some (.cells c 210):=OG w.drew a d c 210 (0,0) s;have E:∀k,k≠a->(w.drew.setRow a c).heap[k]?=w.heap[k]?:=λk p=>SU w.drew a k c p
 have G6:∀m n,(Builtin.copy_ #[202,202] m #[.slice (some (K a (i*4))) (l.length+1-i) n,aa g 1 1]).run prog (w.drew.setRow a c)=.ok (goInt (1:Nat)) ((w.drew.setRow a c).setRow a f):=λm n=>by
  have r:Nat.min 1 (l.length+1-i)=1:=by simp only[af3];split <;>omega
  have :=Qd (P:=prog) (w.drew.setRow a c) 202 202 m 210 a (i*4) (l.length+1-i) n (H g) 1 1 4 c 210 (ec x) underlying202 L7 abk (by rw[r];rfl) (λj v q=>by rw[SS,sY,zb _ g j _ 210 (0,0) ((E g M).trans t)];simpa using q) (by rw[UL];show i*4+4<=_;omega) (CW x)
  rw[r,<-y]at this;exact this
 have akv:=OG _ a c f 210 (0,0) abk;have G7:=λk p=>(SU _ a k f p).trans (E k p)
 have ib:=show eV 0 ((w.drew.setRow a c).setRow a f) (aa a (l.length+1) b) (l.take i++x::l.drop i) from by
  have hlen:(l.take i++x::l.drop i).length=l.length+1:=by simp;omega
  have akw:=abh (x:=x) N;unfold eV;rw[hlen];refine⟨by rw[rB ec 4 (λ_=>rfl),hlen],.inr ⟨a,b,f,rfl,b6 _,akv,L,by unfold maxLen;omega,by rw[y];simpa using abi,?_⟩⟩;rw[akw,<-abj,y]
 have gY:=show aR (λk=>k=a) w ((w.drew.setRow a c).setRow a f) from⟨rfl,rfl,rfl,by rw[SV,SV];exact bW _,λk _ p=>G7 k p⟩
 clear y u abj abi Y W G7 E R S;go_enter func212,ntmps212;go_wp2_with (simp only[EJ])
 go_region_law_o (refine step_copy_runI rfl _ _ 202 202 rfl (.slice (some (K a ((i+1)*4))) (l.length-i) (b-(i+1))) (.slice (some (K a (i*4))) (l.length+1-i) (b-i)) (by simp[Act.eval,Act.put]) (by simp[Act.eval,Act.put]) (L9 _ _ _) ?_)
 go_wp2_with (at_builtin;refine wpList_copy_runI _ rfl _ _ 202 202 rfl _ _ rfl rfl (G6 _ _) ?_)
 go_ret
 exact⟨rfl,ib,gY⟩
end
section
open Go.RowKit Tryz
attribute [local go_sem ↓] Go.wp_at_zero Go.wp_at_succ
def iM (k:Nat):List Value:=[Z k]
def o4 (B:Nat) (w:World) (v:Value) (l:List Nat):Prop:=w.ownsRow B 101 1 v l.length (l.flatMap iM)
theorem Qf{w:World}{g:Nat}{a b c d e u:Value}{t:TypeId}(h:w.heap[g]?=some (.cells #[a,b,c,d,e] t)):(w.setCell (K g 2) u).heap[g]?=some (.cells #[a,b,u,d,e] t):=by obtain⟨_,f⟩:=e8.1 h;simp[World.setCell,aU h,xR,f]
theorem Qg{w:World}{g:Nat}{a b c d e u:Value}{t:TypeId}(h:w.heap[g]?=some (.cells #[a,b,c,d,e] t)):(w.setCell (K g 3) u).heap[g]?=some (.cells #[a,b,c,u,e] t):=by obtain⟨_,f⟩:=e8.1 h;simp[World.setCell,aU h,xR,f]
theorem aR.up{S:Nat->Prop}{w a:World}{b:Option Nat}(h:w.grownBy a b)(c:∀k,b=some k->S k):aR S w a:=
 ⟨h.os,h.tape,h.output,h.size,λk d f=>h.block k d (λe=>f (c k e.symm))⟩
theorem dE{w:World}{g o k:Nat}{u:Value}(h:k≠g):(w.setCell (K g o) u).heap[k]?=w.heap[k]?:=by simp[World.setCell,D4,eE h]
theorem aR.it{S:Nat->Prop}{w:World}{g o:Nat}(u:Value)(a:S g):aR S w (w.setCell (K g o) u):=
 ⟨rfl,rfl,rfl,by simp,λk _ b=>dE (λe=>b (e▸a))⟩
theorem lB.mono{w' v v'}{w:World}(h:lB w' v v')(a:w.heap.size<=w'.heap.size):lB w v v':=h.imp id λh k b=>cd a (h k b)
end
