/- Our own text. -/
import Derived.Test.YtnkpogjiiohapaaGreatDoorA04
set_option linter.unusedSimpArgs false
set_option linter.unusedVariables false
set_option maxRecDepth 1000000
set_option maxHeartbeats 800000
namespace Go.Proofs.YtnkpogjiiohapaaGreatDoor
open Go.RowKit Tryz
structure la where
 q:Bool
 cF:List Nat
 oG:List (Nat×Nat)
structure gM where
 p:la
 oH:Value
 cl:Value
def gR (m:gM):List Value:=[.bool m.p.q,m.oH,m.cl]
def xy (x:Nat×Nat):List Value:=[A x.1,A x.2]
def pU (n:Nat):List Value:=[A n]
def lL (B:Nat) (w:World) (v:Value) (l:List Nat):Prop:=w.ownsRow B 3 1 v l.length (l.flatMap pU)
def ld (B:Nat) (w:World) (v:Value) (l:List (Nat×Nat)):Prop:=w.ownsRow B 258 2 v l.length (l.flatMap xy)
def tL (w:World) (m:gM):Prop:=lL 0 w m.oH m.p.cF/\ld 0 w m.cl m.p.oG
theorem tL.ak{w m}{w':World}(h:tL w m)(a:J w w'):tL w' m:=⟨dI h.1 a,dI h.2 a⟩
def WX (N:Nat) (a b:Int):Prop:=(0<=a/\a<N)/\(0<=b/\b<N)/\a≠b
theorem FI {w:World} {r N:Nat} {i j k:Value} {l:Nat->Value} {m:Nat->List bY} {n:Nat->Nat->Value} {p:Nat->Nat->Nat} (h:fS w r N i j k l m n p) (a b:Int) (q:¬WX N a b):
  O 155 #[Z r,A a,A b] w λe s=>e=ad (.tuple #[.pointer none,A 9])/\s=w:=by
 have c:=ag (vd h a);have d:=ag (vd h b);unfold WX at q;by_cases u:0<=a/\a<N
 .by_cases v:0<=b/\b<N
  .obtain rfl:a=b:=by omega
   have f:decide (0<=a/\a<(N:Int))=true:=by simp_all
   rw[f]at c d;go_enter func155,ntmps155;go_wp2_with fail
   refine c.o.mono ?_;rintro e g ⟨rfl,rfl⟩;go_wp2_with fail
   refine d.o.mono ?_;rintro e g ⟨rfl,rfl⟩;go_wp2;go_ret2
   simp
  have f:decide (0<=a/\a<(N:Int))=true:=by simp_all
  have t:decide (0<=b/\b<(N:Int))=false:=by simp_all
  rw[f]at c;rw[t]at d;go_enter func155,ntmps155;go_wp2_with fail
  refine c.o.mono ?_;rintro e g ⟨rfl,rfl⟩;go_wp2_with fail
  refine d.o.mono ?_;rintro e g ⟨rfl,rfl⟩;go_wp2;go_ret2
  simp
 have f:decide (0<=a/\a<(N:Int))=false:=by simp_all
 rw[f]at c;go_enter func155,ntmps155;go_wp2_with fail
 refine c.o.mono ?_;rintro e g ⟨rfl,rfl⟩;go_wp2_with fail
 refine d.o.mono ?_;rintro e g ⟨rfl,rfl⟩;go_wp2;go_ret2
 simp
