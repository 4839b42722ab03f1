/- Our own text. -/
import Derived.Test.YtnkpogjiiohapaaGreatDoorA04
set_option linter.unusedSimpArgs false
set_option linter.unusedVariables false
set_option maxRecDepth 1000000
set_option maxHeartbeats 800000
namespace Go.Proofs.YtnkpogjiiohapaaGreatDoor
open Go.RowKit Tryz
structure jU where
 q:Bool
 heard:List Nat
 refs:List (Nat×Nat)
structure fm where
 p:jU
 mB:Value
 cf:Value
def fC (m:fm):List Value:=[.bool m.p.q,m.mB,m.cf]
def uQ (x:Nat×Nat):List Value:=[A x.1,A x.2]
def pw (n:Nat):List Value:=[A n]
def kH (B:Nat) (w:World) (v:Value) (l:List Nat):Prop:=w.ownsRow B 3 1 v l.length (l.flatMap pw)
def jE (B:Nat) (w:World) (v:Value) (l:List (Nat×Nat)):Prop:=w.ownsRow B 258 2 v l.length (l.flatMap uQ)
def qO (w:World) (m:fm):Prop:=kH 0 w m.mB m.p.heard/\jE 0 w m.cf m.p.refs
theorem qO.ae{w m}{w':World}(h:qO w m)(a:J w w'):qO w' m:=⟨c7 h.1 a,c7 h.2 a⟩
def R9 (N:Nat) (a b:Int):Prop:=(0<=a/\a<N)/\(0<=b/\b<N)/\a≠b
theorem Ck{w r N m n p q s t u}(h:e8 w r N m n p q s t u)(a b:Int)(g:¬R9 N a b):
  O 155 #[Z r,A a,A b] w fun e v=>e=.returned (.tuple #[.pointer none,A 9])/\v=w:=by
 have f:=aa (xU h a);have i:=aa (xU h b);clear h;unfold R9 at g;by_cases d:0<=a/\a<N
 ·by_cases k:0<=b/\b<N
  ·obtain rfl:a=b:=by
    by_cases e:a=b
    ·exact e
    exact absurd ⟨d,k,e⟩ g
   have c:decide (0<=a/\a<(N:Int))=true:=by simpa using d
   rw[c]at f i;clear g d k c;go_enter func155,ntmps155;go_wp2_with fail
   refine f.o.mono ?_;rintro e j ⟨rfl,rfl⟩;go_wp2_with fail
   refine i.o.mono ?_;rintro e j ⟨rfl,rfl⟩;go_wp2;go_ret2
   exact⟨rfl,rfl⟩
  have c:decide (0<=a/\a<(N:Int))=true:=by simpa using d
  have l:decide (0<=b/\b<(N:Int))=false:=by simpa using k
  rw[c]at f;rw[l]at i;clear g d k c l;go_enter func155,ntmps155;go_wp2_with fail
  refine f.o.mono ?_;rintro e j ⟨rfl,rfl⟩;go_wp2_with fail
  refine i.o.mono ?_;rintro e j ⟨rfl,rfl⟩;go_wp2;go_ret2
  exact⟨rfl,rfl⟩
 have c:decide (0<=a/\a<(N:Int))=false:=by simpa using d
 rw[c]at f;clear g d c;go_enter func155,ntmps155;go_wp2_with fail
 refine f.o.mono ?_;rintro e j ⟨rfl,rfl⟩;go_wp2_with fail
 refine i.o.mono ?_;rintro e j ⟨rfl,rfl⟩;go_wp2;go_ret2
 exact⟨rfl,rfl⟩
end Go.Proofs.YtnkpogjiiohapaaGreatDoor
