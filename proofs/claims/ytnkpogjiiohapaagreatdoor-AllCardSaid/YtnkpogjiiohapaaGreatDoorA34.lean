/- The law All: for every script that the form reads the call answers true, and the script reads afterwards as it read before: the row and the card. Its conditions: the three tables that the translation lists lie as the program's text lays them; the card ties them to that text. -/
import Derived.Test.YtnkpogjiiohapaaGreatDoorA31
import Derived.Test.YtnkpogjiiohapaaGreatDoorA33
set_option linter.unusedSimpArgs false
set_option linter.unusedVariables false
set_option maxRecDepth 100000
namespace Go.Proofs.YtnkpogjiiohapaaGreatDoor
open Go.ChangeShapes Go.WideShapes Go.ChangeAt Go.RowKit
def ats:List Int:=[0,1,28,2,29,14,24,3,30,22,20,15,25,17,4,8,31,27,13,23,21,19,16,7,26,12,18,6,11,5,10,9]
def att:List Int:=[0,1,56,2,57,49,28,3,61,58,42,50,38,29,17,4,62,47,59,36,45,43,51,22,53,39,33,30,24,18,12,5,63,55,48,27,60,41,37,16,46,35,44,21,52,32,23,11,54,26,40,15,34,20,31,10,25,14,19,9,13,8,7,6]
def YB (k:IntKind) (a:List Int):Obj->Obj
 |.cells _ t frozen=>.cells (a.map λz=>Value.int k z).toArray t frozen
 |o=>o
def YC (w:World):World:={w with heap:=((w.heap.modify 1 (YB .u64 Lib.pow10Tab)).modify 2 (YB .u8 ats)).modify 3 (YB .u8 att)}
theorem atu (a:Os):laidMet Tryz.prog Rows.allRow.laid ((YC (World.holding Tryz.prog a ⟨#[],#[],[]⟩)).forCall (λ_ _=>0) ⟨#[],#[.slice none 0 0],[]⟩).memory:=
 laidMet_of_run' 8 (by kernel_rfl) (by kernel_rfl)
theorem reads (b:Os) {a:Type} (enc:TypeId×Value->a):∃places,DataW.whole enc Tryz.prog ((YC (World.holding Tryz.prog b ⟨#[],#[],[]⟩)).forCall (λ_ _=>0) ⟨#[],#[.slice none 0 0],[]⟩).memory Tryz.f6.params.toList Rows.allSpec.vars false #[Value.slice none 0 0].toList 8=some ([.nil],[],places):=
 ⟨[],by kernel_rfl⟩
theorem lifted (b:Os) (d:b.Started) (a:Type) (enc:TypeId×Value->a) (F:Stop.Interp):
  ReturnsInHanded {} Tryz.checked b 6 .any ((OpenSpec.ofChange Rows.allSpec).preRow enc Tryz.prog Tryz.f6 Rows.allRow.domain false Rows.allRow.laid) (((OpenSpec.ofChange Rows.allSpec).at F).post enc Tryz.prog Tryz.f6 false true false false):=by
 obtain⟨places,e⟩:=reads b enc;refine returnsInHanded_of_row (C:=Tryz.checked) (s:=OpenSpec.ofChange Rows.allSpec) asV d (by kernel_rfl) Tryz.func6
  (witness_row_at (enc:=enc) (C:=Tryz.checked) false (YC (World.holding Tryz.prog b ⟨#[],#[],[]⟩)) #[.slice none 0 0] rfl (by kernel_rfl) (by kernel_rfl) (by kernel_rfl)
   (OpenSpec.preRow_of_cond 8 e (by kernel_rfl) (λk c=>by cases c) (by kernel_rfl) (atu b))) ?_
 intro W base args f g before h i _ _ c j _ _;exact contract a enc W base args f g before h i c j
theorem atv:Rows.AllSaid:=
 OpenClaim.holds_of_cond 6 Tryz.f6 rfl rfl rfl rfl rfl rfl rfl ⟨rfl,rfl,rfl,rfl,rfl⟩ rfl rfl rfl rfl rfl (by kernel_rfl) Tryz.func6 atr
  (S6 (by kernel_rfl)) (by unfold Func.isWrapper;first |(rw[bn (by decide+kernel)];kernel_rfl)|(rw[a7 (by decide+kernel)];exact⟨rfl,rfl⟩))
  (λb started a c _ F=>by rw[OpenClaim.pre_eq_preRow];exact lifted b started a c F)
theorem atw(f:FuncId)(a:Func)(c:Tryz.pinned.checked.prog.funcNamed Rows.allRow.func=some f)(d:Tryz.pinned.checked.prog.funcs[f]?=some a):
  true=Tryz.pinned.checked.prog.looks []/\∀(j:Nat) t,a.params[j]?=some t->Tryz.pinned.checked.prog.wantsStandIn t=false:=by
 obtain rfl:f=6:=ta ((show Tryz.prog.funcNamed Rows.allRow.func=some 6 by kernel_rfl).symm.trans c)|>.symm
 obtain rfl:a=Tryz.f6:=(ta (Tryz.func6.symm.trans d)).symm;refine⟨by kernel_rfl,λj t b=> ?_⟩;rw[Tryz.params6]at b;obtain rfl:t=22:=by simpa using Array.mem_of_getElem? b
 exact(show Tryz.prog.wantsStandIn 22=false by kernel_rfl)
theorem all_card:Rows.AllCardSaid:=
 Claim7.holds_tied_plain_at .later [] _ _ _ _ atv (λ_ h=>by cases h) (by kernel_rfl) (λ_ h=>by cases h) all_row_tie rfl ⟨rfl,rfl⟩ (by kernel_rfl) rfl atw (by kernel_rfl)
end Go.Proofs.YtnkpogjiiohapaaGreatDoor
