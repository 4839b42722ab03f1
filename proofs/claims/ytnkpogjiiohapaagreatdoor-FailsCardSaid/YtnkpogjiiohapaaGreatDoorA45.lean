/- The law Fails: for every script that the form reads the call answers true, and the script reads afterwards as it read before: the row and the card. Its conditions: the three tables that the translation lists lie as the program's text lays them; the card ties them to that text. -/
import Derived.Test.YtnkpogjiiohapaaGreatDoorA42
import Derived.Test.YtnkpogjiiohapaaGreatDoorA44
set_option linter.unusedSimpArgs false
set_option linter.unusedVariables false
set_option maxRecDepth 100000
namespace Go.Proofs.YtnkpogjiiohapaaGreatDoor
open Go.ChangeShapes Go.WideShapes Go.ChangeAt Go.RowKit
def anK:List Int:=[0,1,28,2,29,14,24,3,30,22,20,15,25,17,4,8,31,27,13,23,21,19,16,7,26,12,18,6,11,5,10,9]
def anL:List Int:=[0,1,56,2,57,49,28,3,61,58,42,50,38,29,17,4,62,47,59,36,45,43,51,22,53,39,33,30,24,18,12,5,63,55,48,27,60,41,37,16,46,35,44,21,52,32,23,11,54,26,40,15,34,20,31,10,25,14,19,9,13,8,7,6]
def TB (k:IntKind) (a:List Int):Obj->Obj
 |.cells _ t frozen=>.cells (a.map fun z=>Value.int k z).toArray t frozen
 |o=>o
def TC (w:World):World:={w with heap:=((w.heap.modify 1 (TB .u64 Lib.pow10Tab)).modify 2 (TB .u8 anK)).modify 3 (TB .u8 anL)}
theorem anM(a:Os):laidMet Tryz.prog Rows.failsRow.laid ((TC (World.holding Tryz.prog a ⟨#[],#[],[]⟩)).forCall (fun _ _=>0) ⟨#[],#[.slice none 0 0],[]⟩).memory:=
 laidMet_of_run' 8 (by kernel_rfl) (by kernel_rfl)
theorem reads (b:Os) {a:Type} (enc:TypeId×Value->a):∃places,DataW.whole enc Tryz.prog ((TC (World.holding Tryz.prog b ⟨#[],#[],[]⟩)).forCall (fun _ _=>0) ⟨#[],#[.slice none 0 0],[]⟩).memory Tryz.f5.params.toList Rows.failsSpec.vars false #[Value.slice none 0 0].toList 8=some ([.nil],[],places):=
 ⟨[],by kernel_rfl⟩
theorem lifted (b:Os) (d:b.Started) (a:Type) (enc:TypeId×Value->a) (F:Stop.Interp):
  ReturnsInHanded {} Tryz.checked b 5 .any ((OpenSpec.ofChange Rows.failsSpec).preRow enc Tryz.prog Tryz.f5 Rows.failsRow.domain false Rows.failsRow.laid) (((OpenSpec.ofChange Rows.failsSpec).at F).post enc Tryz.prog Tryz.f5 false true false false):=by
 obtain⟨places,e⟩:=reads b enc;refine returnsInHanded_of_row (C:=Tryz.checked) (s:=OpenSpec.ofChange Rows.failsSpec) anb d (by kernel_rfl) Tryz.func5
  (witness_row_at (enc:=enc) (C:=Tryz.checked) false (TC (World.holding Tryz.prog b ⟨#[],#[],[]⟩)) #[.slice none 0 0] rfl (by kernel_rfl) (by kernel_rfl) (by kernel_rfl)
   (OpenSpec.preRow_of_cond 8 e (by kernel_rfl) (fun k c=>by cases c) (by kernel_rfl) (anM b))) ?_
 intro W base args f g before h i _ _ c j _ _;exact contract a enc W base args f g before h i c j
theorem anN:Rows.FailsSaid:=
 OpenClaim.holds_of_cond 5 Tryz.f5 rfl rfl rfl rfl rfl rfl rfl ⟨rfl,rfl,rfl,rfl,rfl⟩ rfl rfl rfl rfl rfl (by kernel_rfl) Tryz.func5 anJ
  (of_decide_eq_true (by kernel_rfl)) (by unfold Func.isWrapper;first |(rw[if_pos (by decide+kernel)];kernel_rfl)|(rw[if_neg (by decide+kernel)];exact⟨rfl,rfl⟩))
  (fun b started a c _ F=>by rw[OpenClaim.pre_eq_preRow];exact lifted b started a c F)
theorem anO(f:FuncId)(a:Func)(c:Tryz.pinned.checked.prog.funcNamed Rows.failsRow.func=some f)(d:Tryz.pinned.checked.prog.funcs[f]?=some a):
  true=Tryz.pinned.checked.prog.looks []/\∀(j:Nat) t,a.params[j]?=some t->Tryz.pinned.checked.prog.wantsStandIn t=false:=by
 obtain rfl:f=5:=aqP ((show Tryz.prog.funcNamed Rows.failsRow.func=some 5 by kernel_rfl).symm.trans c)|>.symm
 obtain rfl:a=Tryz.f5:=(aqP (Tryz.func5.symm.trans d)).symm;refine⟨by kernel_rfl,fun j t b=> ?_⟩;rw[Tryz.params5]at b;obtain rfl:t=22:=by simpa using Array.mem_of_getElem? b
 exact(show Tryz.prog.wantsStandIn 22=false by kernel_rfl)
theorem fails_card:Rows.FailsCardSaid:=
 Claim7.holds_tied_plain_at .later [] _ _ _ _ anN (fun _ h=>by cases h) (by kernel_rfl) (fun _ h=>by cases h) fails_row_tie rfl ⟨rfl,rfl⟩ (by kernel_rfl) rfl anO (by kernel_rfl)
end Go.Proofs.YtnkpogjiiohapaaGreatDoor
