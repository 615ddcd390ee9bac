/- Proved: facts on the sizes and zero values of the types of this translation. Conditions: none. -/
import Derived.Test.YtbhjbllgmenbaabRows
import Derived.Test.YtbhjbllgmenbaabLib
namespace Go.Proofs.Ytbhjbllgmenbaab
set_option linter.unusedVariables false
set_option linter.unusedSimpArgs false
open Go.RowKit
theorem rowPl : IsRow Try.prog 97 10 := ⟨.inr ⟨_, _, Try.underlying97⟩, by kernel_rfl⟩
theorem zeroPl : ZeroIs Try.prog 97 (u8s 10 fun _ => 0) := by unfold ZeroIs; kernel_rfl
theorem builtPl : Try.prog.built 97 [] = some (u8s 10 fun _ => 0) := by kernel_rfl
theorem rowB10 : IsRow Try.prog 22 10 := ⟨.inr ⟨_, _, Try.underlying22⟩, by kernel_rfl⟩
theorem zeroB10 : ZeroIs Try.prog 22 (u8s 10 fun _ => 0) := by unfold ZeroIs; kernel_rfl
theorem builtB10 : Try.prog.built 22 [] = some (u8s 10 fun _ => 0) := by kernel_rfl
theorem rowBo : IsRow Try.prog 85 10 := ⟨.inr ⟨_, _, Try.underlying85⟩, by kernel_rfl⟩
theorem zeroBo : ZeroIs Try.prog 85 (bls 10 fun _ => false) := by unfold ZeroIs; kernel_rfl
theorem builtBo : Try.prog.built 85 [] = some (bls 10 fun _ => false) := by kernel_rfl
theorem rowTa : IsRow Try.prog 30 100 := ⟨.inr ⟨_, _, Try.underlying30⟩, by kernel_rfl⟩
theorem zeroTa : ZeroIs Try.prog 30 (u8s 100 fun _ => 0) := by unfold ZeroIs; kernel_rfl
theorem builtTa : Try.prog.built 30 [] = some (u8s 100 fun _ => 0) := by kernel_rfl
theorem rowTb : IsRow Try.prog 23 100 := ⟨.inr ⟨_, _, Try.underlying23⟩, by kernel_rfl⟩
theorem rowSq : IsRow Try.prog 32 101 := ⟨.inl ⟨_, Try.underlying32⟩, by kernel_rfl⟩
theorem zeroSq : ZeroIs Try.prog 32 (sqc 0 fun _ => 0) := by unfold ZeroIs; kernel_rfl
theorem builtSq : Try.prog.built 32 [] = some (sqc 0 fun _ => 0) := by kernel_rfl
theorem rowSl : IsRow Try.prog 25 101 := ⟨.inl ⟨_, Try.underlying25⟩, by kernel_rfl⟩
end Go.Proofs.Ytbhjbllgmenbaab
