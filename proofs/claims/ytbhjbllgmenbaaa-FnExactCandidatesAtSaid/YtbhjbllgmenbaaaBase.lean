/- Proved: facts on the sizes and zero values of the types of this translation. Conditions: none. -/
import Derived.Test.YtbhjbllgmenbaaaRows
import Derived.Test.YtbhjbllgmenbaaaLib
namespace Go.Proofs.Ytbhjbllgmenbaaa
set_option linter.unusedVariables false
set_option linter.unusedSimpArgs false
open Go.RowKit
theorem rowPl : IsRow Try.prog 71 10 := ⟨.inr ⟨_, _, Try.underlying71⟩, by kernel_rfl⟩
theorem zeroPl : ZeroIs Try.prog 71 (u8s 10 fun _ => 0) := by unfold ZeroIs; kernel_rfl
theorem builtPl : Try.prog.built 71 [] = some (u8s 10 fun _ => 0) := by kernel_rfl
theorem rowB10 : IsRow Try.prog 22 10 := ⟨.inr ⟨_, _, Try.underlying22⟩, by kernel_rfl⟩
theorem zeroB10 : ZeroIs Try.prog 22 (u8s 10 fun _ => 0) := by unfold ZeroIs; kernel_rfl
theorem builtB10 : Try.prog.built 22 [] = some (u8s 10 fun _ => 0) := by kernel_rfl
theorem rowBo : IsRow Try.prog 77 10 := ⟨.inr ⟨_, _, Try.underlying77⟩, by kernel_rfl⟩
theorem zeroBo : ZeroIs Try.prog 77 (bls 10 fun _ => false) := by unfold ZeroIs; kernel_rfl
theorem builtBo : Try.prog.built 77 [] = some (bls 10 fun _ => false) := by kernel_rfl
theorem rowTa : IsRow Try.prog 27 100 := ⟨.inr ⟨_, _, Try.underlying27⟩, by kernel_rfl⟩
theorem zeroTa : ZeroIs Try.prog 27 (u8s 100 fun _ => 0) := by unfold ZeroIs; kernel_rfl
theorem builtTa : Try.prog.built 27 [] = some (u8s 100 fun _ => 0) := by kernel_rfl
theorem rowTb : IsRow Try.prog 23 100 := ⟨.inr ⟨_, _, Try.underlying23⟩, by kernel_rfl⟩
theorem rowSq : IsRow Try.prog 29 101 := ⟨.inl ⟨_, Try.underlying29⟩, by kernel_rfl⟩
theorem zeroSq : ZeroIs Try.prog 29 (sqc 0 fun _ => 0) := by unfold ZeroIs; kernel_rfl
theorem builtSq : Try.prog.built 29 [] = some (sqc 0 fun _ => 0) := by kernel_rfl
theorem rowSl : IsRow Try.prog 25 101 := ⟨.inl ⟨_, Try.underlying25⟩, by kernel_rfl⟩
end Go.Proofs.Ytbhjbllgmenbaaa
