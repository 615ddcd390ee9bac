/- Proved: facts on the sizes and zero values of the types of this translation. Conditions: none. -/
import Derived.Test.YtcmedefgpiegbabRows
import Derived.Test.YtcmedefgpiegbabLib
namespace Go.Proofs.Ytcmedefgpiegbab
set_option linter.unusedVariables false
set_option linter.unusedSimpArgs false
open Go.RowKit
theorem rowPl : IsRow Try.prog 26 10 := ⟨.inr ⟨_, _, Try.underlying26⟩, by kernel_rfl⟩
theorem zeroPl : ZeroIs Try.prog 26 (u8s 10 fun _ => 0) := by unfold ZeroIs; kernel_rfl
theorem builtPl : Try.prog.built 26 [] = some (u8s 10 fun _ => 0) := by kernel_rfl
theorem rowB10 : IsRow Try.prog 22 10 := ⟨.inr ⟨_, _, Try.underlying22⟩, by kernel_rfl⟩
theorem zeroB10 : ZeroIs Try.prog 22 (u8s 10 fun _ => 0) := by unfold ZeroIs; kernel_rfl
theorem builtB10 : Try.prog.built 22 [] = some (u8s 10 fun _ => 0) := by kernel_rfl
theorem rowBo : IsRow Try.prog 98 10 := ⟨.inr ⟨_, _, Try.underlying98⟩, by kernel_rfl⟩
theorem zeroBo : ZeroIs Try.prog 98 (bls 10 fun _ => false) := by unfold ZeroIs; kernel_rfl
theorem builtBo : Try.prog.built 98 [] = some (bls 10 fun _ => false) := by kernel_rfl
theorem rowTa : IsRow Try.prog 39 100 := ⟨.inr ⟨_, _, Try.underlying39⟩, by kernel_rfl⟩
theorem zeroTa : ZeroIs Try.prog 39 (u8s 100 fun _ => 0) := by unfold ZeroIs; kernel_rfl
theorem builtTa : Try.prog.built 39 [] = some (u8s 100 fun _ => 0) := by kernel_rfl
theorem rowTb : IsRow Try.prog 36 100 := ⟨.inr ⟨_, _, Try.underlying36⟩, by kernel_rfl⟩
theorem rowSq : IsRow Try.prog 41 101 := ⟨.inl ⟨_, Try.underlying41⟩, by kernel_rfl⟩
theorem zeroSq : ZeroIs Try.prog 41 (sqc 0 fun _ => 0) := by unfold ZeroIs; kernel_rfl
theorem builtSq : Try.prog.built 41 [] = some (sqc 0 fun _ => 0) := by kernel_rfl
theorem rowSl : IsRow Try.prog 38 101 := ⟨.inl ⟨_, Try.underlying38⟩, by kernel_rfl⟩
end Go.Proofs.Ytcmedefgpiegbab
