/- Proved: facts on the sizes and zero values of the types of this translation. Conditions: none. -/
import Derived.Test.YtfaijmmajcmaoaaRows
import Derived.Test.YtfaijmmajcmaoaaLib
namespace Go.Proofs.Ytfaijmmajcmaoaa
open Go.RowKit
theorem rowPl : IsRow Try.prog 25 10 := ⟨.inr ⟨_, _, Try.underlying25⟩, by kernel_rfl⟩
theorem zeroPl : ZeroIs Try.prog 25 (u8s 10 fun _ => 0) := by unfold ZeroIs; kernel_rfl
theorem builtPl : Try.prog.built 25 [] = some (u8s 10 fun _ => 0) := by kernel_rfl
theorem rowB10 : IsRow Try.prog 24 10 := ⟨.inr ⟨_, _, Try.underlying24⟩, by kernel_rfl⟩
theorem zeroB10 : ZeroIs Try.prog 24 (u8s 10 fun _ => 0) := by unfold ZeroIs; kernel_rfl
theorem builtB10 : Try.prog.built 24 [] = some (u8s 10 fun _ => 0) := by kernel_rfl
theorem rowBo : IsRow Try.prog 72 10 := ⟨.inr ⟨_, _, Try.underlying72⟩, by kernel_rfl⟩
theorem zeroBo : ZeroIs Try.prog 72 (bls 10 fun _ => false) := by unfold ZeroIs; kernel_rfl
theorem builtBo : Try.prog.built 72 [] = some (bls 10 fun _ => false) := by kernel_rfl
theorem rowTa : IsRow Try.prog 35 100 := ⟨.inr ⟨_, _, Try.underlying35⟩, by kernel_rfl⟩
theorem zeroTa : ZeroIs Try.prog 35 (u8s 100 fun _ => 0) := by unfold ZeroIs; kernel_rfl
theorem builtTa : Try.prog.built 35 [] = some (u8s 100 fun _ => 0) := by kernel_rfl
theorem rowTb : IsRow Try.prog 34 100 := ⟨.inr ⟨_, _, Try.underlying34⟩, by kernel_rfl⟩
theorem rowSq : IsRow Try.prog 37 101 := ⟨.inl ⟨_, Try.underlying37⟩, by kernel_rfl⟩
theorem zeroSq : ZeroIs Try.prog 37 (sqc 0 fun _ => 0) := by unfold ZeroIs; kernel_rfl
theorem builtSq : Try.prog.built 37 [] = some (sqc 0 fun _ => 0) := by kernel_rfl
theorem rowSl : IsRow Try.prog 46 101 := ⟨.inl ⟨_, Try.underlying46⟩, by kernel_rfl⟩
end Go.Proofs.Ytfaijmmajcmaoaa
