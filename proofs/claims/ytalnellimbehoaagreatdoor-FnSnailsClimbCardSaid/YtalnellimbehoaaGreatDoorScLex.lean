/- The order of the operations of one region of FnSnailsClimb: the order of the text serves. -/
import Derived.Test.YtalnellimbehoaaGreatDoorProg
import Derived.Test.YtalnellimbehoaaGreatDoorQuietC
namespace Go.Proofs.YtalnellimbehoaaGreatDoor
open Go.RowKit
set_option linter.unusedVariables false
namespace fnSnailsClimb
noncomputable def ops16 : Array Oper := ((Tryz.f3.body.bind (opsAt 16)).getD #[])
set_option maxRecDepth 100000
theorem n16 : ops16.size = 91 := by kernel_rfl
theorem s16 : Region.noSelect ops16 = true := by kernel_rfl
theorem e16 : (Region.ready .any ops16 (markK ops16.size ops16.size)).isEmpty = true := by kernel_rfl
theorem c16_0 : (List.range' 0 6).all (lexAt .any ops16) = true := by kernel_rfl
theorem c16_6 : (List.range' 6 6).all (lexAt .any ops16) = true := by kernel_rfl
theorem c16_12 : (List.range' 12 6).all (lexAt .any ops16) = true := by kernel_rfl
theorem c16_18 : (List.range' 18 6).all (lexAt .any ops16) = true := by kernel_rfl
theorem c16_24 : (List.range' 24 6).all (lexAt .any ops16) = true := by kernel_rfl
theorem c16_30 : (List.range' 30 6).all (lexAt .any ops16) = true := by kernel_rfl
theorem c16_36 : (List.range' 36 6).all (lexAt .any ops16) = true := by kernel_rfl
theorem c16_42 : (List.range' 42 6).all (lexAt .any ops16) = true := by kernel_rfl
theorem c16_48 : (List.range' 48 6).all (lexAt .any ops16) = true := by kernel_rfl
theorem c16_54 : (List.range' 54 6).all (lexAt .any ops16) = true := by kernel_rfl
theorem c16_60 : (List.range' 60 6).all (lexAt .any ops16) = true := by kernel_rfl
theorem c16_66 : (List.range' 66 6).all (lexAt .any ops16) = true := by kernel_rfl
theorem c16_72 : (List.range' 72 6).all (lexAt .any ops16) = true := by kernel_rfl
theorem c16_78 : (List.range' 78 6).all (lexAt .any ops16) = true := by kernel_rfl
theorem c16_84 : (List.range' 84 6).all (lexAt .any ops16) = true := by kernel_rfl
theorem c16_90 : (List.range' 90 1).all (lexAt .any ops16) = true := by kernel_rfl
theorem lex16 : Region.lexB .any ops16 = true := lexB_of _ _ s16 e16 (fun j hj => by
  rw [n16] at hj
  by_cases q0 : j < 6
  · exact lexAll c16_0 j (by omega) (by omega)
  by_cases q6 : j < 12
  · exact lexAll c16_6 j (by omega) (by omega)
  by_cases q12 : j < 18
  · exact lexAll c16_12 j (by omega) (by omega)
  by_cases q18 : j < 24
  · exact lexAll c16_18 j (by omega) (by omega)
  by_cases q24 : j < 30
  · exact lexAll c16_24 j (by omega) (by omega)
  by_cases q30 : j < 36
  · exact lexAll c16_30 j (by omega) (by omega)
  by_cases q36 : j < 42
  · exact lexAll c16_36 j (by omega) (by omega)
  by_cases q42 : j < 48
  · exact lexAll c16_42 j (by omega) (by omega)
  by_cases q48 : j < 54
  · exact lexAll c16_48 j (by omega) (by omega)
  by_cases q54 : j < 60
  · exact lexAll c16_54 j (by omega) (by omega)
  by_cases q60 : j < 66
  · exact lexAll c16_60 j (by omega) (by omega)
  by_cases q66 : j < 72
  · exact lexAll c16_66 j (by omega) (by omega)
  by_cases q72 : j < 78
  · exact lexAll c16_72 j (by omega) (by omega)
  by_cases q78 : j < 84
  · exact lexAll c16_78 j (by omega) (by omega)
  by_cases q84 : j < 90
  · exact lexAll c16_84 j (by omega) (by omega)
  exact lexAll c16_90 j (by omega) (by omega))
end fnSnailsClimb
end Go.Proofs.YtalnellimbehoaaGreatDoor
