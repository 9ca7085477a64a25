/- The order of the operations of one region of FnTrainsPass: the order of the text serves. -/
import Derived.Test.YtokjmhkdcgkcoaaGreatDoorProg
import Derived.Test.YtokjmhkdcgkcoaaGreatDoorQuietC
namespace Go.Proofs.YtokjmhkdcgkcoaaGreatDoor
open Go.RowKit
set_option linter.unusedVariables false
namespace fnTrainsPass
noncomputable def ops12 : Array Oper := ((Tryz.f3.body.bind (opsAt 12)).getD #[])
set_option maxRecDepth 100000
theorem n12 : ops12.size = 89 := by kernel_rfl
theorem s12 : Region.noSelect ops12 = true := by kernel_rfl
theorem e12 : (Region.ready .any ops12 (markK ops12.size ops12.size)).isEmpty = true := by kernel_rfl
theorem c12_0 : (List.range' 0 6).all (lexAt .any ops12) = true := by kernel_rfl
theorem c12_6 : (List.range' 6 6).all (lexAt .any ops12) = true := by kernel_rfl
theorem c12_12 : (List.range' 12 6).all (lexAt .any ops12) = true := by kernel_rfl
theorem c12_18 : (List.range' 18 6).all (lexAt .any ops12) = true := by kernel_rfl
theorem c12_24 : (List.range' 24 6).all (lexAt .any ops12) = true := by kernel_rfl
theorem c12_30 : (List.range' 30 6).all (lexAt .any ops12) = true := by kernel_rfl
theorem c12_36 : (List.range' 36 6).all (lexAt .any ops12) = true := by kernel_rfl
theorem c12_42 : (List.range' 42 6).all (lexAt .any ops12) = true := by kernel_rfl
theorem c12_48 : (List.range' 48 6).all (lexAt .any ops12) = true := by kernel_rfl
theorem c12_54 : (List.range' 54 6).all (lexAt .any ops12) = true := by kernel_rfl
theorem c12_60 : (List.range' 60 6).all (lexAt .any ops12) = true := by kernel_rfl
theorem c12_66 : (List.range' 66 6).all (lexAt .any ops12) = true := by kernel_rfl
theorem c12_72 : (List.range' 72 6).all (lexAt .any ops12) = true := by kernel_rfl
theorem c12_78 : (List.range' 78 6).all (lexAt .any ops12) = true := by kernel_rfl
theorem c12_84 : (List.range' 84 5).all (lexAt .any ops12) = true := by kernel_rfl
theorem lex12 : Region.lexB .any ops12 = true := lexB_of _ _ s12 e12 (fun j hj => by
  rw [n12] at hj
  by_cases q0 : j < 6
  · exact lexAll c12_0 j (by omega) (by omega)
  by_cases q6 : j < 12
  · exact lexAll c12_6 j (by omega) (by omega)
  by_cases q12 : j < 18
  · exact lexAll c12_12 j (by omega) (by omega)
  by_cases q18 : j < 24
  · exact lexAll c12_18 j (by omega) (by omega)
  by_cases q24 : j < 30
  · exact lexAll c12_24 j (by omega) (by omega)
  by_cases q30 : j < 36
  · exact lexAll c12_30 j (by omega) (by omega)
  by_cases q36 : j < 42
  · exact lexAll c12_36 j (by omega) (by omega)
  by_cases q42 : j < 48
  · exact lexAll c12_42 j (by omega) (by omega)
  by_cases q48 : j < 54
  · exact lexAll c12_48 j (by omega) (by omega)
  by_cases q54 : j < 60
  · exact lexAll c12_54 j (by omega) (by omega)
  by_cases q60 : j < 66
  · exact lexAll c12_60 j (by omega) (by omega)
  by_cases q66 : j < 72
  · exact lexAll c12_66 j (by omega) (by omega)
  by_cases q72 : j < 78
  · exact lexAll c12_72 j (by omega) (by omega)
  by_cases q78 : j < 84
  · exact lexAll c12_78 j (by omega) (by omega)
  exact lexAll c12_84 j (by omega) (by omega))
end fnTrainsPass
end Go.Proofs.YtokjmhkdcgkcoaaGreatDoor
