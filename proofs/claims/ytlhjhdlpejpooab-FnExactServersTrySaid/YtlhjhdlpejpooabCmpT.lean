/- The comparison of tickets in plain words. -/
import Derived.Test.YtlhjhdlpejpooabICmp
import Derived.Test.YtlhjhdlpejpooabRpMath
namespace Go.Proofs.Ytlhjhdlpejpooab
open Go.Shelf Go.RowKit Go.Lib Go.Sort
set_option linter.unusedVariables false
set_option linter.unusedSimpArgs false

theorem cmpT_cases (x y : Tic) : (TL x y ∧ cmpT x y = -1) ∨ (x = y ∧ cmpT x y = 0) ∨ (TL y x ∧ cmpT x y = 1) := by
  obtain ⟨x1, x2⟩ := x
  obtain ⟨y1, y2⟩ := y
  unfold TL cmpT orI Lib.compareInt
  simp only [Prod.mk.injEq]
  by_cases h1 : x2 < y2
  · simp [h1]
  · by_cases h2 : y2 < x2
    · simp [h1, h2]
    · by_cases h3 : x1 < y1
      · simp [h1, h2, h3]; omega
      · by_cases h4 : y1 < x1
        · simp [h1, h2, h3, h4]; omega
        · simp [h1, h2, h3, h4]; omega
theorem cmpT_neg (x y : Tic) : cmpT x y < 0 ↔ TL x y := by
  rcases cmpT_cases x y with ⟨h, e⟩ | ⟨h, e⟩ | ⟨h, e⟩
  · rw [e]; exact ⟨fun _ => h, fun _ => by decide⟩
  · rw [e]; subst h; exact ⟨fun h => absurd h (by decide), fun h => absurd h (TL.irr _)⟩
  · rw [e]; exact ⟨fun h => absurd h (by decide), fun k => absurd k (TL.asym h)⟩
theorem cmpT_zero (x y : Tic) : cmpT x y = 0 ↔ x = y := by
  rcases cmpT_cases x y with ⟨h, e⟩ | ⟨h, e⟩ | ⟨h, e⟩
  · rw [e]; exact ⟨fun h => absurd h (by decide), fun k => by subst k; exact absurd h (TL.irr _)⟩
  · rw [e]; exact ⟨fun _ => h, fun _ => rfl⟩
  · rw [e]; exact ⟨fun h => absurd h (by decide), fun k => by subst k; exact absurd h (TL.irr _)⟩

end Go.Proofs.Ytlhjhdlpejpooab
