/- sameWindows at equal lists. -/
import Derived.Test.YtkncnebfmidcpaaWdRow
import Derived.Test.YtkncnebfmidcpaaWSay
import Derived.BigQuiet
import Derived.Deep.QuietTactic
import Derived.Deep.Draws
namespace Go.Proofs.Ytkncnebfmidcpaa
open Go.RowKit
set_option linter.unusedVariables false
set_option linter.unusedSimpArgs false

set_option maxRecDepth 100000 in
set_option maxHeartbeats 4000000 in
theorem samew_any (u v : Value) (l : List Wd) (w : World) (h1 : Wds w u l) (h2 : Wds w v l) (hl : l.length ≤ 1048576) : Calls Try.prog 20 #[u, v] w (BoolW w true) := by
  obtain ⟨a1, c1, rfl, _, h1⟩ := h1
  obtain ⟨a2, c2, rfl, _, h2⟩ := h2
  have H1 := Lib.hid h1
  have H2 := Lib.hid h2
  clear h1 h2
  go_enter Try.func20, Try.ntmps20
  go_wp2_with fail
  go_loopw [5] (fun iv wr => ∃ j : Nat, j ≤ l.length ∧ iv = .int .i64 (j : Int) ∧ Hid (Below w.heap.size w wr)) (fun iv _ => l.length - (intOf iv).toNat)
  case atStart => exact ⟨0, Nat.zero_le _, rfl, Below.refl _ _⟩
  case round =>
    obtain ⟨j, hj, rfl, HB⟩ := hrel
    by_cases hlt : j < l.length
    · have hlt' : (j : Int) < (l.length : Int) := by omega
      obtain ⟨g1, o1, rfl, hc⟩ := H1.out (by rintro rfl; simp at hlt)
      obtain ⟨g2, o2, rfl, hc'⟩ := H2.out (by rintro rfl; simp at hlt)
      obtain ⟨d0, d1, d2, d3⟩ := (hc j hlt).below HB.out (hc j hlt).lt
      obtain ⟨e0, e1, e2, e3⟩ := (hc' j hlt).below HB.out (hc' j hlt).lt
      clear hc hc'
      generalize l.getD j wdD = p at *
      obtain ⟨x, y, z, t⟩ := p
      simp only at d0 d1 d2 d3 e0 e1 e2 e3
      go_wp2_with fail
      go_quiet (fail)
      have HB2 := Lib.hid (HB.out.trans ((Below.refl wr.heap.size wr).mono HB.out.size) |>.trans (show Below w.heap.size wr (wr.drewN nq) from ⟨rfl, rfl, rfl, Nat.le_refl _, fun _ _ => rfl⟩))
      go_wp2_with fail
      go_roundw
      case rel => exact ⟨j + 1, by omega, by go_num, HB2⟩
      case measure => simp [intOf]; omega
    · have hlt' : ¬ (j : Int) < (l.length : Int) := by omega
      go_wp2_with fail
      go_ret
      exact ⟨rfl, HB.out⟩
end Go.Proofs.Ytkncnebfmidcpaa
