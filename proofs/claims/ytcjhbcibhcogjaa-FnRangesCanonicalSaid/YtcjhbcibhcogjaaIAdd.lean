/- The program's RangesAdd. -/
import Derived.Test.YtcjhbcibhcogjaaIUn
namespace Go.Proofs.Ytcjhbcibhcogjaa
open Go.RowKit
set_option linter.unusedVariables false
set_option linter.unusedSimpArgs false

theorem radd_union (l : List (Int × Int)) (lo hi : Int) : runionOk l [(lo, hi)] = raddOk l lo hi ∧ runion l [(lo, hi)] = radd l lo hi := by
  have e : runionOk l [(lo, hi)] = raddOk l lo hi := by
    unfold runionOk raddOk
    have : rvalid [(lo, hi)] = spanOk lo hi := by simp [rvalid, vfrom, spanOk]
    rw [this]; rfl
  refine ⟨e, ?_⟩
  unfold runion radd
  rw [e]; rfl
theorem rngs_one (w : World) (lo hi : Int) : Rngs (w.alloc (.cells #[.int .i64 lo, .int .i64 hi] 40)) (.slice (some ⟨w.heap.size, 0, none⟩) 1 1) [(lo, hi)] := by
  refine ⟨_, _, rfl, fun _ => ⟨_, _, rfl, fun i hi => ?_⟩⟩
  have h0 : i = 0 := by simpa using hi
  subst h0
  exact ⟨cell_two_new w _ _ _ 0 _ rfl, cell_two_new w _ _ _ 1 _ rfl⟩

set_option maxRecDepth 100000 in
set_option maxHeartbeats 400000 in
theorem iradd_any (v : Value) (l : List (Int × Int)) (lo hi : Int) (w : World) (h : Rngs w v l) (hlen : l.length ≤ 1048576) :
    Calls Try.prog 16 #[v, .int .i64 lo, .int .i64 hi] w (RgPost w (radd l lo hi) (raddOk l lo hi)) := by
  have HV := Lib.hid h
  clear h
  go_enter Try.func16, Try.ntmps16
  go_wp2_with fail
  have hal := (Below.refl w.heap.size w).alloc (Nat.le_refl _) (.cells #[.int .i64 lo, .int .i64 hi] 40)
  refine (iunion_any v _ l [(lo, hi)] _ (HV.out.below hal) (rngs_one w lo hi) hlen (by simp)).mono ?_
  rintro e w2 ⟨v2, rfl, hb, ho, hn⟩
  rw [(radd_union l lo hi).1]
  rw [(radd_union l lo hi).2] at ho
  have B := Lib.hid (hal.trans (hb.mono hal.size))
  have O := Lib.hid (ho.lower hal.size)
  have N := Lib.hid hn
  clear hb ho hn hal
  go_wp2_with fail
  go_ret2
  exact ⟨_, rfl, B.out, O.out, N.out⟩

end Go.Proofs.Ytcjhbcibhcogjaa
