/- Chapter 31, the model: RecvReady. -/
import Derived.Test.YthdhjjbgegcncaaQvW
namespace Go.Proofs.Ythdhjjbgegcncaa
open Go.RowKit
set_option linter.unusedVariables false
set_option linter.unusedSimpArgs false

set_option maxRecDepth 100000 in
set_option maxHeartbeats 8000000 in
theorem srecvready_any (v : Value) (l : List Pc) (rd fi li : Int) (w : World) (h : Pcs w v l) (hl : l.length ≤ 2000000) (hsz : ∀ p ∈ l, p.2.size ≤ 2000000) :
    Calls Try.prog 21 #[.agg #[.int .i64 rd, v, .int .i64 fi, .int .i64 li]] w fun e w' => e = .returned (.int .i64 (if rvok rd l fi li then (rdy rd l : Int) else -1)) ∧ Below w.heap.size w w' := by
  have HP := Lib.hid h
  have HSZ := Lib.hid hsz
  obtain ⟨g, o, c, rfl, _, hc⟩ := h
  have R0 := Lib.hid (Frm.new w 24 [.int .i64 rd, .slice (some ⟨g, o, none⟩) l.length c, .int .i64 fi, .int .i64 li])
  have BB : Hid (Below w.heap.size w (w.alloc (.cells #[.int .i64 rd, .slice (some ⟨g, o, none⟩) l.length c, .int .i64 fi, .int .i64 li] 24))) := Lib.hid ((Below.refl _ _).alloc (Nat.le_refl _) _)
  clear hsz hc
  have KV : ∀ b : Bool, decide (rvok rd l fi li) = b → Hid (∀ W : World, Below w.heap.size w W → Calls Try.prog 16 #[.agg #[.int .i64 rd, .slice (some ⟨g, o, none⟩) l.length c, .int .i64 fi, .int .i64 li]] W fun e w' => e = .returned (.bool b) ∧ Below W.heap.size W w') := fun b hb => Lib.hid fun W hW => by have k := srvval_any _ l rd fi li W (Pcs.below HP.out hW) hl HSZ.out; rw [hb] at k; exact k
  by_cases k1 : rvok rd l fi li
  case neg =>
    have C1 := KV false (decide_eq_false k1)
    rw [if_neg k1]
    clear KV k1
    go_enter Try.func21, Try.ntmps21
    go_wp2_with fail
    refine (C1.out _ BB.out).mono ?_
    rintro e w1 ⟨rfl, hb1⟩
    have B1 := Lib.hid (BB.out.trans (hb1.mono BB.out.size))
    have R1 := Lib.hid (R0.out.below hb1 (by simp))
    clear hb1
    have q0 := R1.out 0
    have q1 := R1.out 1
    have q2 := R1.out 2
    have q3 := R1.out 3
    go_wp2_with fail
    go_ret
    exact ⟨rfl, B1.out⟩
  have C1 := KV true (decide_eq_true k1)
  rw [if_pos k1]
  have hl30 := rvok_len k1
  have HSZ' := Lib.hid (fun p (hp : p ∈ l) => And.intro (rvok_pc k1 p hp) (And.intro k1.1 k1.2.1))
  clear KV k1
  go_enter Try.func21, Try.ntmps21
  go_wp2_with fail
  refine (C1.out _ BB.out).mono ?_
  rintro e w1 ⟨rfl, hb1⟩
  have B1 := Lib.hid (BB.out.trans (hb1.mono BB.out.size))
  have R1 := Lib.hid (R0.out.below hb1 (by simp))
  clear hb1
  have q0 := R1.out 0
  have q1 := R1.out 1
  have q2 := R1.out 2
  have q3 := R1.out 3
  go_wp2_with fail
  refine (sready_any _ l rd fi li _ (Pcs.below HP.out B1.out) (by omega) (fun p hp => by have := HSZ'.out p hp; omega)).mono ?_
  rintro e w2 ⟨rfl, hb2⟩
  have B2 := Lib.hid (B1.out.trans (hb2.mono B1.out.size))
  clear hb2 q0 q1 q2 q3
  go_wp2_with fail
  go_ret
  exact ⟨rfl, B2.out⟩

end Go.Proofs.Ythdhjjbgegcncaa
