/- The model's WindowIncrease, WindowAck, WindowLoss. -/
import Derived.Test.YtfggldholaibeaaWSp
namespace Go.Proofs.Ytfggldholaibeaa
open Go.RowKit
set_option linter.unusedVariables false
set_option linter.unusedSimpArgs false


set_option maxRecDepth 100000 in
set_option maxHeartbeats 4000000 in
theorem swi_any (v : Value) (l : List Wd) (i : Int) (w : World) (h : Wds w v l) (hl : l.length ≤ 1048576) : Calls Try.prog 13 #[v, .int .i64 i] w (GotI w (wincv l i)) := by
  have HW := Lib.hid h
  have CV := Lib.hid (swv_any v l w h hl)
  have CU := Lib.hid (l6In_any i 0 ((l.length : Int) - 1))
  have hwl : wrap64 ((l.length : Int) - 1) = (l.length : Int) - 1 := by unfold wrap64; omega
  obtain ⟨a, c, rfl, _, _⟩ := h
  by_cases hat : wat l i
  · rw [decide_eq_true hat.1] at CV
    rw [decide_eq_true hat.2] at CU
    obtain ⟨k, rfl⟩ := Int.eq_ofNat_of_zero_le hat.2.1
    have hk : k < l.length := by have := hat.2; omega
    have HE : Hid (wincv l (k : Int) = winc l (l.getD k wdD)) := Lib.hid (if_pos hat)
    rw [HE.out]
    have HK := Lib.hid hat.1
    clear hat HE
    obtain ⟨n, hn⟩ : ∃ n, winc l (l.getD k wdD) = n := ⟨_, rfl⟩
    rw [hn]
    have HN := Lib.hid hn
    clear hn
    go_enter Try.func13, Try.ntmps13
    go_wp2_with fail
    refine CV.out.mono ?_
    rintro e W1 ⟨rfl, hb⟩
    have B1 := Lib.hid hb
    have CS := Lib.hid (sinc_any _ l k W1 (HW.out.below hb) HK.out hk)
    rw [HN.out] at CS
    clear hb
    go_wp2_with fail
    refine (CU.out _).mono ?_
    rintro e W2 ⟨rfl, rfl⟩
    go_wp2_with fail
    refine CS.out.mono ?_
    rintro e W3 ⟨rfl, hb⟩
    have B3 := Lib.hid (B1.out.trans (hb.mono B1.out.size))
    clear hb
    go_wp2_with fail
    go_ret
    exact ⟨rfl, B3.out⟩
  · have HE : Hid (wincv l i = -1) := Lib.hid (if_neg hat)
    rw [HE.out]
    have HF : Hid (decide (wok l) = true → decide (0 ≤ i ∧ i ≤ (l.length : Int) - 1) = false) := Lib.hid fun h => decide_eq_false fun k => hat ⟨of_decide_eq_true h, k⟩
    clear hat HE
    generalize decide (wok l) = q at CV HF
    generalize decide (0 ≤ i ∧ i ≤ (l.length : Int) - 1) = q2 at CU HF
    cases q
    · go_enter Try.func13, Try.ntmps13
      go_wp2_with fail
      refine CV.out.mono ?_
      rintro e W1 ⟨rfl, hb⟩
      have B1 := Lib.hid hb
      clear hb
      go_wp2_with fail
      go_ret
      exact ⟨rfl, B1.out⟩
    · have hq2 := HF.out rfl
      subst hq2
      go_enter Try.func13, Try.ntmps13
      go_wp2_with fail
      refine CV.out.mono ?_
      rintro e W1 ⟨rfl, hb⟩
      have B1 := Lib.hid hb
      clear hb
      go_wp2_with fail
      refine (CU.out _).mono ?_
      rintro e W2 ⟨rfl, rfl⟩
      go_wp2_with fail
      go_ret
      exact ⟨rfl, B1.out⟩

set_option maxRecDepth 100000 in
set_option maxHeartbeats 4000000 in
theorem swa_any (v : Value) (l : List Wd) (i : Int) (w : World) (h : Wds w v l) (hl : l.length ≤ 1048576) : Calls Try.prog 15 #[v, .int .i64 i] w (GotWs w (wackv l i) (decide (wat l i))) := by
  have HW := Lib.hid h
  have CV := Lib.hid (swv_any v l w h hl)
  have CU := Lib.hid (l6In_any i 0 ((l.length : Int) - 1))
  have hwl : wrap64 ((l.length : Int) - 1) = (l.length : Int) - 1 := by unfold wrap64; omega
  obtain ⟨a, c, rfl, _, _⟩ := h
  by_cases hat : wat l i
  · rw [decide_eq_true hat.1] at CV
    rw [decide_eq_true hat.2] at CU
    obtain ⟨k, rfl⟩ := Int.eq_ofNat_of_zero_le hat.2.1
    have hk : k < l.length := by have := hat.2; omega
    have HE : Hid (wackv l (k : Int) = wack l k) := Lib.hid (if_pos hat)
    rw [decide_eq_true hat]
    rw [HE.out]
    have HK := Lib.hid hat.1
    clear hat HE
    go_enter Try.func15, Try.ntmps15
    go_wp2_with fail
    refine CV.out.mono ?_
    rintro e W1 ⟨rfl, hb⟩
    have B1 := Lib.hid hb
    have CS := Lib.hid (sack_any _ l k W1 (HW.out.below hb) HK.out hk)
    clear hb
    go_wp2_with fail
    refine (CU.out _).mono ?_
    rintro e W2 ⟨rfl, rfl⟩
    go_wp2_with fail
    refine CS.out.mono ?_
    rintro e W3 ⟨v', rfl, h1, h2, h3⟩
    have E1 := Lib.hid (OwnW.lower h1 B1.out.size)
    have E2 := Lib.hid h2
    have E3 := Lib.hid (B1.out.trans (h3.mono B1.out.size))
    obtain ⟨aa, cc, hv⟩ := h1.shape
    rw [show (wack l k).length = l.length from List.length_set] at hv
    subst hv
    clear h1 h2 h3
    go_wp2_with fail
    go_ret2
    exact ⟨.slice aa l.length cc, rfl, E1.out, fun _ => E2.out, E3.out⟩
  · rw [decide_eq_false hat]
    have HE : Hid (wackv l i = []) := Lib.hid (if_neg hat)
    rw [HE.out]
    have HF : Hid (decide (wok l) = true → decide (0 ≤ i ∧ i ≤ (l.length : Int) - 1) = false) := Lib.hid fun h => decide_eq_false fun k => hat ⟨of_decide_eq_true h, k⟩
    clear hat HE
    generalize decide (wok l) = q at CV HF
    generalize decide (0 ≤ i ∧ i ≤ (l.length : Int) - 1) = q2 at CU HF
    cases q
    · go_enter Try.func15, Try.ntmps15
      go_wp2_with fail
      refine CV.out.mono ?_
      rintro e W1 ⟨rfl, hb⟩
      have B1 := Lib.hid hb
      clear hb
      go_wp2_with fail
      generalize hW : W1.alloc (.cells #[] 35) = W9
      have e1 : Below w.heap.size w W9 := by rw [← hW]; exact B1.out.alloc B1.out.size _
      have e2 : OwnW W9 w.heap.size (.slice (some ⟨W1.heap.size, 0, none⟩) 0 0) [] := by rw [← hW]; exact OwnW.new _ W1 B1.out.size
      go_ret2
      exact ⟨.slice (some ⟨W1.heap.size, 0, none⟩) 0 0, rfl, e2, (fun h => by cases h), e1⟩
    · have hq2 := HF.out rfl
      subst hq2
      go_enter Try.func15, Try.ntmps15
      go_wp2_with fail
      refine CV.out.mono ?_
      rintro e W1 ⟨rfl, hb⟩
      have B1 := Lib.hid hb
      clear hb
      go_wp2_with fail
      refine (CU.out _).mono ?_
      rintro e W2 ⟨rfl, rfl⟩
      go_wp2_with fail
      generalize hW : W1.alloc (.cells #[] 35) = W9
      have e1 : Below w.heap.size w W9 := by rw [← hW]; exact B1.out.alloc B1.out.size _
      have e2 : OwnW W9 w.heap.size (.slice (some ⟨W1.heap.size, 0, none⟩) 0 0) [] := by rw [← hW]; exact OwnW.new _ W1 B1.out.size
      go_ret2
      exact ⟨.slice (some ⟨W1.heap.size, 0, none⟩) 0 0, rfl, e2, (fun h => by cases h), e1⟩

set_option maxRecDepth 100000 in
set_option maxHeartbeats 4000000 in
theorem swl_any (v : Value) (l : List Wd) (i : Int) (w : World) (h : Wds w v l) (hl : l.length ≤ 1048576) : Calls Try.prog 19 #[v, .int .i64 i] w (GotWs w (wlossv l i) (decide (wat l i))) := by
  have HW := Lib.hid h
  have CV := Lib.hid (swv_any v l w h hl)
  have CU := Lib.hid (l6In_any i 0 ((l.length : Int) - 1))
  have hwl : wrap64 ((l.length : Int) - 1) = (l.length : Int) - 1 := by unfold wrap64; omega
  obtain ⟨a, c, rfl, _, _⟩ := h
  by_cases hat : wat l i
  · rw [decide_eq_true hat.1] at CV
    rw [decide_eq_true hat.2] at CU
    obtain ⟨k, rfl⟩ := Int.eq_ofNat_of_zero_le hat.2.1
    have hk : k < l.length := by have := hat.2; omega
    have HE : Hid (wlossv l (k : Int) = wloss l k) := Lib.hid (if_pos hat)
    rw [decide_eq_true hat]
    rw [HE.out]
    have HK := Lib.hid hat.1
    clear hat HE
    go_enter Try.func19, Try.ntmps19
    go_wp2_with fail
    refine CV.out.mono ?_
    rintro e W1 ⟨rfl, hb⟩
    have B1 := Lib.hid hb
    have CS := Lib.hid (sloss_any _ l k W1 (HW.out.below hb) HK.out hk)
    clear hb
    go_wp2_with fail
    refine (CU.out _).mono ?_
    rintro e W2 ⟨rfl, rfl⟩
    go_wp2_with fail
    refine CS.out.mono ?_
    rintro e W3 ⟨v', rfl, h1, h2, h3⟩
    have E1 := Lib.hid (OwnW.lower h1 B1.out.size)
    have E2 := Lib.hid h2
    have E3 := Lib.hid (B1.out.trans (h3.mono B1.out.size))
    obtain ⟨aa, cc, hv⟩ := h1.shape
    rw [show (wloss l k).length = l.length from List.length_set] at hv
    subst hv
    clear h1 h2 h3
    go_wp2_with fail
    go_ret2
    exact ⟨.slice aa l.length cc, rfl, E1.out, fun _ => E2.out, E3.out⟩
  · rw [decide_eq_false hat]
    have HE : Hid (wlossv l i = []) := Lib.hid (if_neg hat)
    rw [HE.out]
    have HF : Hid (decide (wok l) = true → decide (0 ≤ i ∧ i ≤ (l.length : Int) - 1) = false) := Lib.hid fun h => decide_eq_false fun k => hat ⟨of_decide_eq_true h, k⟩
    clear hat HE
    generalize decide (wok l) = q at CV HF
    generalize decide (0 ≤ i ∧ i ≤ (l.length : Int) - 1) = q2 at CU HF
    cases q
    · go_enter Try.func19, Try.ntmps19
      go_wp2_with fail
      refine CV.out.mono ?_
      rintro e W1 ⟨rfl, hb⟩
      have B1 := Lib.hid hb
      clear hb
      go_wp2_with fail
      generalize hW : W1.alloc (.cells #[] 35) = W9
      have e1 : Below w.heap.size w W9 := by rw [← hW]; exact B1.out.alloc B1.out.size _
      have e2 : OwnW W9 w.heap.size (.slice (some ⟨W1.heap.size, 0, none⟩) 0 0) [] := by rw [← hW]; exact OwnW.new _ W1 B1.out.size
      go_ret2
      exact ⟨.slice (some ⟨W1.heap.size, 0, none⟩) 0 0, rfl, e2, (fun h => by cases h), e1⟩
    · have hq2 := HF.out rfl
      subst hq2
      go_enter Try.func19, Try.ntmps19
      go_wp2_with fail
      refine CV.out.mono ?_
      rintro e W1 ⟨rfl, hb⟩
      have B1 := Lib.hid hb
      clear hb
      go_wp2_with fail
      refine (CU.out _).mono ?_
      rintro e W2 ⟨rfl, rfl⟩
      go_wp2_with fail
      generalize hW : W1.alloc (.cells #[] 35) = W9
      have e1 : Below w.heap.size w W9 := by rw [← hW]; exact B1.out.alloc B1.out.size _
      have e2 : OwnW W9 w.heap.size (.slice (some ⟨W1.heap.size, 0, none⟩) 0 0) [] := by rw [← hW]; exact OwnW.new _ W1 B1.out.size
      go_ret2
      exact ⟨.slice (some ⟨W1.heap.size, 0, none⟩) 0 0, rfl, e2, (fun h => by cases h), e1⟩
end Go.Proofs.Ytfggldholaibeaa
