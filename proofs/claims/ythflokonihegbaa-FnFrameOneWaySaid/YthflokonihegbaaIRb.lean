/- The program's frameReader: body. -/
import Derived.Test.YthflokonihegbaaIRr
namespace Go.Proofs.Ythflokonihegbaa
open Go.RowKit
set_option linter.unusedVariables false
set_option linter.unusedSimpArgs false

def BdPost (w : World) (b : Nat) (p : Fr × St) (e : Ending) (w' : World) : Prop :=
  ∃ a c, e = .returned (bodyR p.1 (.slice a p.1.rs.length c)) ∧ OwnRg w' w.heap.size (.slice a p.1.rs.length c) p.1.rs ∧ Rdf w' b p.2 ∧ w.grownBy w' (some b)
theorem rD_size (st : St) : (rD st).2.1.size ≤ st.1.size := by
  have := rI_size st
  unfold rD
  split
  · exact this
  · simp only; rw [cut_sz]; omega

set_option maxRecDepth 100000 in
set_option maxHeartbeats 1000000 in
theorem body_0 (b : Nat) (st : St) (w : World) (h : Rdf w b st) (hs : st.1.size ≤ 4194304) (hk : (rI st).1 = 0) : Calls Try.prog 45 #[.pointer (some ⟨b, 0, none⟩)] w (BdPost w b (pbody 0 (rI st).2)) := by
  have HI := Lib.hid (int_any b st w h hs)
  have hz1 := rI_size st
  rw [hk] at HI
  clear h hk
  generalize (rI st).2 = s1 at *
  have HP : Hid (pbody 0 s1 = (⟨0, 0, 0, 0, ⟨#[]⟩, []⟩, s1)) := Lib.hid (by
    show (_, _) = _
    rfl)
  rw [HP.out]
  go_enter Try.func45, Try.ntmps45
  go_wp2_with fail
  refine HI.out.mono ?_
  rintro e w1 ⟨rfl, hR, hgr⟩
  have HR1 := Lib.hid hR
  have HG1 := Lib.hid hgr
  clear hR hgr
  go_wp2_with fail
  go_ret2
  exact ⟨none, 0, rfl, own_nil _ _ HG1.out.size, HR1.out, HG1.out⟩
set_option maxRecDepth 100000 in
set_option maxHeartbeats 1000000 in
theorem body_1 (b : Nat) (st : St) (w : World) (h : Rdf w b st) (hs : st.1.size ≤ 4194304) (hk : (rI st).1 = 1) : Calls Try.prog 45 #[.pointer (some ⟨b, 0, none⟩)] w (BdPost w b (pbody 1 (rI st).2)) := by
  have HI := Lib.hid (int_any b st w h hs)
  have hz1 := rI_size st
  rw [hk] at HI
  clear h hk
  generalize (rI st).2 = s1 at *
  have HP : Hid (pbody 1 s1 = (⟨1, 0, 0, 0, ⟨#[]⟩, []⟩, s1)) := Lib.hid (by
    show (_, _) = _
    rfl)
  rw [HP.out]
  go_enter Try.func45, Try.ntmps45
  go_wp2_with fail
  refine HI.out.mono ?_
  rintro e w1 ⟨rfl, hR, hgr⟩
  have HR1 := Lib.hid hR
  have HG1 := Lib.hid hgr
  clear hR hgr
  go_wp2_with fail
  go_ret2
  exact ⟨none, 0, rfl, own_nil _ _ HG1.out.size, HR1.out, HG1.out⟩
set_option maxRecDepth 100000 in
set_option maxHeartbeats 1000000 in
theorem body_2 (b : Nat) (st : St) (w : World) (h : Rdf w b st) (hs : st.1.size ≤ 4194304) (hk : (rI st).1 = 2) : Calls Try.prog 45 #[.pointer (some ⟨b, 0, none⟩)] w (BdPost w b (pbody 2 (rI st).2)) := by
  have HI := Lib.hid (int_any b st w h hs)
  have hz1 := rI_size st
  rw [hk] at HI
  clear h hk
  generalize (rI st).2 = s1 at *
  obtain ⟨x1, s2, h1⟩ : ∃ x s, rI s1 = (x, s) := ⟨_, _, rfl⟩
  have HC1 := Lib.hid (fun W h => int_any b s1 W h (by omega))
  rw [h1] at HC1
  have hz2 := rI_size s1
  rw [h1] at hz2
  simp only at hz2
  obtain ⟨x2, s3, h2⟩ : ∃ x s, rR s2 = (x, s) := ⟨_, _, rfl⟩
  have HC2 := Lib.hid (fun W h => rranges_any b s2 W h (by omega))
  rw [h2] at HC2
  have HP : Hid (pbody 2 s1 = (⟨2, x1, 0, 0, ⟨#[]⟩, x2⟩, s3)) := Lib.hid (by
    show (_, _) = _
    rw [h1]
    simp only
    rw [h2])
  rw [HP.out]
  clear h1 h2
  go_enter Try.func45, Try.ntmps45
  go_wp2_with fail
  refine HI.out.mono ?_
  rintro e w1 ⟨rfl, hR, hgr⟩
  have HR1 := Lib.hid hR
  have HG1 := Lib.hid hgr
  clear hR hgr
  go_wp2_with fail
  refine (HC1.out _ HR1.out).mono ?_
  rintro e w2 ⟨rfl, hR, hgr⟩
  have HR2 := Lib.hid hR
  have HG2 := Lib.hid (World.grownBy.trans HG1.out hgr)
  clear hR hgr
  go_wp2_with fail
  refine (HC2.out _ HR2.out).mono ?_
  rintro e w3 ⟨ra, rc, rfl, hO, hR, hgr⟩
  simp only at hO hR ⊢
  have HR3 := Lib.hid hR
  have HO := Lib.hid (OwnRg.lower hO HG2.out.size)
  have HG3 := Lib.hid (World.grownBy.trans HG2.out hgr)
  clear hR hgr hO
  go_wp2_with fail
  go_ret2
  exact ⟨ra, rc, rfl, HO.out, HR3.out, HG3.out⟩
set_option maxRecDepth 100000 in
set_option maxHeartbeats 1000000 in
theorem body_3 (b : Nat) (st : St) (w : World) (h : Rdf w b st) (hs : st.1.size ≤ 4194304) (hk : (rI st).1 = 3) : Calls Try.prog 45 #[.pointer (some ⟨b, 0, none⟩)] w (BdPost w b (pbody 3 (rI st).2)) := by
  have HI := Lib.hid (int_any b st w h hs)
  have hz1 := rI_size st
  rw [hk] at HI
  clear h hk
  generalize (rI st).2 = s1 at *
  obtain ⟨x1, s2, h1⟩ : ∃ x s, rI s1 = (x, s) := ⟨_, _, rfl⟩
  have HC1 := Lib.hid (fun W h => int_any b s1 W h (by omega))
  rw [h1] at HC1
  have hz2 := rI_size s1
  rw [h1] at hz2
  simp only at hz2
  obtain ⟨x2, s3, h2⟩ : ∃ x s, rI s2 = (x, s) := ⟨_, _, rfl⟩
  have HC2 := Lib.hid (fun W h => int_any b s2 W h (by omega))
  rw [h2] at HC2
  have hz3 := rI_size s2
  rw [h2] at hz3
  simp only at hz3
  obtain ⟨x3, s4, h3⟩ : ∃ x s, rI s3 = (x, s) := ⟨_, _, rfl⟩
  have HC3 := Lib.hid (fun W h => int_any b s3 W h (by omega))
  rw [h3] at HC3
  have hz4 := rI_size s3
  rw [h3] at hz4
  simp only at hz4
  obtain ⟨x4, s5, h4⟩ : ∃ x s, rD s4 = (x, s) := ⟨_, _, rfl⟩
  have HC4 := Lib.hid (fun W h => rdata_any b s4 W h (by omega))
  rw [h4] at HC4
  have hz5 := rD_size s4
  rw [h4] at hz5
  simp only at hz5
  have HP : Hid (pbody 3 s1 = (⟨3, x1, x2, x3, x4, []⟩, s5)) := Lib.hid (by
    show (_, _) = _
    rw [h1]
    simp only
    rw [h2]
    simp only
    rw [h3]
    simp only
    rw [h4])
  rw [HP.out]
  clear h1 h2 h3 h4
  go_enter Try.func45, Try.ntmps45
  go_wp2_with fail
  refine HI.out.mono ?_
  rintro e w1 ⟨rfl, hR, hgr⟩
  have HR1 := Lib.hid hR
  have HG1 := Lib.hid hgr
  clear hR hgr
  go_wp2_with fail
  refine (HC1.out _ HR1.out).mono ?_
  rintro e w2 ⟨rfl, hR, hgr⟩
  have HR2 := Lib.hid hR
  have HG2 := Lib.hid (World.grownBy.trans HG1.out hgr)
  clear hR hgr
  go_wp2_with fail
  refine (HC2.out _ HR2.out).mono ?_
  rintro e w3 ⟨rfl, hR, hgr⟩
  have HR3 := Lib.hid hR
  have HG3 := Lib.hid (World.grownBy.trans HG2.out hgr)
  clear hR hgr
  go_wp2_with fail
  refine (HC3.out _ HR3.out).mono ?_
  rintro e w4 ⟨rfl, hR, hgr⟩
  have HR4 := Lib.hid hR
  have HG4 := Lib.hid (World.grownBy.trans HG3.out hgr)
  clear hR hgr
  go_wp2_with fail
  refine (HC4.out _ HR4.out).mono ?_
  rintro e w5 ⟨rfl, hR, hgr⟩
  have HR5 := Lib.hid hR
  have HG5 := Lib.hid (World.grownBy.trans HG4.out hgr)
  clear hR hgr
  go_wp2_with fail
  go_ret2
  exact ⟨none, 0, rfl, own_nil _ _ HG5.out.size, HR5.out, HG5.out⟩
set_option maxRecDepth 100000 in
set_option maxHeartbeats 1000000 in
theorem body_4 (b : Nat) (st : St) (w : World) (h : Rdf w b st) (hs : st.1.size ≤ 4194304) (hk : (rI st).1 = 4) : Calls Try.prog 45 #[.pointer (some ⟨b, 0, none⟩)] w (BdPost w b (pbody 4 (rI st).2)) := by
  have HI := Lib.hid (int_any b st w h hs)
  have hz1 := rI_size st
  rw [hk] at HI
  clear h hk
  generalize (rI st).2 = s1 at *
  obtain ⟨x1, s2, h1⟩ : ∃ x s, rI s1 = (x, s) := ⟨_, _, rfl⟩
  have HC1 := Lib.hid (fun W h => int_any b s1 W h (by omega))
  rw [h1] at HC1
  have hz2 := rI_size s1
  rw [h1] at hz2
  simp only at hz2
  obtain ⟨x2, s3, h2⟩ : ∃ x s, rI s2 = (x, s) := ⟨_, _, rfl⟩
  have HC2 := Lib.hid (fun W h => int_any b s2 W h (by omega))
  rw [h2] at HC2
  have hz3 := rI_size s2
  rw [h2] at hz3
  simp only at hz3
  have HP : Hid (pbody 4 s1 = (⟨4, x1, x2, 0, ⟨#[]⟩, []⟩, s3)) := Lib.hid (by
    show (_, _) = _
    rw [h1]
    simp only
    rw [h2])
  rw [HP.out]
  clear h1 h2
  go_enter Try.func45, Try.ntmps45
  go_wp2_with fail
  refine HI.out.mono ?_
  rintro e w1 ⟨rfl, hR, hgr⟩
  have HR1 := Lib.hid hR
  have HG1 := Lib.hid hgr
  clear hR hgr
  go_wp2_with fail
  refine (HC1.out _ HR1.out).mono ?_
  rintro e w2 ⟨rfl, hR, hgr⟩
  have HR2 := Lib.hid hR
  have HG2 := Lib.hid (World.grownBy.trans HG1.out hgr)
  clear hR hgr
  go_wp2_with fail
  refine (HC2.out _ HR2.out).mono ?_
  rintro e w3 ⟨rfl, hR, hgr⟩
  have HR3 := Lib.hid hR
  have HG3 := Lib.hid (World.grownBy.trans HG2.out hgr)
  clear hR hgr
  go_wp2_with fail
  go_ret2
  exact ⟨none, 0, rfl, own_nil _ _ HG3.out.size, HR3.out, HG3.out⟩
set_option maxRecDepth 100000 in
set_option maxHeartbeats 1000000 in
theorem body_5 (b : Nat) (st : St) (w : World) (h : Rdf w b st) (hs : st.1.size ≤ 4194304) (hk : (rI st).1 = 5) : Calls Try.prog 45 #[.pointer (some ⟨b, 0, none⟩)] w (BdPost w b (pbody 5 (rI st).2)) := by
  have HI := Lib.hid (int_any b st w h hs)
  have hz1 := rI_size st
  rw [hk] at HI
  clear h hk
  generalize (rI st).2 = s1 at *
  obtain ⟨x1, s2, h1⟩ : ∃ x s, rI s1 = (x, s) := ⟨_, _, rfl⟩
  have HC1 := Lib.hid (fun W h => int_any b s1 W h (by omega))
  rw [h1] at HC1
  have hz2 := rI_size s1
  rw [h1] at hz2
  simp only at hz2
  have HP : Hid (pbody 5 s1 = (⟨5, x1, 0, 0, ⟨#[]⟩, []⟩, s2)) := Lib.hid (by
    show (_, _) = _
    rw [h1])
  rw [HP.out]
  clear h1
  go_enter Try.func45, Try.ntmps45
  go_wp2_with fail
  refine HI.out.mono ?_
  rintro e w1 ⟨rfl, hR, hgr⟩
  have HR1 := Lib.hid hR
  have HG1 := Lib.hid hgr
  clear hR hgr
  go_wp2_with fail
  refine (HC1.out _ HR1.out).mono ?_
  rintro e w2 ⟨rfl, hR, hgr⟩
  have HR2 := Lib.hid hR
  have HG2 := Lib.hid (World.grownBy.trans HG1.out hgr)
  clear hR hgr
  go_wp2_with fail
  go_ret2
  exact ⟨none, 0, rfl, own_nil _ _ HG2.out.size, HR2.out, HG2.out⟩
set_option maxRecDepth 100000 in
set_option maxHeartbeats 1000000 in
theorem body_6 (b : Nat) (st : St) (w : World) (h : Rdf w b st) (hs : st.1.size ≤ 4194304) (hk : (rI st).1 = 6) : Calls Try.prog 45 #[.pointer (some ⟨b, 0, none⟩)] w (BdPost w b (pbody 6 (rI st).2)) := by
  have HI := Lib.hid (int_any b st w h hs)
  have hz1 := rI_size st
  rw [hk] at HI
  clear h hk
  generalize (rI st).2 = s1 at *
  obtain ⟨x1, s2, h1⟩ : ∃ x s, rI s1 = (x, s) := ⟨_, _, rfl⟩
  have HC1 := Lib.hid (fun W h => int_any b s1 W h (by omega))
  rw [h1] at HC1
  have hz2 := rI_size s1
  rw [h1] at hz2
  simp only at hz2
  have HP : Hid (pbody 6 s1 = (⟨6, x1, 0, 0, ⟨#[]⟩, []⟩, s2)) := Lib.hid (by
    show (_, _) = _
    rw [h1])
  rw [HP.out]
  clear h1
  go_enter Try.func45, Try.ntmps45
  go_wp2_with fail
  refine HI.out.mono ?_
  rintro e w1 ⟨rfl, hR, hgr⟩
  have HR1 := Lib.hid hR
  have HG1 := Lib.hid hgr
  clear hR hgr
  go_wp2_with fail
  refine (HC1.out _ HR1.out).mono ?_
  rintro e w2 ⟨rfl, hR, hgr⟩
  have HR2 := Lib.hid hR
  have HG2 := Lib.hid (World.grownBy.trans HG1.out hgr)
  clear hR hgr
  go_wp2_with fail
  go_ret2
  exact ⟨none, 0, rfl, own_nil _ _ HG2.out.size, HR2.out, HG2.out⟩
set_option maxRecDepth 100000 in
set_option maxHeartbeats 1000000 in
theorem body_7 (b : Nat) (st : St) (w : World) (h : Rdf w b st) (hs : st.1.size ≤ 4194304) (hk : (rI st).1 = 7) : Calls Try.prog 45 #[.pointer (some ⟨b, 0, none⟩)] w (BdPost w b (pbody 7 (rI st).2)) := by
  have HI := Lib.hid (int_any b st w h hs)
  have hz1 := rI_size st
  rw [hk] at HI
  clear h hk
  generalize (rI st).2 = s1 at *
  obtain ⟨x1, s2, h1⟩ : ∃ x s, rI s1 = (x, s) := ⟨_, _, rfl⟩
  have HC1 := Lib.hid (fun W h => int_any b s1 W h (by omega))
  rw [h1] at HC1
  have hz2 := rI_size s1
  rw [h1] at hz2
  simp only at hz2
  obtain ⟨x2, s3, h2⟩ : ∃ x s, rI s2 = (x, s) := ⟨_, _, rfl⟩
  have HC2 := Lib.hid (fun W h => int_any b s2 W h (by omega))
  rw [h2] at HC2
  have hz3 := rI_size s2
  rw [h2] at hz3
  simp only at hz3
  have HP : Hid (pbody 7 s1 = (⟨7, x1, x2, 0, ⟨#[]⟩, []⟩, s3)) := Lib.hid (by
    show (_, _) = _
    rw [h1]
    simp only
    rw [h2])
  rw [HP.out]
  clear h1 h2
  go_enter Try.func45, Try.ntmps45
  go_wp2_with fail
  refine HI.out.mono ?_
  rintro e w1 ⟨rfl, hR, hgr⟩
  have HR1 := Lib.hid hR
  have HG1 := Lib.hid hgr
  clear hR hgr
  go_wp2_with fail
  refine (HC1.out _ HR1.out).mono ?_
  rintro e w2 ⟨rfl, hR, hgr⟩
  have HR2 := Lib.hid hR
  have HG2 := Lib.hid (World.grownBy.trans HG1.out hgr)
  clear hR hgr
  go_wp2_with fail
  refine (HC2.out _ HR2.out).mono ?_
  rintro e w3 ⟨rfl, hR, hgr⟩
  have HR3 := Lib.hid hR
  have HG3 := Lib.hid (World.grownBy.trans HG2.out hgr)
  clear hR hgr
  go_wp2_with fail
  go_ret2
  exact ⟨none, 0, rfl, own_nil _ _ HG3.out.size, HR3.out, HG3.out⟩
set_option maxRecDepth 100000 in
set_option maxHeartbeats 1000000 in
theorem body_8 (b : Nat) (st : St) (w : World) (h : Rdf w b st) (hs : st.1.size ≤ 4194304) (hk : (rI st).1 = 8) : Calls Try.prog 45 #[.pointer (some ⟨b, 0, none⟩)] w (BdPost w b (pbody 8 (rI st).2)) := by
  have HI := Lib.hid (int_any b st w h hs)
  have hz1 := rI_size st
  rw [hk] at HI
  clear h hk
  generalize (rI st).2 = s1 at *
  obtain ⟨x1, s2, h1⟩ : ∃ x s, rI s1 = (x, s) := ⟨_, _, rfl⟩
  have HC1 := Lib.hid (fun W h => int_any b s1 W h (by omega))
  rw [h1] at HC1
  have hz2 := rI_size s1
  rw [h1] at hz2
  simp only at hz2
  have HP : Hid (pbody 8 s1 = (⟨8, x1, 0, 0, ⟨#[]⟩, []⟩, s2)) := Lib.hid (by
    show (_, _) = _
    rw [h1])
  rw [HP.out]
  clear h1
  go_enter Try.func45, Try.ntmps45
  go_wp2_with fail
  refine HI.out.mono ?_
  rintro e w1 ⟨rfl, hR, hgr⟩
  have HR1 := Lib.hid hR
  have HG1 := Lib.hid hgr
  clear hR hgr
  go_wp2_with fail
  refine (HC1.out _ HR1.out).mono ?_
  rintro e w2 ⟨rfl, hR, hgr⟩
  have HR2 := Lib.hid hR
  have HG2 := Lib.hid (World.grownBy.trans HG1.out hgr)
  clear hR hgr
  go_wp2_with fail
  go_ret2
  exact ⟨none, 0, rfl, own_nil _ _ HG2.out.size, HR2.out, HG2.out⟩
set_option maxRecDepth 100000 in
set_option maxHeartbeats 1000000 in
theorem body_9 (b : Nat) (st : St) (w : World) (h : Rdf w b st) (hs : st.1.size ≤ 4194304) (hk : (rI st).1 = 9) : Calls Try.prog 45 #[.pointer (some ⟨b, 0, none⟩)] w (BdPost w b (pbody 9 (rI st).2)) := by
  have HI := Lib.hid (int_any b st w h hs)
  have hz1 := rI_size st
  rw [hk] at HI
  clear h hk
  generalize (rI st).2 = s1 at *
  obtain ⟨x1, s2, h1⟩ : ∃ x s, rD s1 = (x, s) := ⟨_, _, rfl⟩
  have HC1 := Lib.hid (fun W h => rdata_any b s1 W h (by omega))
  rw [h1] at HC1
  have hz2 := rD_size s1
  rw [h1] at hz2
  simp only at hz2
  have HP : Hid (pbody 9 s1 = (⟨9, 0, 0, 0, x1, []⟩, s2)) := Lib.hid (by
    show (_, _) = _
    rw [h1])
  rw [HP.out]
  clear h1
  go_enter Try.func45, Try.ntmps45
  go_wp2_with fail
  refine HI.out.mono ?_
  rintro e w1 ⟨rfl, hR, hgr⟩
  have HR1 := Lib.hid hR
  have HG1 := Lib.hid hgr
  clear hR hgr
  go_wp2_with fail
  refine (HC1.out _ HR1.out).mono ?_
  rintro e w2 ⟨rfl, hR, hgr⟩
  have HR2 := Lib.hid hR
  have HG2 := Lib.hid (World.grownBy.trans HG1.out hgr)
  clear hR hgr
  go_wp2_with fail
  go_ret2
  exact ⟨none, 0, rfl, own_nil _ _ HG2.out.size, HR2.out, HG2.out⟩
set_option maxRecDepth 100000 in
set_option maxHeartbeats 1000000 in
theorem body_10 (b : Nat) (st : St) (w : World) (h : Rdf w b st) (hs : st.1.size ≤ 4194304) (hk : (rI st).1 = 10) : Calls Try.prog 45 #[.pointer (some ⟨b, 0, none⟩)] w (BdPost w b (pbody 10 (rI st).2)) := by
  have HI := Lib.hid (int_any b st w h hs)
  have hz1 := rI_size st
  rw [hk] at HI
  clear h hk
  generalize (rI st).2 = s1 at *
  obtain ⟨x1, s2, h1⟩ : ∃ x s, rI s1 = (x, s) := ⟨_, _, rfl⟩
  have HC1 := Lib.hid (fun W h => int_any b s1 W h (by omega))
  rw [h1] at HC1
  have hz2 := rI_size s1
  rw [h1] at hz2
  simp only at hz2
  have HP : Hid (pbody 10 s1 = (⟨10, x1, 0, 0, ⟨#[]⟩, []⟩, s2)) := Lib.hid (by
    show (_, _) = _
    rw [h1])
  rw [HP.out]
  clear h1
  go_enter Try.func45, Try.ntmps45
  go_wp2_with fail
  refine HI.out.mono ?_
  rintro e w1 ⟨rfl, hR, hgr⟩
  have HR1 := Lib.hid hR
  have HG1 := Lib.hid hgr
  clear hR hgr
  go_wp2_with fail
  refine (HC1.out _ HR1.out).mono ?_
  rintro e w2 ⟨rfl, hR, hgr⟩
  have HR2 := Lib.hid hR
  have HG2 := Lib.hid (World.grownBy.trans HG1.out hgr)
  clear hR hgr
  go_wp2_with fail
  go_ret2
  exact ⟨none, 0, rfl, own_nil _ _ HG2.out.size, HR2.out, HG2.out⟩
set_option maxRecDepth 100000 in
set_option maxHeartbeats 1000000 in
theorem body_no (b : Nat) (st : St) (w : World) (h : Rdf w b st) (hs : st.1.size ≤ 4194304) (hk : ¬ (0 ≤ (rI st).1 ∧ (rI st).1 ≤ 10)) : Calls Try.prog 45 #[.pointer (some ⟨b, 0, none⟩)] w (BdPost w b (pbody (rI st).1 (rI st).2)) := by
  have HI := Lib.hid (int_any b st w h hs)
  generalize rI st = p at *
  obtain ⟨k, s1⟩ := p
  simp only at hk HI ⊢
  have HP : Hid (pbody k s1 = (⟨k, 0, 0, 0, ⟨#[]⟩, []⟩, s1)) := Lib.hid (by
    unfold pbody
    rw [if_neg (by omega), if_neg (by omega), if_neg (by omega), if_neg (by omega), if_neg (by omega)])
  rw [HP.out]
  have HB := Lib.hid (bodyR_no (f := ⟨k, 0, 0, 0, ⟨#[]⟩, []⟩) (v := .slice none 0 0) hk)
  have e0 := bne_of (a := k) (b := 0) (by omega)
  have e1 := bne_of (a := k) (b := 1) (by omega)
  have e2 := bne_of (a := k) (b := 2) (by omega)
  have e3 := bne_of (a := k) (b := 3) (by omega)
  have e4 := bne_of (a := k) (b := 4) (by omega)
  have e5 := bne_of (a := k) (b := 5) (by omega)
  have e6 := bne_of (a := k) (b := 6) (by omega)
  have e7 := bne_of (a := k) (b := 7) (by omega)
  have e8 := bne_of (a := k) (b := 8) (by omega)
  have e9 := bne_of (a := k) (b := 9) (by omega)
  have e10 := bne_of (a := k) (b := 10) (by omega)
  clear hk h
  go_enter Try.func45, Try.ntmps45
  go_wp2_with fail
  refine HI.out.mono ?_
  rintro e w1 ⟨rfl, hR, hgr⟩
  have HR1 := Lib.hid hR
  have HG1 := Lib.hid hgr
  clear hR hgr
  go_wp2_with fail
  go_ret2
  exact ⟨none, 0, (congrArg Ending.returned HB.out).symm, own_nil _ _ HG1.out.size, HR1.out, HG1.out⟩
theorem body_any (b : Nat) (st : St) (w : World) (h : Rdf w b st) (hs : st.1.size ≤ 4194304) : Calls Try.prog 45 #[.pointer (some ⟨b, 0, none⟩)] w (BdPost w b (pbody (rI st).1 (rI st).2)) := by
  by_cases hk : 0 ≤ (rI st).1 ∧ (rI st).1 ≤ 10
  · have : (rI st).1 = 0 ∨ (rI st).1 = 1 ∨ (rI st).1 = 2 ∨ (rI st).1 = 3 ∨ (rI st).1 = 4 ∨ (rI st).1 = 5 ∨ (rI st).1 = 6 ∨ (rI st).1 = 7 ∨ (rI st).1 = 8 ∨ (rI st).1 = 9 ∨ (rI st).1 = 10 := by omega
    rcases this with e | e | e | e | e | e | e | e | e | e | e
    · rw [e]; exact body_0 b st w h hs e
    · rw [e]; exact body_1 b st w h hs e
    · rw [e]; exact body_2 b st w h hs e
    · rw [e]; exact body_3 b st w h hs e
    · rw [e]; exact body_4 b st w h hs e
    · rw [e]; exact body_5 b st w h hs e
    · rw [e]; exact body_6 b st w h hs e
    · rw [e]; exact body_7 b st w h hs e
    · rw [e]; exact body_8 b st w h hs e
    · rw [e]; exact body_9 b st w h hs e
    · rw [e]; exact body_10 b st w h hs e
  · exact body_no b st w h hs hk

end Go.Proofs.Ythflokonihegbaa
