/- eqFrame. -/
import Derived.Test.YthflokonihegbabFrEq
import Derived.Test.YthflokonihegbabSVal
import Derived.Test.YthflokonihegbabEqR4
namespace Go.Proofs.Ythflokonihegbab
open Go.RowKit
set_option linter.unusedVariables false
set_option linter.unusedSimpArgs false

set_option maxRecDepth 100000 in
set_option maxHeartbeats 1000000 in
theorem eqfr_k (k a b c k' a' b' c' : Int) (d d' : ByteArray) (rs rs' : List (Int × Int)) (v v' : Value) (w : World) (h : Hid (Rngs w v rs)) (h' : Hid (Rngs w v' rs')) (hl : rs.length ≤ 1048576) (hl' : rs'.length ≤ 1048576) (hx : k ≠ k') :
    Calls Try.prog 13 #[frV ⟨k, a, b, c, d, rs⟩ v, frV ⟨k', a', b', c', d', rs'⟩ v'] w (BoolPost w (frEq ⟨k, a, b, c, d, rs⟩ ⟨k', a', b', c', d', rs'⟩)) := by
  unfold frV
  have HE : Hid (frEq ⟨k, a, b, c, d, rs⟩ ⟨k', a', b', c', d', rs'⟩ = false) := Lib.hid (frEq_no (fun h => hx (congrArg Fr.k h)))
  have hxb := bnt hx
  go_enter Try.func13, Try.ntmps13
  go_wp2_with fail
  go_ret
  exact BoolPost.of HE.out.symm (((Below.refl w.heap.size w).alloc (Nat.le_refl _) _).alloc (by simp) _)

set_option maxRecDepth 100000 in
set_option maxHeartbeats 1000000 in
theorem eqfr_a (k a b c k' a' b' c' : Int) (d d' : ByteArray) (rs rs' : List (Int × Int)) (v v' : Value) (w : World) (h : Hid (Rngs w v rs)) (h' : Hid (Rngs w v' rs')) (hl : rs.length ≤ 1048576) (hl' : rs'.length ≤ 1048576) (hx : a ≠ a') :
    Calls Try.prog 13 #[frV ⟨k, a, b, c, d, rs⟩ v, frV ⟨k, a', b', c', d', rs'⟩ v'] w (BoolPost w (frEq ⟨k, a, b, c, d, rs⟩ ⟨k, a', b', c', d', rs'⟩)) := by
  unfold frV
  have HE : Hid (frEq ⟨k, a, b, c, d, rs⟩ ⟨k, a', b', c', d', rs'⟩ = false) := Lib.hid (frEq_no (fun h => hx (congrArg Fr.a h)))
  have hxb := bnt hx
  go_enter Try.func13, Try.ntmps13
  go_wp2_with fail
  go_ret
  exact BoolPost.of HE.out.symm (((Below.refl w.heap.size w).alloc (Nat.le_refl _) _).alloc (by simp) _)

set_option maxRecDepth 100000 in
set_option maxHeartbeats 1000000 in
theorem eqfr_b (k a b c k' a' b' c' : Int) (d d' : ByteArray) (rs rs' : List (Int × Int)) (v v' : Value) (w : World) (h : Hid (Rngs w v rs)) (h' : Hid (Rngs w v' rs')) (hl : rs.length ≤ 1048576) (hl' : rs'.length ≤ 1048576) (hx : b ≠ b') :
    Calls Try.prog 13 #[frV ⟨k, a, b, c, d, rs⟩ v, frV ⟨k, a, b', c', d', rs'⟩ v'] w (BoolPost w (frEq ⟨k, a, b, c, d, rs⟩ ⟨k, a, b', c', d', rs'⟩)) := by
  unfold frV
  have HE : Hid (frEq ⟨k, a, b, c, d, rs⟩ ⟨k, a, b', c', d', rs'⟩ = false) := Lib.hid (frEq_no (fun h => hx (congrArg Fr.b h)))
  have hxb := bnt hx
  go_enter Try.func13, Try.ntmps13
  go_wp2_with fail
  go_ret
  exact BoolPost.of HE.out.symm (((Below.refl w.heap.size w).alloc (Nat.le_refl _) _).alloc (by simp) _)

set_option maxRecDepth 100000 in
set_option maxHeartbeats 1000000 in
theorem eqfr_c (k a b c k' a' b' c' : Int) (d d' : ByteArray) (rs rs' : List (Int × Int)) (v v' : Value) (w : World) (h : Hid (Rngs w v rs)) (h' : Hid (Rngs w v' rs')) (hl : rs.length ≤ 1048576) (hl' : rs'.length ≤ 1048576) (hx : c ≠ c') :
    Calls Try.prog 13 #[frV ⟨k, a, b, c, d, rs⟩ v, frV ⟨k, a, b, c', d', rs'⟩ v'] w (BoolPost w (frEq ⟨k, a, b, c, d, rs⟩ ⟨k, a, b, c', d', rs'⟩)) := by
  unfold frV
  have HE : Hid (frEq ⟨k, a, b, c, d, rs⟩ ⟨k, a, b, c', d', rs'⟩ = false) := Lib.hid (frEq_no (fun h => hx (congrArg Fr.c h)))
  have hxb := bnt hx
  go_enter Try.func13, Try.ntmps13
  go_wp2_with fail
  go_ret
  exact BoolPost.of HE.out.symm (((Below.refl w.heap.size w).alloc (Nat.le_refl _) _).alloc (by simp) _)

set_option maxRecDepth 100000 in
set_option maxHeartbeats 1000000 in
theorem eqfr_d (k a b c k' a' b' c' : Int) (d d' : ByteArray) (rs rs' : List (Int × Int)) (v v' : Value) (w : World) (h : Hid (Rngs w v rs)) (h' : Hid (Rngs w v' rs')) (hl : rs.length ≤ 1048576) (hl' : rs'.length ≤ 1048576) (hx : ¬ d.toList = d'.toList) :
    Calls Try.prog 13 #[frV ⟨k, a, b, c, d, rs⟩ v, frV ⟨k, a, b, c, d', rs'⟩ v'] w (BoolPost w (frEq ⟨k, a, b, c, d, rs⟩ ⟨k, a, b, c, d', rs'⟩)) := by
  unfold frV
  have HE : Hid (frEq ⟨k, a, b, c, d, rs⟩ ⟨k, a, b, c, d', rs'⟩ = false) := Lib.hid (frEq_no (fun h => hx (congrArg (fun f : Fr => f.d.toList) h)))
  have hxd : (d.toList == d'.toList) = false := by rw [beq_eq_false_iff_ne]; exact hx
  clear hx
  go_enter Try.func13, Try.ntmps13
  go_wp2_with fail
  go_ret
  exact BoolPost.of HE.out.symm (((Below.refl w.heap.size w).alloc (Nat.le_refl _) _).alloc (by simp) _)

set_option maxRecDepth 100000 in
set_option maxHeartbeats 1000000 in
theorem eqfr_r (k a b c k' a' b' c' : Int) (d d' : ByteArray) (rs rs' : List (Int × Int)) (v v' : Value) (w : World) (h : Hid (Rngs w v rs)) (h' : Hid (Rngs w v' rs')) (hl : rs.length ≤ 1048576) (hl' : rs'.length ≤ 1048576)  :
    Calls Try.prog 13 #[frV ⟨k, a, b, c, d, rs⟩ v, frV ⟨k, a, b, c, d, rs'⟩ v'] w (BoolPost w (frEq ⟨k, a, b, c, d, rs⟩ ⟨k, a, b, c, d, rs'⟩)) := by
  unfold frV
  have HE : Hid (frEq ⟨k, a, b, c, d, rs⟩ ⟨k, a, b, c, d, rs'⟩ = (rs == rs')) := Lib.hid (by unfold frEq; simp)
  have HE2 := Lib.hid (fun W h h' => eqrs_any v v' rs rs' W h h' hl hl')
  obtain ⟨q, hq⟩ : ∃ q, (rs == rs') = q := ⟨_, rfl⟩
  rw [hq] at HE HE2
  clear hq
  have BB : Hid (Below w.heap.size w ((w.alloc (.cells #[.int .i64 k, .int .i64 a, .int .i64 b, .int .i64 c, .string d, v] 29)).alloc (.cells #[.int .i64 k, .int .i64 a, .int .i64 b, .int .i64 c, .string d, v'] 29))) := Lib.hid (((Below.refl w.heap.size w).alloc (Nat.le_refl _) _).alloc (by simp) _)
  go_enter Try.func13, Try.ntmps13
  go_wp2_with fail
  refine (HE2.out _ (h.out.below BB.out) (h'.out.below BB.out)).mono ?_
  rintro e w1 ⟨rfl, hb1⟩
  have HB1 := Lib.hid (BB.out.trans (hb1.mono BB.out.size))
  clear hb1
  cases q
  · go_wp2_with fail
    go_ret
    exact BoolPost.of HE.out.symm HB1.out
  · go_wp2_with fail
    go_ret
    exact BoolPost.of HE.out.symm HB1.out

theorem eqfr_any (f g : Fr) (v v' : Value) (w : World) (h : Rngs w v f.rs) (h' : Rngs w v' g.rs) (hl : f.rs.length ≤ 1048576) (hl' : g.rs.length ≤ 1048576) :
    Calls Try.prog 13 #[frV f v, frV g v'] w (BoolPost w (frEq f g)) := by
  cases f with | mk k a b c d rs =>
  cases g with | mk k' a' b' c' d' rs' =>
  simp only at h h' hl hl'
  by_cases h1 : k = k'
  · subst h1
    by_cases h2 : a = a'
    · subst h2
      by_cases h3 : b = b'
      · subst h3
        by_cases h4 : c = c'
        · subst h4
          by_cases h5 : d.toList = d'.toList
          · have := toList_inj h5
            subst this
            exact eqfr_r k a b c 0 0 0 0 d d rs rs' v v' w (Lib.hid h) (Lib.hid h') hl hl'
          · exact eqfr_d k a b c 0 0 0 0 d d' rs rs' v v' w (Lib.hid h) (Lib.hid h') hl hl' h5
        · exact eqfr_c k a b c 0 0 0 c' d d' rs rs' v v' w (Lib.hid h) (Lib.hid h') hl hl' h4
      · exact eqfr_b k a b c 0 0 b' c' d d' rs rs' v v' w (Lib.hid h) (Lib.hid h') hl hl' h3
    · exact eqfr_a k a b c 0 a' b' c' d d' rs rs' v v' w (Lib.hid h) (Lib.hid h') hl hl' h2
  · exact eqfr_k k a b c k' a' b' c' d d' rs rs' v v' w (Lib.hid h) (Lib.hid h') hl hl' h1
end Go.Proofs.Ythflokonihegbab
