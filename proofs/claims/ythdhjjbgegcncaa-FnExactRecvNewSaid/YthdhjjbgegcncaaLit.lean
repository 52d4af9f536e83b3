/- Rows that are laid down whole, lists of ints. -/
import Derived.Test.YthdhjjbgegcncaaOwn
import Derived.Deep.RegionHeld3
namespace Go.Proofs.Ythdhjjbgegcncaa
open Go.RowKit
set_option linter.unusedVariables false
set_option linter.unusedSimpArgs false

theorem cell_lit (w : World) (T : TypeId) (xs : List Value) (j : Nat) : (w.alloc (.cells xs.toArray T)).cell? ⟨w.heap.size, j, none⟩ = xs[j]? := by
  rw [World.cell?_alloc_mark]; simp
theorem own_lit (B : Nat) (T : TypeId) (w : World) (xs : List Value) (h : B ≤ w.heap.size) (hx : xs.length ≤ 1000000) : (w.alloc (.cells xs.toArray T)).ownsRow B T 1 (.slice (some ⟨w.heap.size, 0, none⟩) xs.length xs.length) xs.length xs :=
  ⟨by simp, .inr ⟨w.heap.size, xs.length, xs.toArray, rfl, h, by show (w.heap.push _)[w.heap.size]? = _; simp, Nat.le_refl _, by unfold maxLen; omega, by simp, by simp⟩⟩
theorem news_lit (w : World) (T : TypeId) (xs : List Value) (n : Nat) : ∀ j u, (xs.take n)[j]? = some u → (w.alloc (.cells xs.toArray T)).cell? ((⟨w.heap.size, 0, none⟩ : Addr).add j) = some u := by
  intro j u h
  rw [List.getElem?_take] at h
  split at h
  · have := cell_lit w T xs j
    have e : ((⟨w.heap.size, 0, none⟩ : Addr).add j) = ⟨w.heap.size, j, none⟩ := by
      unfold Addr.add; split
      · rename_i h0; rw [h0]
      · simp
    rw [e, this]; exact h
  · cases h
/-- The row that is appended to moves: what lay below stays. -/
theorem below_kept {B : Nat} {w w1 w2 : World} {v : Value} {n : Nat} {e : TypeId} {k : Nat} {xs : List Value} (h : Below B w w1) (hown : w1.ownsRow B e k v n xs) (hB : B ≤ w1.heap.size) (hg : w1.grownBy w2 v.ownBlock) : Below B w w2 :=
  h.grown hg hB fun j hj => (hown.lt j hj).1
theorem iints_one (xs : List Int) : ∀ u ∈ xs.map (Value.int .i64), u.oneCell' = true := by
  intro u hu
  obtain ⟨x, _, rfl⟩ := List.mem_map.1 hu
  rfl
/-- An append of ints in a region that draws its order. -/
theorem step_append_ints (w : World) {ops : Array Oper} {o : Oper} {a : Act} {K : Act → World → Prop} {Q : Exit → Act → World → Prop} {E : Prop} (hgd : o.guard = none) (s x : Operand)
    (ho : o.op = .call { callee := .builtin .append, args := #[s, x], argTypes := #[72, 72] })
    (B : Nat) (v : Value) (xs ys : List Int) (hs : a.eval s = v) (hown : w.ownsRow B 3 1 v xs.length (xs.map (Value.int .i64))) (ad : Addr) (n c : Nat) (hx : a.eval x = .slice (some ad) n c) (hn : ys.length = n)
    (hm : ∀ j u, (ys.map (Value.int .i64))[j]? = some u → w.cell? (ad.add j) = some u) (hlen : xs.length + ys.length ≤ 8388608) (hB : B ≤ w.heap.size)
    (h : ∀ aa nn cc w', w'.ownsRow B 3 1 (.slice aa nn cc) (xs ++ ys).length ((xs ++ ys).map (Value.int .i64)) → w.grownBy w' v.ownBlock → K (a.put o.dst (.slice aa nn cc)) w') :
    if Region.wanted o (yielded ops a.tmps) = true then Oper.wp Try.prog o a w K Q else E := by
  have hw : Region.wanted o (yielded ops a.tmps) = true := by simp [Region.wanted, hgd]
  rw [if_pos hw]
  subst hn
  obtain ⟨i0, hi, hz0, hz1, hz2⟩ := info_parts try_infoInt
  refine wp_append_own (w := w) s x 72 ho B 3 i0 (.int .i64 0) 1 8 Try.underlying72 hi hz0 hz1 hz2 rfl (by decide) v xs.length (xs.map (Value.int .i64)) hs hown ad ys.length c (ys.map (Value.int .i64)) hx (by simp) hm (iints_one ys) (by unfold maxLen; omega) (by omega) hB ?_
  intro v' w' h1 h2 h3
  have h1' : w'.ownsRow B 3 1 v' (xs ++ ys).length ((xs ++ ys).map (Value.int .i64)) := by rw [List.length_append, List.map_append]; exact h1
  obtain ⟨aa, cc, rfl⟩ := ownsRow_shape h1'
  exact h aa _ cc w' h1' h2
end Go.Proofs.Ythdhjjbgegcncaa
