/- Chapter 31, the program's intervals in plain words: what the list is after an interval is added. -/
import Derived.Test.YthdhjjbgegcncaaIvMath
namespace Go.Proofs.Ythdhjjbgegcncaa
open Go.RowKit
set_option linter.unusedVariables false
set_option linter.unusedSimpArgs false

/-- What is before, what is added, what is behind. -/
def astep (s : List Qc × Qc × List Qc) (e : Qc) : List Qc × Qc × List Qc :=
  if e.1 + (e.2.size : Int) < s.2.1.1 then (s.1 ++ [e], s.2.1, s.2.2)
  else if s.2.1.1 + (s.2.1.2.size : Int) < e.1 then (s.1, s.2.1, s.2.2 ++ [e])
  else (s.1, join s.2.1 e, s.2.2)
def afold (q : Qc) (l : List Qc) : List Qc × Qc × List Qc := l.foldl astep ([], q, [])
theorem afold_snoc (q : Qc) (l : List Qc) (e : Qc) : afold q (l ++ [e]) = astep (afold q l) e := by simp [afold]
def ladd (l : List Qc) (q : Qc) : List Qc := if q.2.size = 0 then l else (afold q l).1 ++ (afold q l).2.1 :: (afold q l).2.2
theorem pat_ins (A C : List Qc) {e : Qc} {n : Nat} (h : ¬ pin e n) : pat (A ++ e :: C) n = pat (A ++ C) n := by
  rw [pat_app, pat_app, pat_byt, if_neg h]
theorem pend_mem : ∀ (lo : Int) {l : List Qc}, l ≠ [] → ∃ p ∈ l, pend lo l = p.1 + (p.2.size : Int)
  | lo, [], h => absurd rfl h
  | lo, p :: t, _ => by
    by_cases ht : t = []
    · subst ht; exact ⟨p, by simp, rfl⟩
    · obtain ⟨q, hq, e⟩ := pend_mem (p.1 + (p.2.size : Int)) ht
      exact ⟨q, by simp [hq], e⟩
/-- Where the next piece may start. -/
def nxt (lo : Int) (t : List Qc) : Int := if t = [] then lo else pend lo t + 1
structure AInv (lo : Int) (q : Qc) (t : List Qc) (s : List Qc × Qc × List Qc) : Prop where
  ok : pok lo (s.1 ++ s.2.1 :: s.2.2)
  b : ∀ p ∈ s.1, p.1 + (p.2.size : Int) + 1 ≤ nxt lo t
  c : ∀ p ∈ s.2.2, p.1 + (p.2.size : Int) + 1 ≤ nxt lo t
  e : ∀ n : Nat, pat (s.1 ++ s.2.1 :: s.2.2) n = if pin q n then byt q n else pat t n
  l : lo ≤ q.1
theorem AInv.zero {lo : Int} {q : Qc} (h : lo ≤ q.1) (h0 : 0 < q.2.size) : AInv lo q [] ([], q, []) where
  ok := ⟨h, h0, trivial⟩
  b := fun p hp => by simp at hp
  c := fun p hp => by simp at hp
  e := fun n => rfl
  l := h
theorem AInv.step {lo : Int} {q e : Qc} {t : List Qc} {s : List Qc × Qc × List Qc} (h : AInv lo q t s) (hk : pok lo (t ++ [e])) (ha : ∀ n, pin q n → pin e n → byt e n = byt q n) : AInv lo q (t ++ [e]) (astep s e) := by
  obtain ⟨bf, a, bh⟩ := s
  obtain ⟨hok, hb, hc, he, hl⟩ := h
  simp only at hok hb hc he
  obtain ⟨k1, k2, k3⟩ := pok_snoc.1 hk
  have k2' : nxt lo t ≤ e.1 := k2
  have hn : nxt lo (t ++ [e]) = e.1 + (e.2.size : Int) + 1 := by
    unfold nxt
    rw [if_neg (by simp), pend_snoc]
  obtain ⟨ok1, ok2, ok3, ok4⟩ := pok_app.1 hok
  have hlo : lo ≤ e.1 := pok_last hk
  have hB : ∀ x : Int, nxt lo t ≤ x → lo ≤ x → (if bf = [] then lo else pend lo bf + 1) ≤ x := fun x hx hx2 => by
    split
    · exact hx2
    · rename_i hne
      obtain ⟨p, hp, e1⟩ := pend_mem lo hne
      have := hb p hp
      omega
  have hte : ∀ n, pin e n → pat (t ++ [e]) n = byt e n := fun n hn => pat_mem hk (by simp) hn
  have htn : ∀ n, ¬ pin e n → pat (t ++ [e]) n = pat t n := fun n hn => by rw [pat_ins t [] hn, List.append_nil]
  have hR : ∀ n, pin e n → byt e n = if pin q n then byt q n else pat (t ++ [e]) n := fun n hn => by
    split
    · rename_i hq; exact ha n hq hn
    · exact (hte n hn).symm
  unfold astep
  simp only
  by_cases h1 : e.1 + (e.2.size : Int) < a.1
  · rw [if_pos h1]
    have hbh : bh = [] := by
      cases bh with
      | nil => rfl
      | cons x u =>
        have := hc x (by simp)
        have := ok4.1
        have := ok4.2.1
        omega
    subst hbh
    have hok' : pok lo ((bf ++ [e]) ++ [a]) := pok_app.2 ⟨pok_snoc.2 ⟨ok1, hB _ k2' hlo, k3⟩, by
      rw [if_neg (by simp), pend_snoc]
      exact ⟨by omega, ok3, trivial⟩⟩
    refine ⟨hok', fun p hp => ?_, fun p hp => by simp at hp, fun n => ?_, hl⟩
    · rw [hn]
      rcases List.mem_append.1 hp with hp | hp
      · have := hb p hp; omega
      · rw [List.mem_singleton.1 hp]; omega
    · by_cases hpe : pin e n
      · rw [← hR n hpe]
        exact pat_mem hok' (by simp) hpe
      · have := he n
        rw [show (bf ++ [e]) ++ [a] = bf ++ e :: [a] by simp, pat_ins bf [a] hpe, htn n hpe]
        exact this
  · rw [if_neg h1]
    by_cases h2 : a.1 + (a.2.size : Int) < e.1
    · rw [if_pos h2]
      have hok' : pok lo (bf ++ a :: (bh ++ [e])) := pok_app.2 ⟨ok1, ok2, ok3, by
        refine pok_snoc.2 ⟨ok4, ?_, k3⟩
        split
        · omega
        · rename_i hne
          obtain ⟨p, hp, e1⟩ := pend_mem (a.1 + (a.2.size : Int) + 1) hne
          have := hc p hp
          omega⟩
      refine ⟨hok', fun p hp => by rw [hn]; have := hb p hp; omega, fun p hp => ?_, fun n => ?_, hl⟩
      · rw [hn]
        rcases List.mem_append.1 hp with hp | hp
        · have := hc p hp; omega
        · rw [List.mem_singleton.1 hp]; omega
      · by_cases hpe : pin e n
        · rw [← hR n hpe]
          exact pat_mem hok' (by simp) hpe
        · have := he n
          rw [show bf ++ a :: (bh ++ [e]) = (bf ++ a :: bh) ++ e :: [] by simp, pat_ins _ [] hpe, htn n hpe, List.append_nil]
          exact this
    · rw [if_neg h2]
      have hbh : bh = [] := by
        cases bh with
        | nil => rfl
        | cons x u =>
          have := hc x (by simp)
          have := ok4.1
          have := ok4.2.1
          omega
      subst hbh
      obtain ⟨j1, j2, j3⟩ := join_spec (p := a) (q := e) (by omega) (by omega)
      have hok' : pok lo (bf ++ join a e :: []) := pok_app.2 ⟨ok1, by rw [j1]; have := hB _ k2' hlo; omega, by omega, trivial⟩
      refine ⟨hok', fun p hp => by rw [hn]; have := hb p hp; omega, fun p hp => by simp at hp, fun n => ?_, hl⟩
      simp only
      by_cases hj : pin (join a e) n
      · rw [pat_mem hok' (by simp) hj]
        rcases j3 n hj with ⟨p1, p2⟩ | ⟨p1, p2⟩
        · rw [p2]
          have := he n
          rw [pat_mem hok (show a ∈ bf ++ a :: [] by simp) p1] at this
          by_cases hq : pin q n
          · rw [if_pos hq] at this ⊢; exact this
          · rw [if_neg hq] at this ⊢
            rw [pat_app, if_pos (by rw [← this]; exact byt_bd _ _)]
            exact this
        · rw [p2]; exact hR n p1
      · have ja : ¬ pin a n := fun k => hj (by unfold pin at k ⊢; omega)
        have je : ¬ pin e n := fun k => hj (by unfold pin at k ⊢; omega)
        rw [pat_ins bf [] hj, htn n je, ← he n, pat_ins bf [] ja]
theorem afold_inv {lo : Int} {q : Qc} (h : lo ≤ q.1) (h0 : 0 < q.2.size) {l : List Qc} (hk : pok lo l) (ha : ∀ e ∈ l, ∀ n, pin q n → pin e n → byt e n = byt q n) : AInv lo q l (afold q l) := by
  have key : ∀ u t : List Qc, t ++ u = l → AInv lo q t (afold q t) → AInv lo q l (afold q l) := by
    intro u
    induction u with
    | nil => intro t e ht; rw [List.append_nil] at e; rwa [e] at ht
    | cons x u ih =>
      intro t e ht
      refine ih (t ++ [x]) (by simpa using e) ?_
      rw [afold_snoc]
      have e2 : (t ++ [x]) ++ u = l := by simpa using e
      exact ht.step (pok_app.1 (by rw [e2]; exact hk)).1 (ha x (by rw [← e]; simp))
  exact key l [] rfl (AInv.zero h h0)
/-- The program's list after an accepted part. -/
theorem ladd_isp {rd : Int} {l : List Qc} {o : Nat} {d : ByteArray} (hk : pok rd l) (hc : ¬ pconf (pat l) o d) : IsP rd (pnew (pat l) o d) (ladd l (cut ((o : Int), d) rd)) := by
  have hp : ∀ n : Nat, pin (cut ((o : Int), d) rd) n ↔ (o ≤ n ∧ n < o + d.size) ∧ rd ≤ (n : Int) := fun n => by
    rw [cut_pin]
    unfold pin
    simp only
    omega
  have hb : ∀ n : Nat, pin (cut ((o : Int), d) rd) n → byt (cut ((o : Int), d) rd) n = dat d (n - o) := fun n hn => by
    rw [cut_byt hn]
    unfold byt
    congr 1
    simp only
    omega
  unfold ladd
  by_cases h0 : (cut ((o : Int), d) rd).2.size = 0
  · rw [if_pos h0]
    refine (IsP.self hk).congr fun n hn => ?_
    rw [pnew_out fun k => ?_]
    have := (hp n).2 ⟨k, hn⟩
    have h1 := this.1
    have h2 := this.2
    omega
  · rw [if_neg h0]
    have hlo : rd ≤ (cut ((o : Int), d) rd).1 := by
      have e1 : (cut ((o : Int), d) rd).1 = (o : Int) + (skp ((o : Int), d) rd : Int) := rfl
      rw [cutq_size] at h0
      rw [e1]
      unfold skp at h0 ⊢
      simp only at h0 ⊢
      omega
    have hI := afold_inv hlo (by omega) hk (fun e he n hq hn => by
      rw [cut_byt hq]
      exact agr_iff.1 ((agr_conf hk).2 hc e he) n hn ((cut_pin _ _ _).1 hq).1)
    refine ⟨hI.ok, fun n => ?_⟩
    rw [hI.e n]
    by_cases hn : rd ≤ (n : Int)
    · rw [if_pos hn]
      by_cases hi : o ≤ n ∧ n < o + d.size
      · rw [if_pos ((hp n).2 ⟨hi, hn⟩), hb n ((hp n).2 ⟨hi, hn⟩), pnew_in hi]
      · rw [if_neg (fun k => hi ((hp n).1 k).1), pnew_out hi]
    · rw [if_neg hn, if_neg (fun k => hn ((hp n).1 k).2), pat_lt hk (by omega)]
end Go.Proofs.Ythdhjjbgegcncaa
