/- Chapter 31, the program's intervals in plain words: what is cut, joined, compared, added. -/
import Derived.Test.YthdhjjbgegcncaaRcLaw
import Derived.Test.YthdhjjbgegcncaaRcMath2
namespace Go.Proofs.Ythdhjjbgegcncaa
open Go.RowKit
set_option linter.unusedVariables false
set_option linter.unusedSimpArgs false

/-- How many bytes lie ahead of the offset. -/
def skp (q : Qc) (off : Int) : Nat := min (off - q.1).toNat q.2.size
/-- The bytes at the offset and behind it. -/
def cut (q : Qc) (off : Int) : Qc := (q.1 + (skp q off : Int), q.2.extract (skp q off) q.2.size)
theorem skp_le (q : Qc) (off : Int) : skp q off ≤ q.2.size := Nat.min_le_right _ _
theorem cutq_size (q : Qc) (off : Int) : (cut q off).2.size = q.2.size - skp q off := by
  unfold cut
  simp only [ByteArray.size_extract, Nat.min_self]
theorem dat_ext' {x : ByteArray} {a e i : Nat} (he : e ≤ x.size) (hi : a + i < e) : dat (x.extract a e) i = dat x (a + i) := by
  unfold dat
  congr 2
  rw [show (x.extract a e).data = x.data.extract a e from ByteArray.data_extract, Array.getElem?_extract]
  have : i < min e x.data.size - a := by
    have : x.data.size = x.size := rfl
    omega
  rw [if_pos this]
theorem cut_dat (q : Qc) (off : Int) {i : Nat} (h : i < (cut q off).2.size) : dat (cut q off).2 i = dat q.2 (skp q off + i) := by
  rw [cutq_size] at h
  exact dat_ext' (Nat.le_refl _) (by omega)
theorem cut_pin (q : Qc) (off : Int) (n : Nat) : pin (cut q off) n ↔ pin q n ∧ off ≤ (n : Int) := by
  have h1 := cutq_size q off
  have h2 := skp_le q off
  have h3 : (cut q off).1 = q.1 + (skp q off : Int) := rfl
  unfold pin
  rw [h1, h3]
  unfold skp at h2 ⊢
  omega
/-- The byte of q at n. -/
def byt (q : Qc) (n : Nat) : Int := dat q.2 ((n : Int) - q.1).toNat
theorem cut_byt {q : Qc} {off : Int} {n : Nat} (h : pin (cut q off) n) : byt (cut q off) n = byt q n := by
  have h1 := cutq_size q off
  have h2 := skp_le q off
  have h3 : (cut q off).1 = q.1 + (skp q off : Int) := rfl
  have hp := h
  unfold pin at hp
  rw [h1, h3] at hp
  unfold byt
  rw [cut_dat q off (by rw [h1, h3]; omega), h3]
  congr 1
  omega
theorem pat_byt (p : Qc) (t : List Qc) (n : Nat) : pat (p :: t) n = if pin p n then byt p n else pat t n := rfl
theorem byt_bd (q : Qc) (n : Nat) : 0 ≤ byt q n := (dat_bd _ _).1
theorem pat_app : ∀ (a b : List Qc) (n : Nat), pat (a ++ b) n = if 0 ≤ pat a n then pat a n else pat b n
  | [], b, n => by simp [pat]
  | p :: t, b, n => by
    rw [List.cons_append, pat_byt, pat_byt, pat_app t b n]
    by_cases hp : pin p n
    · rw [if_pos hp, if_pos hp, if_pos (byt_bd _ _)]
    · rw [if_neg hp, if_neg hp]
theorem pat_none {l : List Qc} {n : Nat} (h : ∀ p ∈ l, ¬ pin p n) : pat l n = -1 := by
  induction l with
  | nil => rfl
  | cons p t ih => rw [pat_byt, if_neg (h p (by simp)), ih fun q hq => h q (by simp [hq])]
theorem pat_ex : ∀ {l : List Qc} {n : Nat}, 0 ≤ pat l n → ∃ p ∈ l, pin p n ∧ pat l n = byt p n
  | [], n, h => by simp [pat] at h
  | p :: t, n, h => by
    rw [pat_byt] at h ⊢
    by_cases hp : pin p n
    · rw [if_pos hp]; exact ⟨p, by simp, hp, rfl⟩
    · rw [if_neg hp] at h ⊢
      obtain ⟨q, hq, h1, h2⟩ := pat_ex h
      exact ⟨q, by simp [hq], h1, h2⟩
theorem pok_lo : ∀ {lo : Int} {l : List Qc} {p : Qc}, pok lo l → p ∈ l → lo ≤ p.1 ∧ 0 < p.2.size
  | lo, q :: t, p, h, hp => by
    rcases List.mem_cons.1 hp with rfl | hp
    · exact ⟨h.1, h.2.1⟩
    · have := pok_lo h.2.2 hp
      have := h.1
      have := h.2.1
      omega
theorem pat_mem : ∀ {lo : Int} {l : List Qc} {p : Qc} {n : Nat}, pok lo l → p ∈ l → pin p n → pat l n = byt p n
  | lo, q :: t, p, n, h, hp, hn => by
    rw [pat_byt]
    rcases List.mem_cons.1 hp with rfl | hp
    · rw [if_pos hn]
    · have h1 := pok_lo h.2.2 hp
      rw [if_neg (fun k => by have := k.2; have := hn.1; omega), pat_mem h.2.2 hp hn]
theorem pok_app : ∀ {lo : Int} {a b : List Qc}, pok lo (a ++ b) ↔ pok lo a ∧ pok (if a = [] then lo else pend lo a + 1) b
  | lo, [], b => by simp [pok]
  | lo, p :: t, b => by
    have ih := pok_app (lo := p.1 + (p.2.size : Int) + 1) (a := t) (b := b)
    simp only [List.cons_append, pok, ih, reduceCtorEq, if_false, pend]
    by_cases ht : t = []
    · subst ht; simp [pok, pend, and_assoc]
    · rw [if_neg ht, pend_cons (p.1 + (p.2.size : Int) + 1) (p.1 + (p.2.size : Int)) ht]
      simp only [and_assoc]
theorem pend_app (lo : Int) : ∀ (a b : List Qc), b ≠ [] → ∀ m, pend lo (a ++ b) = pend m b
  | [], b, h, m => pend_cons _ _ h
  | p :: t, b, h, m => by
    show pend _ (t ++ b) = _
    exact pend_app _ t b h m

/-- All pieces from the offset on. -/
def lcut (l : List Qc) (off : Int) : List Qc := (l.filter fun p => decide (off < p.1 + (p.2.size : Int))).map fun p => cut p off
theorem lcut_snoc (l : List Qc) (p : Qc) (off : Int) : lcut (l ++ [p]) off = if off < p.1 + (p.2.size : Int) then lcut l off ++ [cut p off] else lcut l off := by
  unfold lcut
  by_cases h : off < p.1 + (p.2.size : Int)
  · rw [if_pos h]; simp [h]
  · rw [if_neg h]; simp [h]
theorem lcut_pok : ∀ {m : Int} {l : List Qc} (off : Int), pok m l → pok (max m off) (lcut l off)
  | m, [], off, _ => trivial
  | m, p :: t, off, h => by
    have ih := lcut_pok off h.2.2
    unfold lcut at ih ⊢
    by_cases hp : off < p.1 + (p.2.size : Int)
    · rw [List.filter_cons_of_pos (by simpa using hp), List.map_cons]
      have h1 := h.1
      have h2 := h.2.1
      have e1 : (cut p off).1 = p.1 + (skp p off : Int) := rfl
      have e2 := cutq_size p off
      refine ⟨?_, ?_, ?_⟩
      · rw [e1]; unfold skp; omega
      · rw [e2]; unfold skp; omega
      · rw [e1, e2, show p.1 + (skp p off : Int) + ((p.2.size - skp p off : Nat) : Int) + 1 = p.1 + (p.2.size : Int) + 1 by have := skp_le p off; omega]
        rwa [show max (p.1 + (p.2.size : Int) + 1) off = p.1 + (p.2.size : Int) + 1 by omega] at ih
    · rw [List.filter_cons_of_neg (by simpa using hp)]
      have := h.1
      exact pok_mono ih (by omega)
theorem lcut_pat : ∀ {m : Int} {l : List Qc} (off : Int) (n : Nat), pok m l → pat (lcut l off) n = if off ≤ (n : Int) then pat l n else -1
  | m, [], off, n, _ => by simp [lcut, pat]
  | m, p :: t, off, n, h => by
    have ih := lcut_pat off n h.2.2
    unfold lcut at ih ⊢
    have hc := cut_pin p off n
    by_cases hp : off < p.1 + (p.2.size : Int)
    · rw [List.filter_cons_of_pos (by simpa using hp), List.map_cons, pat_byt, pat_byt, ih]
      by_cases hn : pin (cut p off) n
      · rw [if_pos hn, if_pos (hc.1 hn).2, if_pos (hc.1 hn).1, cut_byt hn]
      · rw [if_neg hn]
        by_cases ho : off ≤ (n : Int)
        · rw [if_pos ho, if_pos ho, if_neg (fun k => hn (hc.2 ⟨k, ho⟩))]
        · rw [if_neg ho, if_neg ho]
    · rw [List.filter_cons_of_neg (by simpa using hp), ih, pat_byt]
      by_cases ho : off ≤ (n : Int)
      · rw [if_pos ho, if_pos ho, if_neg (fun k => by have := k.2; omega)]
      · rw [if_neg ho, if_neg ho]
theorem lcut_isp {lo off : Int} {l : List Qc} (h : pok lo l) (ho : lo ≤ off) : IsP off (pat l) (lcut l off) := ⟨by
  have := lcut_pok off h
  rwa [show max lo off = off by omega] at this, fun n => lcut_pat off n h⟩

/-- Two pieces agree where both have bytes. -/
def agr (p q : Qc) : Prop := ∀ n : Nat, n < (p.1 + (p.2.size : Int)).toNat → pin p n → pin q n → byt p n = byt q n
instance (p q : Qc) : Decidable (agr p q) := by unfold agr; exact Nat.decidableBallLT _ _
theorem agr_iff {p q : Qc} : agr p q ↔ ∀ n : Nat, pin p n → pin q n → byt p n = byt q n := ⟨fun h n h1 h2 => h n (by have := h1.2; omega) h1 h2, fun h n _ h1 h2 => h n h1 h2⟩
theorem agr_conf {lo : Int} {l : List Qc} {o : Nat} {d : ByteArray} (h : pok lo l) : (∀ p ∈ l, agr p ((o : Int), d)) ↔ ¬ pconf (pat l) o d := by
  constructor
  · rintro hh ⟨k, hk, h1, h2⟩
    obtain ⟨p, hp, hn, e⟩ := pat_ex h1
    have := agr_iff.1 (hh p hp) (o + k) hn ⟨by simp only; omega, by simp only; omega⟩
    apply h2
    rw [e, this]
    unfold byt
    congr 1
    simp only
    omega
  · intro hh p hp
    refine agr_iff.2 fun n h1 h2 => Decidable.byContradiction fun hne => hh ⟨n - o, ?_, ?_⟩
    · have := h2.1; have := h2.2; simp only at *; omega
    · have h3 := h2.1
      simp only at h3
      rw [show o + (n - o) = n by omega, pat_mem h hp h1]
      refine ⟨byt_bd _ _, fun e => hne ?_⟩
      rw [e]
      unfold byt
      congr 1
      simp only
      omega
/-- p, and what of q lies behind it. -/
def jn (p q : Qc) : Qc := (p.1, p.2 ++ (cut q (p.1 + (p.2.size : Int))).2)
def join (p q : Qc) : Qc := if q.1 < p.1 then jn q p else jn p q
theorem jn_size {p q : Qc} (h : p.1 ≤ q.1) (h2 : q.1 ≤ p.1 + (p.2.size : Int)) : p.1 + ((jn p q).2.size : Int) = max (p.1 + (p.2.size : Int)) (q.1 + (q.2.size : Int)) := by
  have e : (jn p q).2.size = p.2.size + (q.2.size - skp q (p.1 + (p.2.size : Int))) := by
    show (p.2 ++ (cut q (p.1 + (p.2.size : Int))).2).size = _
    rw [ByteArray.size_append, cutq_size]
  rw [e]
  unfold skp
  omega
theorem jn_byt {p q : Qc} {n : Nat} (h : p.1 ≤ q.1) (h2 : q.1 ≤ p.1 + (p.2.size : Int)) (hn : pin (jn p q) n) : byt (jn p q) n = if pin p n then byt p n else byt q n := by
  have h3 := jn_size h h2
  have e1 : (jn p q).1 = p.1 := rfl
  have hn1 := hn.1
  have hn2 := hn.2
  rw [e1] at hn1 hn2
  have e2 : byt (jn p q) n = dat (p.2 ++ (cut q (p.1 + (p.2.size : Int))).2) ((n : Int) - p.1).toNat := rfl
  rw [e2, dat_app]
  by_cases hp : pin p n
  · have := hp.2
    rw [if_pos hp, if_pos (by omega)]
    rfl
  · have hp2 : p.1 + (p.2.size : Int) ≤ (n : Int) := by
      by_cases k : (n : Int) < p.1 + (p.2.size : Int)
      · exact absurd ⟨hn1, k⟩ hp
      · omega
    rw [if_neg hp, if_neg (by omega)]
    have hq : pin (cut q (p.1 + (p.2.size : Int))) n := (cut_pin _ _ _).2 ⟨⟨by omega, by omega⟩, hp2⟩
    rw [← cut_byt hq]
    have e3 : (cut q (p.1 + (p.2.size : Int))).1 = q.1 + (skp q (p.1 + (p.2.size : Int)) : Int) := rfl
    have := hq.2
    rw [cutq_size] at this
    unfold byt
    congr 1
    rw [e3]
    unfold skp at this ⊢
    omega
/-- What a join is: from the lower start to the higher end, and each byte from one of both. -/
theorem join_spec {p q : Qc} (h1 : q.1 ≤ p.1 + (p.2.size : Int)) (h2 : p.1 ≤ q.1 + (q.2.size : Int)) :
    (join p q).1 = min p.1 q.1 ∧ (join p q).1 + ((join p q).2.size : Int) = max (p.1 + (p.2.size : Int)) (q.1 + (q.2.size : Int)) ∧ ∀ n : Nat, pin (join p q) n → (pin p n ∧ byt (join p q) n = byt p n) ∨ (pin q n ∧ byt (join p q) n = byt q n) := by
  unfold join
  by_cases h : q.1 < p.1
  · rw [if_pos h]
    have hs := jn_size (p := q) (q := p) (by omega) h2
    have e1 : (jn q p).1 = q.1 := rfl
    refine ⟨by rw [e1]; omega, by rw [e1, hs]; omega, fun n hn => ?_⟩
    rw [jn_byt (by omega) h2 hn]
    by_cases hp : pin q n
    · rw [if_pos hp]; exact .inr ⟨hp, rfl⟩
    · rw [if_neg hp]
      refine .inl ⟨?_, rfl⟩
      have k1 := hn.1
      have k2 := hn.2
      rw [e1] at k1 k2
      unfold pin at hp ⊢
      omega
  · rw [if_neg h]
    have hs := jn_size (p := p) (q := q) (by omega) h1
    have e1 : (jn p q).1 = p.1 := rfl
    refine ⟨by rw [e1]; omega, by rw [e1, hs], fun n hn => ?_⟩
    rw [jn_byt (by omega) h1 hn]
    by_cases hp : pin p n
    · rw [if_pos hp]; exact .inl ⟨hp, rfl⟩
    · rw [if_neg hp]
      refine .inr ⟨?_, rfl⟩
      have k1 := hn.1
      have k2 := hn.2
      rw [e1] at k1 k2
      unfold pin at hp ⊢
      omega
end Go.Proofs.Ythdhjjbgegcncaa
