/- What the laws of chapter 31 share: the answers as values. -/
import Derived.Test.YthdhjjbgegcncaaIvO
import Derived.Test.YthdhjjbgegcncaaQvX
import Derived.Test.YthdhjjbgegcncaaRcLaw
namespace Go.Proofs.Ythdhjjbgegcncaa
open Go.RowKit
set_option linter.unusedVariables false
set_option linter.unusedSimpArgs false

/-- What RecvPut answers, as values. -/
def PutV (rd : Int) (l : List Qc) (fi li off : Int) (d : ByteArray) (fin : Bool) (rd' : Int) (l' : List Qc) (fi' li' c : Int) : Prop :=
  if rvok rd l fi li ∧ (0 ≤ off ∧ off ≤ 30) ∧ d.size ≤ 12 then rd' = rd ∧ li' = li ∧ c = pcode rd l fi li off.toNat d fin ∧ (c = 0 → Put rd l fi li off.toNat d fin l' fi') ∧ (c ≠ 0 → l' = l ∧ fi' = fi)
  else rd' = 0 ∧ l' = [] ∧ fi' = 0 ∧ li' = 0 ∧ c = 4
theorem pcode_lt (rd : Int) (l : List Qc) (fi li : Int) (o : Nat) (d : ByteArray) (fin : Bool) : 0 ≤ pcode rd l fi li o d fin ∧ pcode rd l fi li o d fin ≤ 3 := by
  unfold pcode
  split
  · omega
  · split
    · omega
    · split <;> omega
theorem PutV.ex (rd : Int) (l : List Qc) (fi li off : Int) (d : ByteArray) (fin : Bool) : ∃ rd' l' fi' li' c, PutV rd l fi li off d fin rd' l' fi' li' c := by
  unfold PutV
  by_cases h : rvok rd l fi li ∧ (0 ≤ off ∧ off ≤ 30) ∧ d.size ≤ 12
  · by_cases h0 : pcode rd l fi li off.toNat d fin = 0
    · refine ⟨rd, ladd l (cut ((off.toNat : Int), d) rd), if fin then (off.toNat : Int) + (d.size : Int) else fi, li, 0, ?_⟩
      rw [if_pos h]
      exact ⟨rfl, rfl, h0.symm, fun _ => ⟨ladd_isp h.1.2.2.1 (pcode_zero.1 h0).2.2, rfl⟩, fun k => absurd rfl k⟩
    · refine ⟨rd, l, fi, li, pcode rd l fi li off.toNat d fin, ?_⟩
      rw [if_pos h]
      exact ⟨rfl, rfl, rfl, fun k => absurd k h0, fun _ => ⟨rfl, rfl⟩⟩
  · refine ⟨0, [], 0, 0, 4, ?_⟩
    rw [if_neg h]
    exact ⟨rfl, rfl, rfl, rfl, rfl⟩
theorem PutV.yes {rd : Int} {l : List Qc} {fi li off : Int} {d : ByteArray} {fin : Bool} {rd' : Int} {l' : List Qc} {fi' li' c : Int} (h : PutV rd l fi li off d fin rd' l' fi' li' c) (hc : c ≠ 4) :
    (rvok rd l fi li ∧ (0 ≤ off ∧ off ≤ 30) ∧ d.size ≤ 12) ∧ rd' = rd ∧ li' = li ∧ c = pcode rd l fi li off.toNat d fin ∧ (c = 0 → Put rd l fi li off.toNat d fin l' fi') ∧ (c ≠ 0 → l' = l ∧ fi' = fi) := by
  unfold PutV at h
  by_cases hv : rvok rd l fi li ∧ (0 ≤ off ∧ off ≤ 30) ∧ d.size ≤ 12
  · rw [if_pos hv] at h; exact ⟨hv, h⟩
  · rw [if_neg hv] at h; exact absurd h.2.2.2.2 hc
theorem PutV.len {rd : Int} {l : List Qc} {fi li off : Int} {d : ByteArray} {fin : Bool} {rd' : Int} {l' : List Qc} {fi' li' c : Int} (h : PutV rd l fi li off d fin rd' l' fi' li' c) (hl : l.length ≤ 1000) : l'.length ≤ 1000 := by
  by_cases hc : c = 4
  · by_cases hv : rvok rd l fi li ∧ (0 ≤ off ∧ off ≤ 30) ∧ d.size ≤ 12
    · unfold PutV at h
      rw [if_pos hv] at h
      have := pcode_lt rd l fi li off.toNat d fin
      omega
    · unfold PutV at h
      rw [if_neg hv] at h
      rw [h.2.1]; simp
  · obtain ⟨hv, h1, h2, h3, h4, h5⟩ := h.yes hc
    by_cases h0 : c = 0
    · have := rvok_len (put_ok hv.1 (h3 ▸ h0) (h4 h0))
      omega
    · rw [(h5 h0).1]; exact hl
/-- A call that answers a stream and a code. -/
def GotS (w : World) (rd' : Int) (l' : List Qc) (fi' li' : Int) (x : Value) (e : Ending) (w' : World) : Prop :=
  ∃ v, e = .returned (.tuple #[.agg #[.int .i64 rd', v, .int .i64 fi', .int .i64 li'], x]) ∧ Below w.heap.size w w' ∧ OwnPc w' w.heap.size v l'
theorem put_got {w : World} {rd : Int} {l : List Qc} {fi li off : Int} {d : ByteArray} {fin : Bool} {rd' : Int} {l' : List Qc} {fi' li' c : Int} (h : PutV rd l fi li off d fin rd' l' fi' li' c) {e : Ending} {w' : World} (k : RPutAns w rd l fi li off d fin e w') : GotS w rd' l' fi' li' (.int .i64 c) e w' := by
  unfold PutV at h
  unfold RPutAns at k
  by_cases hv : rvok rd l fi li ∧ (0 ≤ off ∧ off ≤ 30) ∧ d.size ≤ 12
  · rw [if_pos hv] at h k
    obtain ⟨rfl, rfl, h3, h4, h5⟩ := h
    obtain ⟨v, l2, f2, c2, rfl, k3, k4, k5, k6, k7, k8⟩ := k
    have hcc : c2 = c := k3.trans h3.symm
    subst hcc
    by_cases h0 : c2 = 0
    · have p1 := h4 h0
      have p2 := k7 h0
      have el := p1.pc.uniq hv.1.2.1.1 p2.pc
      have ef := p1.fi.trans p2.fi.symm
      subst el ef
      exact ⟨v, rfl, k4, k5⟩
    · obtain ⟨rfl, rfl⟩ := h5 h0
      obtain ⟨rfl, rfl⟩ := k8 h0
      exact ⟨v, rfl, k4, k5⟩
  · rw [if_neg hv] at h k
    obtain ⟨rfl, rfl, rfl, rfl, rfl⟩ := h
    exact ⟨_, k.1, k.2, OwnPc.nil _ _⟩
/-- The stream's numbers are within what the walks need. -/
def Szd (l : List Qc) : Prop := l.length ≤ 2000000 ∧ ∀ p ∈ l, p.1 ≤ 9223372036854775807 ∧ p.2.size ≤ 2000000
theorem rvok_szd {rd : Int} {l : List Qc} {fi li : Int} (h : rvok rd l fi li) : Szd l := ⟨by have := rvok_len h; omega, fun p hp => by
  have k := rvok_pc h p hp
  have := h.1
  have := h.2.1
  have k2 := pok_lo h.2.2.1 hp
  omega⟩
theorem Szd.nil : Szd [] := ⟨by simp, fun p hp => by simp at hp⟩
theorem PutV.szd {rd : Int} {l : List Qc} {fi li off : Int} {d : ByteArray} {fin : Bool} {rd' : Int} {l' : List Qc} {fi' li' c : Int} (h : PutV rd l fi li off d fin rd' l' fi' li' c) (hl : Szd l) : Szd l' := by
  by_cases hv : rvok rd l fi li ∧ (0 ≤ off ∧ off ≤ 30) ∧ d.size ≤ 12
  · have k := h
    unfold PutV at k
    rw [if_pos hv] at k
    by_cases h0 : c = 0
    · exact rvok_szd (put_ok hv.1 (k.2.2.1 ▸ h0) (k.2.2.2.1 h0))
    · rw [(k.2.2.2.2 h0).1]; exact hl
  · unfold PutV at h
    rw [if_neg hv] at h
    rw [h.2.1]; exact Szd.nil
theorem iput_got {rd : Int} {l : List Qc} {fi li off : Int} {d : ByteArray} {fin : Bool} {rd' : Int} {l' : List Qc} {fi' li' c : Int} (h : PutV rd l fi li off d fin rd' l' fi' li' c) {v : Value} {w : World} (hv : Pcn w v l) (hl : Szd l) (hd : d.size ≤ 2000000) :
    Calls Try.prog 20 #[.agg #[.int .i64 rd, v, .int .i64 fi, .int .i64 li], .int .i64 off, .string d, .bool fin] w (GotS w rd' l' fi' li' (.int .i64 c)) :=
  (irecvput_any v l rd fi li off d fin w hv (by have := hl.1; omega) hl.2 (by omega)).mono fun _ _ k => put_got h k
theorem sput_got {rd : Int} {l : List Qc} {fi li off : Int} {d : ByteArray} {fin : Bool} {rd' : Int} {l' : List Qc} {fi' li' c : Int} (h : PutV rd l fi li off d fin rd' l' fi' li' c) {v : Value} {w : World} {B : Nat} (hv : OwnPc w B v l) (hn : v ≠ .slice none 0 0) (hl : Szd l) (hd : d.size ≤ 2000000) :
    Calls Try.prog 19 #[.agg #[.int .i64 rd, v, .int .i64 fi, .int .i64 li], .int .i64 off, .string d, .bool fin] w (GotS w rd' l' fi' li' (.int .i64 c)) :=
  (srecvput_any v l rd fi li off d fin B w hv hn (by have := hl.1; omega) (fun p hp => (hl.2 p hp).2) hd).mono fun _ _ k => put_got h k
/-- What RecvRead answers, as values. -/
def ReadV (rd : Int) (l : List Qc) (fi li n : Int) (rd' : Int) (l' : List Qc) (fi' li' : Int) (s : ByteArray) : Prop :=
  if rvok rd l fi li ∧ (0 ≤ n ∧ n ≤ 30) then rd' = rd + ((min n.toNat (rdy rd l) : Nat) : Int) ∧ fi' = fi ∧ li' = li ∧ Red rd l (min n.toNat (rdy rd l)) l' s
  else rd' = 0 ∧ l' = [] ∧ fi' = 0 ∧ li' = 0 ∧ s = ⟨#[]⟩
theorem ReadV.ex (rd : Int) (l : List Qc) (fi li n : Int) : ∃ rd' l' fi' li' s, ReadV rd l fi li n rd' l' fi' li' s := by
  unfold ReadV
  by_cases h : rvok rd l fi li ∧ (0 ≤ n ∧ n ≤ 30)
  · obtain ⟨s, hs, _⟩ := red_read (k := min n.toNat (rdy rd l)) h.1.2.2.1 h.1.2.1.1 (Nat.min_le_right _ _)
    exact ⟨rd + ((min n.toNat (rdy rd l) : Nat) : Int), lcut l (rd + ((min n.toNat (rdy rd l) : Nat) : Int)), fi, li, s, by rw [if_pos h]; exact ⟨rfl, rfl, rfl, hs⟩⟩
  · exact ⟨0, [], 0, 0, ⟨#[]⟩, by rw [if_neg h]; exact ⟨rfl, rfl, rfl, rfl, rfl⟩⟩
theorem Red.uniq {rd : Int} {l l1 l2 : List Qc} {k : Nat} {s1 s2 : ByteArray} (h0 : 0 ≤ rd) (h1 : Red rd l k l1 s1) (h2 : Red rd l k l2 s2) : l1 = l2 ∧ s1 = s2 :=
  ⟨h1.pc.uniq (by omega) h2.pc, dat_ext (h1.sz.trans h2.sz.symm) fun i hi => (h1.by_ i (by rw [← h1.sz]; exact hi)).trans (h2.by_ i (by rw [← h1.sz]; exact hi)).symm⟩
theorem read_got {w : World} {rd : Int} {l : List Qc} {fi li n : Int} {rd' : Int} {l' : List Qc} {fi' li' : Int} {s : ByteArray} (h : ReadV rd l fi li n rd' l' fi' li' s) {e : Ending} {w' : World} (k : RReadAns w rd l fi li n e w') : GotS w rd' l' fi' li' (.string s) e w' := by
  unfold ReadV at h
  unfold RReadAns at k
  by_cases hv : rvok rd l fi li ∧ (0 ≤ n ∧ n ≤ 30)
  · rw [if_pos hv] at h k
    obtain ⟨rfl, rfl, rfl, hr⟩ := h
    obtain ⟨x, v, l2, s2, rfl, rfl, hr2, hb, ho, hn⟩ := k
    obtain ⟨rfl, rfl⟩ := Red.uniq hv.1.2.1.1 hr hr2
    exact ⟨v, rfl, hb, ho⟩
  · rw [if_neg hv] at h k
    obtain ⟨rfl, rfl, rfl, rfl, rfl⟩ := h
    exact ⟨_, k.1, k.2, OwnPc.nil _ _⟩
theorem ReadV.szd {rd : Int} {l : List Qc} {fi li n : Int} {rd' : Int} {l' : List Qc} {fi' li' : Int} {s : ByteArray} (h : ReadV rd l fi li n rd' l' fi' li' s) : Szd l' ∧ s.size ≤ 1000 := by
  unfold ReadV at h
  by_cases hv : rvok rd l fi li ∧ (0 ≤ n ∧ n ≤ 30)
  · rw [if_pos hv] at h
    refine ⟨rvok_szd (red_ok hv.1 (Nat.min_le_right _ _) h.2.2.2), ?_⟩
    rw [h.2.2.2.sz]
    have := hv.2
    omega
  · rw [if_neg hv] at h
    obtain ⟨_, rfl, _, _, rfl⟩ := h
    exact ⟨Szd.nil, by show 0 ≤ 1000; omega⟩
theorem iread_got {rd : Int} {l : List Qc} {fi li n : Int} {rd' : Int} {l' : List Qc} {fi' li' : Int} {s : ByteArray} (h : ReadV rd l fi li n rd' l' fi' li' s) {v : Value} {w : World} (hv : Pcn w v l) (hl : Szd l) :
    Calls Try.prog 24 #[.agg #[.int .i64 rd, v, .int .i64 fi, .int .i64 li], .int .i64 n] w (GotS w rd' l' fi' li' (.string s)) :=
  (irecvread_any v l rd fi li n w hv (by have := hl.1; omega) hl.2).mono fun _ _ k => read_got h k
theorem sread_got {rd : Int} {l : List Qc} {fi li n : Int} {rd' : Int} {l' : List Qc} {fi' li' : Int} {s : ByteArray} (h : ReadV rd l fi li n rd' l' fi' li' s) {v : Value} {w : World} {B : Nat} (hv : OwnPc w B v l) (hn : v ≠ .slice none 0 0) (hl : Szd l) :
    Calls Try.prog 23 #[.agg #[.int .i64 rd, v, .int .i64 fi, .int .i64 li], .int .i64 n] w (GotS w rd' l' fi' li' (.string s)) :=
  (srecvread_any v l rd fi li n B w hv hn (by have := hl.1; omega) (fun p hp => (hl.2 p hp).2)).mono fun _ _ k => read_got h k
/-- What RecvGrant answers, as values. -/
def GrantV (rd : Int) (l : List Qc) (fi li n : Int) (rd' : Int) (l' : List Qc) (fi' li' : Int) (q : Bool) : Prop :=
  if rvok rd l fi li ∧ (0 ≤ n ∧ n ≤ 30) then rd' = rd ∧ l' = l ∧ fi' = fi ∧ li' = (if n < li then li else n) ∧ q = decide (li ≤ n)
  else rd' = 0 ∧ l' = [] ∧ fi' = 0 ∧ li' = 0 ∧ q = false
theorem GrantV.ex (rd : Int) (l : List Qc) (fi li n : Int) : ∃ rd' l' fi' li' q, GrantV rd l fi li n rd' l' fi' li' q := by
  unfold GrantV
  by_cases h : rvok rd l fi li ∧ (0 ≤ n ∧ n ≤ 30)
  · exact ⟨rd, l, fi, if n < li then li else n, decide (li ≤ n), by rw [if_pos h]; exact ⟨rfl, rfl, rfl, rfl, rfl⟩⟩
  · exact ⟨0, [], 0, 0, false, by rw [if_neg h]; exact ⟨rfl, rfl, rfl, rfl, rfl⟩⟩
theorem grant_got {w : World} {rd : Int} {l : List Qc} {fi li n : Int} {rd' : Int} {l' : List Qc} {fi' li' : Int} {q : Bool} (h : GrantV rd l fi li n rd' l' fi' li' q) {e : Ending} {w' : World} (k : RGrantAns w rd l fi li n e w') : GotS w rd' l' fi' li' (.bool q) e w' := by
  unfold GrantV at h
  unfold RGrantAns at k
  by_cases hv : rvok rd l fi li ∧ (0 ≤ n ∧ n ≤ 30)
  · rw [if_pos hv] at h k
    obtain ⟨rfl, rfl, rfl, rfl, rfl⟩ := h
    obtain ⟨v, rfl, hb, ho, hn⟩ := k
    exact ⟨v, rfl, hb, ho⟩
  · rw [if_neg hv] at h k
    obtain ⟨rfl, rfl, rfl, rfl, rfl⟩ := h
    exact ⟨_, k.1, k.2, OwnPc.nil _ _⟩
theorem GrantV.szd {rd : Int} {l : List Qc} {fi li n : Int} {rd' : Int} {l' : List Qc} {fi' li' : Int} {q : Bool} (h : GrantV rd l fi li n rd' l' fi' li' q) (hl : Szd l) : Szd l' := by
  unfold GrantV at h
  by_cases hv : rvok rd l fi li ∧ (0 ≤ n ∧ n ≤ 30)
  · rw [if_pos hv] at h; rw [h.2.1]; exact hl
  · rw [if_neg hv] at h; rw [h.2.1]; exact Szd.nil
theorem igrant_got {rd : Int} {l : List Qc} {fi li n : Int} {rd' : Int} {l' : List Qc} {fi' li' : Int} {q : Bool} (h : GrantV rd l fi li n rd' l' fi' li' q) {v : Value} {w : World} (hv : Pcn w v l) (hl : Szd l) :
    Calls Try.prog 28 #[.agg #[.int .i64 rd, v, .int .i64 fi, .int .i64 li], .int .i64 n] w (GotS w rd' l' fi' li' (.bool q)) :=
  (irecvgrant_any v l rd fi li n w hv (by have := hl.1; omega) hl.2).mono fun _ _ k => grant_got h k
theorem sgrant_got {rd : Int} {l : List Qc} {fi li n : Int} {rd' : Int} {l' : List Qc} {fi' li' : Int} {q : Bool} (h : GrantV rd l fi li n rd' l' fi' li' q) {v : Value} {w : World} {B : Nat} (hv : OwnPc w B v l) (hn : v ≠ .slice none 0 0) (hl : Szd l) :
    Calls Try.prog 27 #[.agg #[.int .i64 rd, v, .int .i64 fi, .int .i64 li], .int .i64 n] w (GotS w rd' l' fi' li' (.bool q)) :=
  (srecvgrant_any v l rd fi li n B w hv hn (by have := hl.1; omega) (fun p hp => (hl.2 p hp).2)).mono fun _ _ k => grant_got h k

theorem OwnPc.n {w : World} {B : Nat} {v : Value} {l : List Pc} (h : OwnPc w B v l) : Pcn w v l := by
  by_cases hv : v = .slice none 0 0
  · subst hv
    have k := h
    obtain ⟨_, ⟨_, h0⟩ | ⟨_, _, _, e, _⟩⟩ := k
    · rw [List.length_eq_zero_iff.1 h0]; exact Pcn.nil w
    · cases e
  · exact (Pcs.of_own h hv).n
end Go.Proofs.Ythdhjjbgegcncaa
