/- The law FnRecvEnded: the walk.  -/
import Derived.Test.YtdhdomnhgcejhaaLawRv
import Derived.Test.YtdhdomnhgcejhaaQvM
import Derived.Deep.CutBlock
import Derived.BigQuiet
import Derived.Deep.Quiet
import Derived.Deep.QuietTactic
import Derived.Deep.Draws
namespace Go.Proofs.Ytdhdomnhgcejhaa
open Go.RowKit
set_option linter.unusedVariables false
set_option linter.unusedSimpArgs false

set_option maxRecDepth 100000 in
set_option maxHeartbeats 8000000 in
theorem reended_walk (a : Option Addr) (len cap : Nat) (zs : List Int) (w : World) (h : IsRow .u8 w a len cap zs) :
    Calls Try.prog 13 #[.slice a len cap] w fun e w' => e = .returned (.bool true) ∧ Below w.heap.size w w' := by
  have H := Lib.hid h
  clear h
  by_cases hl : 1048576 < len
  · go_enter Try.func13, Try.ntmps13
    go_wp2
    go_ret
    exact ⟨rfl, Below.refl _ _⟩
  go_enter Try.func13, Try.ntmps13
  go_wp2_with fail
  refine (drawRe_any a len cap zs w H.out).mono ?_
  rintro e w1 ⟨rd, fi, li, v, l, rfl, hb1, ho1, hn1, hbd⟩
  have HS := Lib.hid hbd.szd
  have HV := Lib.hid (Pcs.of_own ho1 hn1)
  obtain ⟨va, vc, rfl⟩ : ∃ a c, v = .slice a l.length c := by obtain ⟨g, c, e, _⟩ := ho1.sl hn1; exact ⟨_, c, e⟩
  have hll : l.length ≤ 1000 := HS.out.1
  have B := Lib.hid hb1
  have BX := Lib.hid (below_al w1 (.cells #[.int .i64 rd, .slice va l.length vc, .int .i64 fi, .int .i64 li] 30))
  have B := Lib.hid (bup B.out BX.out)
  have X := Lib.hid (Sv.new (rd := rd) (fi := fi) (li := li) ho1.n)
  have HV := Lib.hid (HV.out.below BX.out)
  clear hb1 ho1 hn1 hbd
  have xc0 := X.out.f 0
  have xc1 := X.out.f 1
  have xc2 := X.out.f 2
  have xc3 := X.out.f 3
  have CE := Lib.hid (irecvended_any _ l rd fi li _ X.out.p (by omega) HS.out.2)
  have CS : Hid (∀ W, Below _ _ W → Calls Try.prog 32 #[.agg #[.int .i64 rd, .slice va l.length vc, .int .i64 fi, .int .i64 li]] W fun e w' => e = .returned (.bool (decide (rvok rd l fi li ∧ rd = fi))) ∧ Below W.heap.size W w') := Lib.hid fun W hW => srecvended_any _ l rd fi li W (HV.out.below hW) (by omega) (fun p hp => (HS.out.2 p hp).2)
  have HQ : Hid (∀ q : Bool, decide (rvok rd l fi li ∧ rd = fi) = q → q = true → rd = fi ∧ l = [] ∧ rvok rd l fi li) := Lib.hid (fun q hq ht => by
    rw [ht] at hq
    obtain ⟨hv, he⟩ := of_decide_eq_true hq
    refine ⟨he, ?_, hv⟩
    have k := pend_le (rd := rd) (x := rd) hv.2.2.1 hv.2.1.1 (Int.le_refl _)
    have h4 : pend rd l ≤ rd := by obtain ⟨_, h2, h3, h4, h5⟩ := hv; omega
    cases l with
    | nil => rfl
    | cons p t =>
      have k2 := pok_bd (rd := rd) hv.2.2.1 p (by simp)
      have k3 := hv.2.2.1.2.1
      omega)
  obtain ⟨q, hq⟩ : ∃ q, decide (rvok rd l fi li ∧ rd = fi) = q := ⟨_, rfl⟩
  have HQ := Lib.hid (HQ.out q hq)
  rw [hq] at CE CS
  clear hq
  go_wp2_with fail
  generalize w1.alloc (.cells #[.int .i64 rd, .slice va l.length vc, .int .i64 fi, .int .i64 li] 30) = WX at *
  generalize w1.heap.size = bX at *
  refine CE.out.mono ?_
  rintro e w2 ⟨rfl, hb2⟩
  have CT := Lib.hid (CS.out w2 hb2)
  have X := Lib.hid (X.out.below hb2)
  have B := Lib.hid (bup B.out hb2)
  clear hb2 CE CS HV
  clear xc0 xc1 xc2 xc3
  have xc0 := X.out.f 0
  have xc1 := X.out.f 1
  have xc2 := X.out.f 2
  have xc3 := X.out.f 3
  go_wp2_with fail
  refine CT.out.mono ?_
  rintro e w3 ⟨rfl, hb3⟩
  have X := Lib.hid (X.out.below hb3)
  have B := Lib.hid (bup B.out hb3)
  clear hb3 CT
  have hqq : (q != q) = false := by simp
  have hqe : (q == q) = true := by simp
  clear xc0 xc1 xc2 xc3
  cases q with
  | false =>
    go_wp2_with fail
    go_ret
    exact ⟨rfl, B.out⟩
  | true =>
    obtain ⟨rfl, rfl, hv⟩ := HQ.out rfl
    have CR := Lib.hid (irecvready_any _ [] rd rd li w3 X.out.p (by simp) HS.out.2)
    have HR : Hid (rdyv rd [] rd li = 0) := Lib.hid (if_pos hv)
    rw [HR.out] at CR
    have hrr : (rd == rd) = true := by simp
    clear hv HR
    have xc0 := X.out.f 0
    have xc1 := X.out.f 1
    have xc2 := X.out.f 2
    have xc3 := X.out.f 3
    go_wp2_with fail
    refine CR.out.mono ?_
    rintro e w4 ⟨rfl, hb4⟩
    have X := Lib.hid (X.out.below hb4)
    have B := Lib.hid (bup B.out hb4)
    clear hb4 CR xc0 xc1 xc2 xc3
    have xc1 := X.out.f 1
    go_wp2_with fail
    go_ret
    exact ⟨rfl, B.out⟩
end Go.Proofs.Ytdhdomnhgcejhaa
