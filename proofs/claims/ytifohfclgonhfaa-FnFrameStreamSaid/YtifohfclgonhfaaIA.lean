/- strings.Builder; the program's functions of chapters 1 and 2 that frames use. -/
import Derived.Test.YtifohfclgonhfaaBase
import Derived.Shelf.Strings.Builder1
import Derived.Lib.Builder
import Derived.Lib.AppendStr
import Derived.Laws.Externs
import Derived.Test.YtifohfclgonhfaaSVar
import Derived.Laws.BytesArg
import Derived.Handy
import Derived.Laws.BitsAllLaws
import Derived.Test.YtifohfclgonhfaaRg
namespace Go.Proofs.Ytifohfclgonhfaa
open Go.RowKit Go.Shelf
set_option linter.unusedVariables false
set_option linter.unusedSimpArgs false

def Bld.ren : Go.Shelf.Ren := ⟨fun | 169 => 53 | n => n, fun | 70 => 68 | 9 => 9 | 0 => 0 | 72 => 70 | 37 => 22 | 127 => 119 | 3 => 3 | 5 => 5 | n => n, fun | n => n⟩
theorem Bld.lays : Go.Proofs.Lays.n169 Try.prog Bld.ren := {
  mixed := by kernel_rfl
  f169 := Try.func53.trans (congrArg some (by kernel_rfl))
  t0 := Try.underlying0
  a0 := Try.isAgg0
  z0 := Try.sizeOf0
  v0 := Try.zeroValue0
  t3 := Try.underlying3
  a3 := Try.isAgg3
  z3 := Try.sizeOf3
  v3 := Try.zeroValue3
  t9 := Try.underlying9
  a9 := Try.isAgg9
  z9 := Try.sizeOf9
  v9 := Try.zeroValue9
  t37 := Try.underlying22
  a37 := Try.isAgg22
  z37 := Try.sizeOf22
  v37 := Try.zeroValue22
  t70 := Try.underlying68
  a70 := Try.isAgg68
  z70 := Try.sizeOf68
  v70 := Try.zeroValue68
  t72 := Try.underlying70
  a72 := Try.isAgg70
  z72 := Try.sizeOf70
  v72 := Try.zeroValue70
  t127 := Try.underlying119
  a127 := Try.isAgg119
  z127 := Try.sizeOf119
  v127 := Try.zeroValue119 }
theorem Bld.extra : Builder.Extra Try.prog Bld.ren := {
  sizeBuilder := by kernel_rfl
  liesBuilder := by kernel_rfl
  t5 := Try.underlying5
  a5 := Try.isAgg5
  z5 := Try.sizeOf5
  v5 := Try.zeroValue5
  infoByte := by kernel_rfl
  cellsByte := by kernel_rfl
  sizeByte := by kernel_rfl
  neB5 := by decide }
theorem bstring_any (B b : Nat) (l : List UInt8) (w : World) (h : Lib.IsBuilder 70 5 B b (Lib.byteCells l) w) (hBw : B ≤ w.heap.size) :
    Calls Try.prog 53 #[.pointer (some ⟨b, 0, none⟩)] w fun e w' => e = .returned (.string ⟨l.toArray⟩) ∧ Below B w w' := Any.Builder_String_any Bld.lays Bld.extra B b l w h hBw

theorem bld_info : ∃ j, Try.prog.info? 70 = some j ∧ j.size = 2 := Option.map_eq_some_iff.1 Bld.extra.sizeBuilder

set_option maxRecDepth 100000 in
set_option maxHeartbeats 1000000 in
theorem copyCheck_used (b : Nat) (w : World) (h0 : w.cell? ⟨b, 0, none⟩ = some (.pointer (some ⟨b, 0, none⟩))) :
    Calls Try.prog 73 #[.pointer (some ⟨b, 0, none⟩)] w fun e w' => e = .returned (.tuple #[]) ∧ w' = w := by
  obtain ⟨j, hj, hjs⟩ := bld_info
  have HJ := Lib.hid hj
  clear hj
  go_enter Try.func73, Try.ntmps73
  go_wp2
  rw [Lib.run_neq_ptr_same w _ Try.underlying68 HJ.out]
  go_wp2
  go_end0
  exact ⟨rfl, rfl⟩

set_option maxRecDepth 100000 in
set_option maxHeartbeats 1000000 in
theorem copyCheck_fresh (b : Nat) (w : World) (h0 : w.cell? ⟨b, 0, none⟩ = some (.pointer none)) (hsh : w.shape? b = some (70, 2)) (hfz : w.frozen? ⟨b, 0, none⟩ = false) :
    Calls Try.prog 73 #[.pointer (some ⟨b, 0, none⟩)] w fun e w' => e = .returned (.tuple #[]) ∧ w' = w.setCell ⟨b, 0, none⟩ (.pointer (some ⟨b, 0, none⟩)) := by
  obtain ⟨j, hj, hjs⟩ := bld_info
  have HJ := Lib.hid hj
  have HJS := Lib.hid hjs
  have HSH := Lib.hid hsh
  clear hj hjs hsh
  go_enter Try.func73, Try.ntmps73
  go_wp2
  rw [Lib.run_to_unsafe w ⟨b, 0, none⟩ Try.underlying68 Try.underlying139 HJ.out (by rw [HJS.out]; decide) HSH.out (Nat.zero_lt_succ 1)]
  simp only [Result.andThen]
  rw [Oper.upon_value]
  go_wp2
  rw [run_callFunc_extern Try.func87 (by kernel_rfl) (by kernel_rfl) (by kernel_rfl) (e := Extern.AbiNoEscape.same) (by kernel_rfl)]
  rw [Lib.run_noEscape]
  simp only [Result.andThen]
  rw [Oper.upon_value]
  go_wp2
  rw [Lib.run_from_unsafe w ⟨b, 0, none⟩ Try.underlying139 Try.underlying68 HJ.out HSH.out Bld.extra.liesBuilder]
  simp only [Result.andThen]
  rw [Oper.upon_value]
  go_wp2
  go_end0
  exact ⟨rfl, rfl⟩

theorem copyCheck_any (B b : Nat) (bs : List Value) (w : World) (h : Lib.IsBuilder 70 5 B b bs w) :
    Calls Try.prog 73 #[.pointer (some ⟨b, 0, none⟩)] w fun e w' => e = .returned (.tuple #[]) ∧ (Lib.BuilderAt 70 5 B b (.pointer (some ⟨b, 0, none⟩)) bs w' ∧ Below B w w') := by
  rcases h with h | h
  · refine (copyCheck_fresh b w h.cell0 h.shape h.frozen0).mono ?_
    rintro e w' ⟨rfl, rfl⟩
    exact ⟨rfl, h.used _, (Below.refl B w).setCell (p := ⟨b, 0, none⟩) h.1 _⟩
  · refine (copyCheck_used b w h.cell0).mono ?_
    rintro e w' ⟨rfl, rfl⟩
    exact ⟨rfl, h, Below.refl B _⟩

set_option maxRecDepth 100000 in
set_option maxHeartbeats 2000000 in
theorem write_any (B b : Nat) (bs : List Value) (s : ByteArray) (w : World) (h : Lib.IsBuilder 70 5 B b bs w) (hlen : bs.length + s.size ≤ 140737488355328) (hBw : B ≤ w.heap.size) :
    Calls Try.prog 52 #[.pointer (some ⟨b, 0, none⟩), .string s] w fun e w' => e = .returned (.tuple #[.int .i64 s.size, .nilIface]) ∧ (Lib.BuilderAt 70 5 B b (.pointer (some ⟨b, 0, none⟩)) (bs ++ Lib.strCells s) w' ∧ Below B w w') := by
  obtain ⟨i0, hi, hz0, hz1, hz2⟩ := info_parts Bld.extra.infoByte
  have HI := Lib.hid hi
  clear hi
  go_enter Try.func52, Try.ntmps52
  go_wp2_with fail
  refine (copyCheck_any B b bs _ h).mono ?_
  rintro e w1 ⟨rfl, h1, hb1⟩
  obtain ⟨hB, v, hbk, hown, hne⟩ := h1
  have c0 : w1.cell? ⟨b, 0, none⟩ = some (.pointer (some ⟨b, 0, none⟩)) := by rw [Lib.cell_of_heap hbk]; rfl
  have c1 : w1.cell? ⟨b, 1, none⟩ = some v := by rw [Lib.cell_of_heap hbk]; rfl
  have HBK := Lib.hid hbk
  clear hbk
  go_wp2_with (at_builtin; refine Lib.wpList_append_own_string _ rfl _ _ 22 9 rfl B 5 i0 Try.underlying22 Try.underlying9 HI.out hz0 hz1 hz2 _ _ _ rfl hown s rfl ?c3 ?c4 ?c5 ?_)
  case c3 => unfold maxLen; omega
  case c4 => omega
  case c5 => have := hb1.size; omega
  intro v' w2 hown' hgrow _
  have hbk := HBK.out
  have hlt : b < w1.heap.size := by
    rcases Nat.lt_or_ge b w1.heap.size with h' | h'
    · exact h'
    · simp [Array.getElem?_eq_none h'] at hbk
  have hb2 : w2.heap[b]? = some (.cells #[.pointer (some ⟨b, 0, none⟩), v] 70 (0, 0)) := by
    rw [hgrow.block b hlt (fun e => hne e.symm)]
    exact hbk
  have d0 : w2.cell? ⟨b, 0, none⟩ = some (.pointer (some ⟨b, 0, none⟩)) := by rw [Lib.cell_of_heap hb2]; rfl
  have d1 : w2.cell? ⟨b, 1, none⟩ = some v := by rw [Lib.cell_of_heap hb2]; rfl
  have f1 : w2.frozen? ⟨b, 1, none⟩ = false := Lib.frozen_of_heap hb2 1
  obtain ⟨ao, n', cap, rfl⟩ : ∃ ao n' cap, v' = .slice ao n' cap := by
    rcases hown'.2 with ⟨hv, _⟩ | ⟨g, cap, cur, hv, _⟩
    · exact ⟨_, _, _, hv⟩
    · exact ⟨_, _, _, hv⟩
  have HB2 := Lib.hid hb2
  clear hbk hb2
  go_wp2
  go_ret2
  refine ⟨rfl, ?_, ?_⟩
  · exact Lib.BuilderAt.put (T := 70) (e := 5) hB HB2.out (bs' := bs ++ Lib.strCells s) (by simpa [Lib.strCells_length] using hown') (by decide)
  · exact (hb1.grown hgrow (by have := hb1.size; omega) (fun k hk => (hown.lt k hk).1)).setCell (p := ⟨b, 1, none⟩) hB _

/-- What a write leaves as it was. -/
def Far (b : Nat) (w w' : World) : Prop := ∀ k, k < w.heap.size → k ≠ b → (∀ p v, w.heap[b]? = some (.cells #[p, v] 70 (0, 0)) → v.ownBlock ≠ some k) → w'.heap[k]? = w.heap[k]?
theorem copyCheck_far (B b : Nat) (bs : List Value) (w : World) (h : Lib.IsBuilder 70 5 B b bs w) :
    Calls Try.prog 73 #[.pointer (some ⟨b, 0, none⟩)] w fun e w' => e = .returned (.tuple #[]) ∧ (Lib.BuilderAt 70 5 B b (.pointer (some ⟨b, 0, none⟩)) bs w' ∧ Below B w w' ∧ ∃ p v p', w.heap[b]? = some (.cells #[p, v] 70 (0, 0)) ∧ w'.heap[b]? = some (.cells #[p', v] 70 (0, 0)) ∧ ∀ k, k ≠ b → w'.heap[k]? = w.heap[k]?) := by
  rcases h with h | h
  · refine (copyCheck_fresh b w h.cell0 h.shape h.frozen0).mono ?_
    rintro e w' ⟨rfl, rfl⟩
    refine ⟨rfl, h.used _, (Below.refl B w).setCell (p := ⟨b, 0, none⟩) h.1 _, ?_⟩
    obtain ⟨hB, v, hb, _, _⟩ := h
    refine ⟨_, v, .pointer (some ⟨b, 0, none⟩), hb, ?_, fun k hk => Below.heap_setCell _ _ _ k (fun e => hk (by rw [e]))⟩
    obtain ⟨hlt, hk⟩ := Array.getElem?_eq_some_iff.1 hb
    show (w.heap.modify b _)[b]? = _
    rw [Array.getElem?_eq_getElem (by rw [Array.size_modify]; exact hlt), Array.getElem_modify_self, hk]
    rfl
  · refine (copyCheck_used b w h.cell0).mono ?_
    rintro e w' ⟨rfl, rfl⟩
    refine ⟨rfl, h, Below.refl B _, ?_⟩
    obtain ⟨hB, v, hb, _, _⟩ := h
    exact ⟨_, v, _, hb, hb, fun k hk => rfl⟩

set_option maxRecDepth 100000 in
set_option maxHeartbeats 2000000 in
theorem write_far (B b : Nat) (bs : List Value) (s : ByteArray) (w : World) (h : Lib.IsBuilder 70 5 B b bs w) (hlen : bs.length + s.size ≤ 140737488355328) (hBw : B ≤ w.heap.size) :
    Calls Try.prog 52 #[.pointer (some ⟨b, 0, none⟩), .string s] w fun e w' => e = .returned (.tuple #[.int .i64 s.size, .nilIface]) ∧ (Lib.BuilderAt 70 5 B b (.pointer (some ⟨b, 0, none⟩)) (bs ++ Lib.strCells s) w' ∧ Below B w w' ∧ Far b w w') := by
  obtain ⟨i0, hi, hz0, hz1, hz2⟩ := info_parts Bld.extra.infoByte
  have HI := Lib.hid hi
  clear hi
  go_enter Try.func52, Try.ntmps52
  go_wp2_with fail
  refine (copyCheck_far B b bs _ h).mono ?_
  rintro e w1 ⟨rfl, h1, hb1, hfar⟩
  have HFAR := Lib.hid hfar
  clear hfar
  obtain ⟨hB, v, hbk, hown, hne⟩ := h1
  have c0 : w1.cell? ⟨b, 0, none⟩ = some (.pointer (some ⟨b, 0, none⟩)) := by rw [Lib.cell_of_heap hbk]; rfl
  have c1 : w1.cell? ⟨b, 1, none⟩ = some v := by rw [Lib.cell_of_heap hbk]; rfl
  have HBK := Lib.hid hbk
  clear hbk
  go_wp2_with (at_builtin; refine Lib.wpList_append_own_string _ rfl _ _ 22 9 rfl B 5 i0 Try.underlying22 Try.underlying9 HI.out hz0 hz1 hz2 _ _ _ rfl hown s rfl ?c3 ?c4 ?c5 ?_)
  case c3 => unfold maxLen; omega
  case c4 => omega
  case c5 => have := hb1.size; omega
  intro v' w2 hown' hgrow _
  have hbk := HBK.out
  have hlt : b < w1.heap.size := by
    rcases Nat.lt_or_ge b w1.heap.size with h' | h'
    · exact h'
    · simp [Array.getElem?_eq_none h'] at hbk
  have hb2 : w2.heap[b]? = some (.cells #[.pointer (some ⟨b, 0, none⟩), v] 70 (0, 0)) := by
    rw [hgrow.block b hlt (fun e => hne e.symm)]
    exact hbk
  have d0 : w2.cell? ⟨b, 0, none⟩ = some (.pointer (some ⟨b, 0, none⟩)) := by rw [Lib.cell_of_heap hb2]; rfl
  have d1 : w2.cell? ⟨b, 1, none⟩ = some v := by rw [Lib.cell_of_heap hb2]; rfl
  have f1 : w2.frozen? ⟨b, 1, none⟩ = false := Lib.frozen_of_heap hb2 1
  obtain ⟨ao, n', cap, rfl⟩ : ∃ ao n' cap, v' = .slice ao n' cap := by
    rcases hown'.2 with ⟨hv, _⟩ | ⟨g, cap, cur, hv, _⟩
    · exact ⟨_, _, _, hv⟩
    · exact ⟨_, _, _, hv⟩
  have HB2 := Lib.hid hb2
  clear hbk hb2
  go_wp2
  go_ret2
  refine ⟨rfl, ?_, ?_, ?_⟩
  · exact Lib.BuilderAt.put (T := 70) (e := 5) hB HB2.out (bs' := bs ++ Lib.strCells s) (by simpa [Lib.strCells_length] using hown') (by decide)
  · exact (hb1.grown hgrow (by have := hb1.size; omega) (fun k hk => (hown.lt k hk).1)).setCell (p := ⟨b, 1, none⟩) hB _
  · obtain ⟨p0, v0, p1, q1, q2, q3⟩ := HFAR.out
    have hv : v0 = v := by have := q2.symm.trans HBK.out; simp at this; exact this.2
    subst hv
    intro k hk hkb hkv
    refine (Below.heap_setCell _ _ _ k (fun e => hkb (by rw [e]))).trans ((hgrow.block k ?_ (fun e => hkv _ _ q1 e.symm)).trans (q3 k hkb))
    have := hb1.size; omega

set_option maxRecDepth 100000 in
set_option maxHeartbeats 400000 in
theorem size_any (n : Int) (w : World) : Calls Try.prog 93 #[.int .i64 n] w fun e w' => e = .returned (.int .i64 (vlen n)) ∧ w = w' := by
  by_cases h1 : n < 0
  · go_enter Try.func93, Try.ntmps93
    go_wp2
    go_ret
    exact ⟨ret_int (by unfold vlen; omega), rfl⟩
  · by_cases h2 : 1073741823 < n
    all_goals
      go_enter Try.func93, Try.ntmps93
      go_wp2
      all_goals
        go_ret
        exact ⟨ret_int (by unfold vlen; omega), rfl⟩
theorem or64 (k : Int) (h0 : 0 ≤ k) (h1 : k < 64) : bits BinOp.or IntKind.u8 64 k = 64 + k := by
  obtain ⟨m, rfl⟩ := Int.eq_ofNat_of_zero_le h0
  have hm : m < 64 := by omega
  have H : ∀ m : Fin 64, bits BinOp.or IntKind.u8 64 (m.val : Int) = 64 + (m.val : Int) := by decide
  exact H ⟨m, hm⟩
set_option maxRecDepth 100000 in
set_option maxHeartbeats 400000 in
theorem ienc_any (n : Int) (w : World) : Calls Try.prog 81 #[.int .i64 n] w fun e w' => e = .returned (.string (encS n)) ∧ Below w.heap.size w w' := by
  by_cases g0 : n < 0 ∨ 1073741823 < n
  · have hv : vlen n = 0 := by unfold vlen; omega
    have HV := Lib.hid hv
    clear hv
    go_enter Try.func81, Try.ntmps81
    go_wp2_with (go_at_call 93; refine (size_any _ _).mono ?_; rw [HV.out]; rintro e w' ⟨rfl, rfl⟩)
    go_ret
    exact ⟨ret_str (by unfold encS; rw [encN_0 HV.out]; rfl), Below.refl _ _⟩
  by_cases g1 : n < 64
  · have hv : vlen n = 1 := by unfold vlen; omega
    have HV := Lib.hid hv
    have h0 : 0 ≤ n := by omega
    clear hv g0
    have cv := conv1
    go_enter Try.func81, Try.ntmps81
    go_wp2_with (go_at_call 93; refine (size_any _ _).mono ?_; rw [HV.out]; rintro e w' ⟨rfl, rfl⟩)
    go_ret
    exact ⟨ret_str (str_of (encN_1 HV.out).symm), (Below.refl _ _).alloc (Nat.le_refl _) _⟩
  by_cases g2 : n < 16384
  · have hv : vlen n = 2 := by unfold vlen; omega
    have HV := Lib.hid hv
    have h0 : 64 ≤ n := by omega
    have HB := Lib.hid (or64 (n / 256) (by omega) (by omega))
    clear hv g0 g1
    have cv := conv2
    go_enter Try.func81, Try.ntmps81
    go_wp2_with (go_at_call 93; refine (size_any _ _).mono ?_; rw [HV.out]; rintro e w' ⟨rfl, rfl⟩)
    go_ret
    exact ⟨ret_str (str_of (by rw [encN_2 HV.out, HB.out])), (Below.refl _ _).alloc (Nat.le_refl _) _⟩
  · have hv : vlen n = 4 := by unfold vlen; omega
    have HV := Lib.hid hv
    have h0 : 16384 ≤ n := by omega
    have h1 : n ≤ 1073741823 := by omega
    clear hv g0 g1 g2
    have cv := conv4
    go_enter Try.func81, Try.ntmps81
    go_wp2_with (go_at_call 93; refine (size_any _ _).mono ?_; rw [HV.out]; rintro e w' ⟨rfl, rfl⟩)
    go_ret
    exact ⟨ret_str (str_of (encN_4 HV.out).symm), (Below.refl _ _).alloc (Nat.le_refl _) _⟩
theorem or_i64_nat (a b : Nat) (ha : a < 9223372036854775808) (hb : b < 9223372036854775808) : bits .or .i64 (a : Int) (b : Int) = ((a ||| b : Nat) : Int) := by
  have hx : a ||| b < 2 ^ 63 := Nat.or_lt_two_pow (by omega) (by omega)
  have h1 : (BitVec.ofInt 64 (a : Int)).toNat = a := by
    rw [BitVec.ofInt_natCast, BitVec.toNat_ofNat]; exact Nat.mod_eq_of_lt (by omega)
  have h2 : (BitVec.ofInt 64 (b : Int)).toNat = b := by
    rw [BitVec.ofInt_natCast, BitVec.toNat_ofNat]; exact Nat.mod_eq_of_lt (by omega)
  show IntKind.i64.wrap ((BitVec.ofInt 64 (a : Int) ||| BitVec.ofInt 64 (b : Int)).toNat : Int) = _
  rw [BitVec.toNat_or, h1, h2, IntKind.wrap_i64]
  omega
theorem shl_or (a b : Int) (h0 : 0 ≤ a) (h1 : a < 1099511627776) (h2 : 0 ≤ b) (h3 : b < 256) : bits .or .i64 (a * 256) b = a * 256 + b := by
  obtain ⟨m, rfl⟩ := Int.eq_ofNat_of_zero_le h0
  obtain ⟨k, rfl⟩ := Int.eq_ofNat_of_zero_le h2
  have e : ((m : Int) * 256) = ((m * 256 : Nat) : Int) := by omega
  rw [e, or_i64_nat _ _ (by omega) (by omega), nat_join 8 (m * 256) k (by omega) (by omega)]
  omega
theorem four (a b c d : Int) (a0 : 0 ≤ a) (a1 : a < 256) (b0 : 0 ≤ b) (b1 : b < 256) (c0 : 0 ≤ c) (c1 : c < 256) (d0 : 0 ≤ d) (d1 : d < 256) :
    bits BinOp.or IntKind.i64 (wrap64 (bits BinOp.or IntKind.i64 (wrap64 (bits BinOp.or IntKind.i64 (a % 64 * 256) (wrap64 b) * 256)) (wrap64 c) * 256)) (wrap64 d) = ((a % 64 * 256 + b) * 256 + c) * 256 + d := by
  have k1 := shl_or (a % 64) b (by omega) (by omega) b0 b1
  have k2 := shl_or (a % 64 * 256 + b) c (by omega) (by omega) c0 c1
  have k3 := shl_or ((a % 64 * 256 + b) * 256 + c) d (by omega) (by omega) d0 d1
  rw [w64 b b0 (by omega), w64 c c0 (by omega), w64 d d0 (by omega), k1, w64 ((a % 64 * 256 + b) * 256) (by omega) (by omega), k2, w64 (((a % 64 * 256 + b) * 256 + c) * 256) (by omega) (by omega), k3]
set_option maxRecDepth 100000 in
set_option maxHeartbeats 1000000 in
theorem rv_1 (s : ByteArray) (w : World) (hs : s.size ≤ maxLen) (h0 : 0 < s.size) (hb : s[0].toNat < 64) : Calls Try.prog 84 #[.string s] w fun e w' => e = .returned (.tuple #[.int .i64 (dval s), .int .i64 (dsz s)]) ∧ w = w' := by
  unfold maxLen at hs
  have he := isEmpty_of_pos (s := s) (by omega)
  have e0 := bt_eq s 0 (by omega)
  have hd : dsz s = 1 := by unfold dsz; rw [if_neg (by omega)]; omega
  have hv : dval s = bt s 0 % 64 := by rw [dval_1 hd]; omega
  have E0 := Lib.hid e0
  have HD := Lib.hid hd
  have HV := Lib.hid hv
  clear hd hv e0
  have hq : s[0].toNat / 64 = 0 := by omega
  have hqi : (s[0].toNat : Int) / 64 = 0 := by omega
  go_enter Try.func84, Try.ntmps84
  go_wp2
  go_rounds 1
  go_ret2
  exact ⟨ret_pair (by rw [HV.out, E0.out]) (HD.out).symm, rfl⟩
set_option maxRecDepth 100000 in
set_option maxHeartbeats 1000000 in
theorem rv_2 (s : ByteArray) (w : World) (hs : s.size ≤ maxLen) (h0 : 2 ≤ s.size) (hb : 64 ≤ s[0].toNat) (hb2 : s[0].toNat < 128) : Calls Try.prog 84 #[.string s] w fun e w' => e = .returned (.tuple #[.int .i64 (dval s), .int .i64 (dsz s)]) ∧ w = w' := by
  unfold maxLen at hs
  have he := isEmpty_of_pos (s := s) (by omega)
  have e0 := bt_eq s 0 (by omega)
  have e1 := bt_eq s 1 (by omega)
  have hd : dsz s = 2 := by unfold dsz; rw [if_neg (by omega)]; omega
  have hv : dval s = bt s 0 % 64 * 256 + bt s 1 := by rw [dval_2 hd]; omega
  have E0 := Lib.hid e0
  have E1 := Lib.hid e1
  have HD := Lib.hid hd
  have HV := Lib.hid hv
  clear hd hv e0 e1
  have hq : s[0].toNat / 64 = 1 := by omega
  have hqi : (s[0].toNat : Int) / 64 = 1 := by omega
  go_enter Try.func84, Try.ntmps84
  go_wp2
  go_rounds 2
  go_ret2
  exact ⟨ret_pair (by rw [HV.out, E0.out, E1.out, w64 _ (bt_lo s 1) (by have := bt_hi s 1; omega), shl_or _ _ (by have := bt_lo s 0; omega) (by omega) (bt_lo s 1) (bt_hi s 1)]) (HD.out).symm, rfl⟩
set_option maxRecDepth 100000 in
set_option maxHeartbeats 1000000 in
theorem rv_4 (s : ByteArray) (w : World) (hs : s.size ≤ maxLen) (h0 : 4 ≤ s.size) (hb : 128 ≤ s[0].toNat) (hb2 : s[0].toNat < 192) : Calls Try.prog 84 #[.string s] w fun e w' => e = .returned (.tuple #[.int .i64 (dval s), .int .i64 (dsz s)]) ∧ w = w' := by
  unfold maxLen at hs
  have he := isEmpty_of_pos (s := s) (by omega)
  have e0 := bt_eq s 0 (by omega)
  have e1 := bt_eq s 1 (by omega)
  have e2 := bt_eq s 2 (by omega)
  have e3 := bt_eq s 3 (by omega)
  have hd : dsz s = 4 := by unfold dsz; rw [if_neg (by omega)]; omega
  have hv : dval s = ((bt s 0 % 64 * 256 + bt s 1) * 256 + bt s 2) * 256 + bt s 3 := by rw [dval_4 hd]; omega
  have E0 := Lib.hid e0
  have E1 := Lib.hid e1
  have E2 := Lib.hid e2
  have E3 := Lib.hid e3
  have HD := Lib.hid hd
  have HV := Lib.hid hv
  clear hd hv e0 e1 e2 e3
  have hq : s[0].toNat / 64 = 2 := by omega
  have hqi : (s[0].toNat : Int) / 64 = 2 := by omega
  go_enter Try.func84, Try.ntmps84
  go_wp2
  go_rounds 4
  go_ret2
  exact ⟨ret_pair (by rw [HV.out, E0.out, E1.out, E2.out, E3.out]; exact four _ _ _ _ (bt_lo s 0) (bt_hi s 0) (bt_lo s 1) (bt_hi s 1) (bt_lo s 2) (bt_hi s 2) (bt_lo s 3) (bt_hi s 3)) (HD.out).symm, rfl⟩
set_option maxRecDepth 100000 in
set_option maxHeartbeats 1000000 in
theorem rv_short (s : ByteArray) (w : World) (hs : s.size ≤ maxLen) (h0 : 0 < s.size) (hb : (64 ≤ s[0].toNat ∧ s[0].toNat < 128 ∧ s.size < 2) ∨ (128 ≤ s[0].toNat ∧ s[0].toNat < 192 ∧ s.size < 4) ∨ 192 ≤ s[0].toNat) : Calls Try.prog 84 #[.string s] w fun e w' => e = .returned (.tuple #[.int .i64 (dval s), .int .i64 (dsz s)]) ∧ w = w' := by
  unfold maxLen at hs
  have he := isEmpty_of_pos (s := s) (by omega)
  have e0 := bt_eq s 0 (by omega)
  have hd : dsz s = 0 := by unfold dsz; rw [if_neg (by omega)]; omega
  have HD := Lib.hid hd
  have hx : (s[0].toNat : Int) < 256 := by rw [e0]; exact bt_hi s 0
  clear hd e0
  rcases hb with ⟨hb, hb2, hb3⟩ | ⟨hb, hb2, hb3⟩ | hb
  · have hq : s[0].toNat / 64 = 1 := by omega
    have hqi : (s[0].toNat : Int) / 64 = 1 := by omega
    clear hx
    go_enter Try.func84, Try.ntmps84
    go_wp2
    go_ret2
    exact ⟨ret_pair (dval_0 HD.out).symm (HD.out).symm, rfl⟩
  · have hq : s[0].toNat / 64 = 2 := by omega
    have hqi : (s[0].toNat : Int) / 64 = 2 := by omega
    clear hx
    go_enter Try.func84, Try.ntmps84
    go_wp2
    go_ret2
    exact ⟨ret_pair (dval_0 HD.out).symm (HD.out).symm, rfl⟩
  · have hq : s[0].toNat / 64 = 3 := by omega
    have hqi : (s[0].toNat : Int) / 64 = 3 := by omega
    clear hx
    go_enter Try.func84, Try.ntmps84
    go_wp2
    go_ret2
    exact ⟨ret_pair (dval_0 HD.out).symm (HD.out).symm, rfl⟩
set_option maxRecDepth 100000 in
set_option maxHeartbeats 400000 in
theorem rv_none (s : ByteArray) (w : World) (h0 : s.size = 0) : Calls Try.prog 84 #[.string s] w fun e w' => e = .returned (.tuple #[.int .i64 (dval s), .int .i64 (dsz s)]) ∧ w = w' := by
  have he := isEmpty_of_zero h0
  have hd : dsz s = 0 := by unfold dsz; rw [if_pos h0]
  have HD := Lib.hid hd
  clear hd h0
  go_enter Try.func84, Try.ntmps84
  go_wp2
  go_ret2
  exact ⟨ret_pair (dval_0 HD.out).symm (HD.out).symm, rfl⟩
theorem rv_any (s : ByteArray) (w : World) (hs : s.size ≤ maxLen) : Calls Try.prog 84 #[.string s] w fun e w' => e = .returned (.tuple #[.int .i64 (dval s), .int .i64 (dsz s)]) ∧ w = w' := by
  by_cases h0 : s.size = 0
  · exact rv_none s w h0
  by_cases h1 : s[0].toNat < 64
  · exact rv_1 s w hs (by omega) h1
  by_cases h2 : s[0].toNat < 128
  · by_cases h3 : 2 ≤ s.size
    · exact rv_2 s w hs h3 (by omega) h2
    · exact rv_short s w hs (by omega) (.inl ⟨by omega, h2, by omega⟩)
  by_cases h4 : s[0].toNat < 192
  · by_cases h3 : 4 ≤ s.size
    · exact rv_4 s w hs h3 (by omega) h4
    · exact rv_short s w hs (by omega) (.inr (.inl ⟨by omega, h4, by omega⟩))
  · exact rv_short s w hs (by omega) (.inr (.inr (by omega)))
def dok (s : ByteArray) : Bool := decide (0 < dsz s)
def mini (s : ByteArray) : Bool := decide (0 < dsz s ∧ dsz s = s.size ∧ dsz s = vlen (dval s))
set_option maxRecDepth 100000 in
set_option maxHeartbeats 400000 in
theorem imin_any (s : ByteArray) (w : World) (hs : s.size ≤ maxLen) : Calls Try.prog 85 #[.string s] w fun e w' => e = .returned (.bool (mini s)) ∧ w = w' := by
  by_cases h0 : dsz s = 0
  · have hm : mini s = false := decide_eq_false (by omega)
    have hg : decide (0 < dsz s) = false := decide_eq_false (by omega)
    have HM := Lib.hid hm
    clear hm h0
    go_enter Try.func85, Try.ntmps85
    go_wp2_with (go_at_call 84; refine (rv_any _ _ hs).mono ?_; rintro e w' ⟨rfl, rfl⟩)
    go_ret
    exact ⟨ret_bool HM.out.symm, rfl⟩
  · have hp : 0 < dsz s := by have := dsz_cases s; omega
    by_cases h1 : dsz s = s.size
    · have hg : decide (0 < dsz s) = true := decide_eq_true hp
      have hg2 : (dsz s == (s.size : Int)) = true := by rw [beq_iff_eq]; exact h1
      have hm : mini s = (dsz s == vlen (dval s)) := by unfold mini; rw [Bool.eq_iff_iff, decide_eq_true_eq, beq_iff_eq]; omega
      have HM := Lib.hid hm
      clear hm h0 h1
      go_enter Try.func85, Try.ntmps85
      go_wp2_with (first | (go_at_call 84; refine (rv_any _ _ hs).mono ?_; rintro e w' ⟨rfl, rfl⟩) | (go_at_call 93; refine (size_any _ _).mono ?_; rintro e w' ⟨rfl, rfl⟩))
      go_ret
      exact ⟨ret_bool HM.out.symm, rfl⟩
    · have hg : decide (0 < dsz s) = true := decide_eq_true hp
      have hg2 : (dsz s == (s.size : Int)) = false := by rw [beq_eq_false_iff_ne]; exact h1
      have hm : mini s = false := decide_eq_false (by omega)
      have HM := Lib.hid hm
      clear hm h0 h1
      go_enter Try.func85, Try.ntmps85
      go_wp2_with (go_at_call 84; refine (rv_any _ _ hs).mono ?_; rintro e w' ⟨rfl, rfl⟩)
      go_ret
      exact ⟨ret_bool HM.out.symm, rfl⟩

theorem next_step (l : List (Int × Int)) (k : Nat) (h : k < l.length) (hv : vfrom 0 (l.take k) = true) :
    (vfrom 0 (l.take (k + 1)) = true ↔ (nextFrom 0 (l.take k) ≤ (l.getD k (0, 0)).1 ∧ (l.getD k (0, 0)).1 ≤ (l.getD k (0, 0)).2 ∧ (l.getD k (0, 0)).2 ≤ 999)) ∧ nextFrom 0 (l.take (k + 1)) = (l.getD k (0, 0)).2 + 2 := by
  rw [take_get l k h, vfrom_snoc, nextFrom_snoc]
  exact ⟨⟨fun z => z.2, fun z => ⟨hv, z⟩⟩, rfl⟩
theorem ret_rv {l : List (Int × Int)} (h : vfrom 0 l = false) : Ending.returned (.bool false) = .returned (.bool (rvalid l)) := ret_bool (by unfold rvalid; rw [h]; rfl)

set_option maxRecDepth 100000 in
set_option maxHeartbeats 2000000 in
theorem ivalid_any (v : Value) (l : List (Int × Int)) (w : World) (h : Rngs w v l) (hlen : l.length ≤ 1048576) :
    Calls Try.prog 36 #[v] w fun e w' => e = .returned (.bool (rvalid l)) ∧ Below w.heap.size w w' := by
  obtain ⟨a, c, rfl, h⟩ := h
  have HC := Lib.hid h
  clear h
  by_cases h16 : 16 < l.length
  · have h16' : (16 : Int) < (l.length : Int) := by omega
    have HX := Lib.hid (show rvalid l = false by unfold rvalid; rw [decide_eq_false (by omega)]; simp)
    go_enter Try.func36, Try.ntmps36
    go_wp2_with fail
    go_ret
    exact ⟨ret_bool HX.out.symm, Below.refl _ _⟩
  have h16' : ¬ (16 : Int) < (l.length : Int) := by omega
  go_enter Try.func36, Try.ntmps36
  go_wp2_with fail
  go_loopw [3, 5, 11] (fun lv rv iv wr => ∃ (k : Nat) (nx : Int), k ≤ l.length ∧ iv = .int .i64 k ∧ lv = .int .i64 nx ∧ Hid (vfrom 0 (l.take k) = true ∧ nextFrom 0 (l.take k) = nx) ∧ Below w.heap.size w wr) (fun _ _ iv _ => l.length - (intOf iv).toNat)
  case atStart => exact ⟨0, 0, Nat.zero_le _, rfl, rfl, ⟨rfl, rfl⟩, Below.refl _ _⟩
  case round =>
    obtain ⟨k, nx, hk, rfl, rfl, HV, hbel⟩ := hrel
    have HB := Lib.hid hbel
    clear hbel
    by_cases hlt : k < l.length
    · obtain ⟨g, o, rfl, hc⟩ := HC.out (by rintro rfl; simp at hlt)
      have b1 : (k : Int) < (l.length : Int) := by omega
      obtain ⟨e1, e2⟩ := hc k hlt
      have e1 := (HB.out.cell (World.block_lt_of_cell? w _ e1)).trans e1
      have e2 := (HB.out.cell (World.block_lt_of_cell? w _ e2)).trans e2
      have hst := next_step l k hlt HV.out.1
      rw [HV.out.2] at hst
      have HST := Lib.hid hst
      have HBD := Lib.hid (fun h => valid_bad l k hlt h)
      have HB2 := Lib.hid (HB.out.alloc HB.out.size (.cells #[.int .i64 (l.getD k (0, 0)).1, .int .i64 (l.getD k (0, 0)).2] 85))
      clear hc hst
      generalize (l.getD k (0, 0)).1 = x at e1 HST HB2
      generalize (l.getD k (0, 0)).2 = y at e2 HST HB2
      by_cases c1 : x < nx
      · have hd : decide (x < nx) = true := decide_eq_true c1
        have HF := Lib.hid (HBD.out fun h => by have := HST.out.1.1 h; omega)
        go_wp2_with fail
        go_ret
        exact ⟨ret_rv HF.out, HB2.out⟩
      · have hd : decide (x < nx) = false := decide_eq_false c1
        by_cases c2 : y < x
        · have hd2 : decide (y < x) = true := decide_eq_true c2
          have HF := Lib.hid (HBD.out fun h => by have := HST.out.1.1 h; omega)
          go_wp2_with fail
          go_ret
          exact ⟨ret_rv HF.out, HB2.out⟩
        · have hd2 : decide (y < x) = false := decide_eq_false c2
          by_cases c3 : 999 < y
          · have hd3 : decide (999 < y) = true := decide_eq_true c3
            have HF := Lib.hid (HBD.out fun h => by have := HST.out.1.1 h; omega)
            go_wp2_with fail
            go_ret
            exact ⟨ret_rv HF.out, HB2.out⟩
          · have hd3 : decide (999 < y) = false := decide_eq_false c3
            have HN := Lib.hid (HST.out.1.2 ⟨by omega, by omega, by omega⟩)
            have hnn := nextFrom_ge (l.take k) 0 HV.out.1
            rw [HV.out.2] at hnn
            have w2 : IntKind.i64.wrap (y + 2) = y + 2 := IntWalk.i64_in _ (by omega)
            go_wp2_with fail
            go_roundw
            case rel => exact ⟨k + 1, y + 2, by omega, by go_num, rfl, ⟨HN.out, HST.out.2⟩, HB2.out⟩
            case measure => simp [intOf]; omega
    · have he : vfrom 0 l = true := by
        have := HV.out.1
        rwa [List.take_of_length_le (by omega)] at this
      have HE := Lib.hid he
      clear he
      go_wp2_with fail
      go_ret
      exact ⟨ret_bool (by unfold rvalid; rw [HE.out]; simp; omega), HB.out⟩

end Go.Proofs.Ytifohfclgonhfaa
