/- The program's bodies of frames: their methods. -/
import Derived.Test.YthflokonihegbaaIBod
import Derived.Test.YthflokonihegbaaIVal
namespace Go.Proofs.Ythflokonihegbaa
open Go.RowKit
set_option linter.unusedVariables false
set_option linter.unusedSimpArgs false

set_option maxRecDepth 100000 in
set_option maxHeartbeats 1000000 in
theorem upTo_any (n l : Int) (w : World) : Calls Try.prog 114 #[.int .i64 n, .int .i64 l] w fun e w' => e = .returned (.bool (decide (0 ≤ n ∧ n ≤ l))) ∧ w = w' := by
  by_cases h0 : 0 ≤ n
  · by_cases h1 : n ≤ l
    · have d0 := decide_eq_true h0
      have d1 := decide_eq_true h1
      go_enter Try.func114, Try.ntmps114
      go_wp2
      go_ret
      exact ⟨ret_bool (decide_eq_true ⟨h0, h1⟩).symm, rfl⟩
    · have d0 := decide_eq_true h0
      have d1 := decide_eq_false h1
      go_enter Try.func114, Try.ntmps114
      go_wp2
      go_ret
      exact ⟨rfl, rfl⟩
  · have d0 := decide_eq_false h0
    go_enter Try.func114, Try.ntmps114
    go_wp2
    go_ret
    exact ⟨rfl, rfl⟩

def fnorm (f : Fr) : Fr := ⟨f.k, if f.k = 0 ∨ f.k = 1 ∨ f.k = 9 then 0 else f.a, if f.k = 3 ∨ f.k = 4 ∨ f.k = 7 then f.b else 0, if f.k = 3 then f.c else 0, if f.k = 3 ∨ f.k = 9 then f.d else ⟨#[]⟩, if f.k = 2 then f.rs else []⟩
def vnorm (k : Int) (v : Value) : Value := if k = 2 then v else .slice none 0 0
def finr (f : Fr) : Bool :=
  if f.k = 2 then decide (0 ≤ f.a ∧ f.a ≤ 3) && (decide (0 < f.rs.length) && rvalid f.rs)
  else if f.k = 3 then decide (0 ≤ f.a ∧ f.a ≤ 2) && (decide (0 ≤ f.c ∧ f.c ≤ 1) && (decide (f.d.size ≤ 12) && decide (0 ≤ f.b ∧ f.b ≤ 30 - (f.d.size : Int))))
  else if f.k = 4 then decide (0 ≤ f.a ∧ f.a ≤ 2) && decide (0 ≤ f.b ∧ f.b ≤ 30)
  else if f.k = 5 ∨ f.k = 6 then decide (0 ≤ f.a ∧ f.a ≤ 9999)
  else if f.k = 7 then decide (0 ≤ f.a ∧ f.a ≤ 15) && decide (0 ≤ f.b ∧ f.b ≤ 9999)
  else if f.k = 8 then decide (0 ≤ f.a ∧ f.a ≤ 15)
  else if f.k = 9 then decide (f.d.size ≤ 12)
  else if f.k = 10 then decide (0 ≤ f.a ∧ f.a ≤ 99)
  else true
theorem results_cell_1 {fn : Func} {p : Tmp} {ty : TypeId} (h : fn.results = #[.cell p ty]) (tmps : Array Value) (P : Program) (w : World) :
    (results fn tmps).run P w = ((asAddr (tmps.getD p undef)).run P w).andThen fun a w₁ => (loadVar ty a).run P w₁ := by
  simp only [results, h]
  simp [Sem.run_bind, Result.andThen]
def RetPost (w : World) (v : Value) (e : Ending) (w' : World) : Prop := e = .returned v ∧ Below w.heap.size w w'

set_option maxRecDepth 100000 in
set_option maxHeartbeats 1000000 in
theorem frame_0 (w : World) : Calls Try.prog 110 #[.agg #[]] w (RetPost w (frV ⟨0, 0, 0, 0, ⟨#[]⟩, []⟩ (.slice none 0 0))) := by
  go_enter Try.func110, Try.ntmps110
  go_wp2
  refine bodyPost_ret (v := frV ⟨0, 0, 0, 0, ⟨#[]⟩, []⟩ (.slice none 0 0)) ?hr rfl ⟨rfl, ?hb⟩
  case hr => rw [results_cell_1 rfl]; unfold frV; go_simp
  case hb => go_grown
set_option maxRecDepth 100000 in
set_option maxHeartbeats 1000000 in
theorem frame_1 (w : World) : Calls Try.prog 131 #[.agg #[]] w (RetPost w (frV ⟨1, 0, 0, 0, ⟨#[]⟩, []⟩ (.slice none 0 0))) := by
  go_enter Try.func131, Try.ntmps131
  go_wp2
  refine bodyPost_ret (v := frV ⟨1, 0, 0, 0, ⟨#[]⟩, []⟩ (.slice none 0 0)) ?hr rfl ⟨rfl, ?hb⟩
  case hr => rw [results_cell_1 rfl]; unfold frV; go_simp
  case hb => go_grown
set_option maxRecDepth 100000 in
set_option maxHeartbeats 1000000 in
theorem frame_2 (a : Int) (ra : Option Addr) (rn rc : Nat) (w : World) : Calls Try.prog 112 #[.agg #[.int .i64 a, .slice ra rn rc]] w (RetPost w (frV ⟨2, a, 0, 0, ⟨#[]⟩, []⟩ (.slice ra rn rc))) := by
  go_enter Try.func112, Try.ntmps112
  go_wp2
  refine bodyPost_ret (v := frV ⟨2, a, 0, 0, ⟨#[]⟩, []⟩ (.slice ra rn rc)) ?hr rfl ⟨rfl, ?hb⟩
  case hr => rw [results_cell_1 rfl]; unfold frV; go_simp
  case hb => go_grown
set_option maxRecDepth 100000 in
set_option maxHeartbeats 1000000 in
theorem frame_3 (a b c : Int) (d : ByteArray) (w : World) : Calls Try.prog 117 #[.agg #[.int .i64 a, .int .i64 b, .int .i64 c, .string d]] w (RetPost w (frV ⟨3, a, b, c, d, []⟩ (.slice none 0 0))) := by
  go_enter Try.func117, Try.ntmps117
  go_wp2
  refine bodyPost_ret (v := frV ⟨3, a, b, c, d, []⟩ (.slice none 0 0)) ?hr rfl ⟨rfl, ?hb⟩
  case hr => rw [results_cell_1 rfl]; unfold frV; go_simp
  case hb => go_grown
set_option maxRecDepth 100000 in
set_option maxHeartbeats 1000000 in
theorem frame_4 (a b : Int) (w : World) : Calls Try.prog 119 #[.agg #[.int .i64 a, .int .i64 b]] w (RetPost w (frV ⟨4, a, b, 0, ⟨#[]⟩, []⟩ (.slice none 0 0))) := by
  go_enter Try.func119, Try.ntmps119
  go_wp2
  refine bodyPost_ret (v := frV ⟨4, a, b, 0, ⟨#[]⟩, []⟩ (.slice none 0 0)) ?hr rfl ⟨rfl, ?hb⟩
  case hr => rw [results_cell_1 rfl]; unfold frV; go_simp
  case hb => go_grown
set_option maxRecDepth 100000 in
set_option maxHeartbeats 1000000 in
theorem frame_5 (a : Int) (w : World) : Calls Try.prog 121 #[.agg #[.int .i64 a]] w (RetPost w (frV ⟨5, a, 0, 0, ⟨#[]⟩, []⟩ (.slice none 0 0))) := by
  go_enter Try.func121, Try.ntmps121
  go_wp2
  refine bodyPost_ret (v := frV ⟨5, a, 0, 0, ⟨#[]⟩, []⟩ (.slice none 0 0)) ?hr rfl ⟨rfl, ?hb⟩
  case hr => rw [results_cell_1 rfl]; unfold frV; go_simp
  case hb => go_grown
set_option maxRecDepth 100000 in
set_option maxHeartbeats 1000000 in
theorem frame_6 (a : Int) (w : World) : Calls Try.prog 123 #[.agg #[.int .i64 a]] w (RetPost w (frV ⟨6, a, 0, 0, ⟨#[]⟩, []⟩ (.slice none 0 0))) := by
  go_enter Try.func123, Try.ntmps123
  go_wp2
  refine bodyPost_ret (v := frV ⟨6, a, 0, 0, ⟨#[]⟩, []⟩ (.slice none 0 0)) ?hr rfl ⟨rfl, ?hb⟩
  case hr => rw [results_cell_1 rfl]; unfold frV; go_simp
  case hb => go_grown
set_option maxRecDepth 100000 in
set_option maxHeartbeats 1000000 in
theorem frame_7 (a b : Int) (w : World) : Calls Try.prog 125 #[.agg #[.int .i64 a, .int .i64 b]] w (RetPost w (frV ⟨7, a, b, 0, ⟨#[]⟩, []⟩ (.slice none 0 0))) := by
  go_enter Try.func125, Try.ntmps125
  go_wp2
  refine bodyPost_ret (v := frV ⟨7, a, b, 0, ⟨#[]⟩, []⟩ (.slice none 0 0)) ?hr rfl ⟨rfl, ?hb⟩
  case hr => rw [results_cell_1 rfl]; unfold frV; go_simp
  case hb => go_grown
set_option maxRecDepth 100000 in
set_option maxHeartbeats 1000000 in
theorem frame_8 (a : Int) (w : World) : Calls Try.prog 127 #[.agg #[.int .i64 a]] w (RetPost w (frV ⟨8, a, 0, 0, ⟨#[]⟩, []⟩ (.slice none 0 0))) := by
  go_enter Try.func127, Try.ntmps127
  go_wp2
  refine bodyPost_ret (v := frV ⟨8, a, 0, 0, ⟨#[]⟩, []⟩ (.slice none 0 0)) ?hr rfl ⟨rfl, ?hb⟩
  case hr => rw [results_cell_1 rfl]; unfold frV; go_simp
  case hb => go_grown
set_option maxRecDepth 100000 in
set_option maxHeartbeats 1000000 in
theorem frame_9 (d : ByteArray) (w : World) : Calls Try.prog 129 #[.agg #[.string d]] w (RetPost w (frV ⟨9, 0, 0, 0, d, []⟩ (.slice none 0 0))) := by
  go_enter Try.func129, Try.ntmps129
  go_wp2
  refine bodyPost_ret (v := frV ⟨9, 0, 0, 0, d, []⟩ (.slice none 0 0)) ?hr rfl ⟨rfl, ?hb⟩
  case hr => rw [results_cell_1 rfl]; unfold frV; go_simp
  case hb => go_grown
set_option maxRecDepth 100000 in
set_option maxHeartbeats 1000000 in
theorem frame_10 (a : Int) (w : World) : Calls Try.prog 115 #[.agg #[.int .i64 a]] w (RetPost w (frV ⟨10, a, 0, 0, ⟨#[]⟩, []⟩ (.slice none 0 0))) := by
  go_enter Try.func115, Try.ntmps115
  go_wp2
  refine bodyPost_ret (v := frV ⟨10, a, 0, 0, ⟨#[]⟩, []⟩ (.slice none 0 0)) ?hr rfl ⟨rfl, ?hb⟩
  case hr => rw [results_cell_1 rfl]; unfold frV; go_simp
  case hb => go_grown
set_option maxRecDepth 100000 in
set_option maxHeartbeats 1000000 in
theorem inr_0 (w : World) : Calls Try.prog 111 #[.agg #[]] w (BoolPost w (true)) := by
  go_enter Try.func111, Try.ntmps111
  go_wp2
  go_ret
  exact BoolPost.of rfl ((Below.refl _ _).alloc (Nat.le_refl _) _)
set_option maxRecDepth 100000 in
set_option maxHeartbeats 1000000 in
theorem inr_1 (w : World) : Calls Try.prog 132 #[.agg #[]] w (BoolPost w (true)) := by
  go_enter Try.func132, Try.ntmps132
  go_wp2
  go_ret
  exact BoolPost.of rfl ((Below.refl _ _).alloc (Nat.le_refl _) _)
set_option maxRecDepth 100000 in
set_option maxHeartbeats 1000000 in
theorem inr_5 (a : Int) (w : World) : Calls Try.prog 122 #[.agg #[.int .i64 a]] w (BoolPost w (decide (0 ≤ a ∧ a ≤ 9999))) := by
  go_enter Try.func122, Try.ntmps122
  go_wp2_with (go_at_call 114; refine (upTo_any _ _ _).mono ?_; rintro e w' ⟨rfl, rfl⟩)
  go_ret
  exact BoolPost.of (Bool.decide_and _ _).symm ((Below.refl _ _).alloc (Nat.le_refl _) _)
set_option maxRecDepth 100000 in
set_option maxHeartbeats 1000000 in
theorem inr_6 (a : Int) (w : World) : Calls Try.prog 124 #[.agg #[.int .i64 a]] w (BoolPost w (decide (0 ≤ a ∧ a ≤ 9999))) := by
  go_enter Try.func124, Try.ntmps124
  go_wp2_with (go_at_call 114; refine (upTo_any _ _ _).mono ?_; rintro e w' ⟨rfl, rfl⟩)
  go_ret
  exact BoolPost.of (Bool.decide_and _ _).symm ((Below.refl _ _).alloc (Nat.le_refl _) _)
set_option maxRecDepth 100000 in
set_option maxHeartbeats 1000000 in
theorem inr_8 (a : Int) (w : World) : Calls Try.prog 128 #[.agg #[.int .i64 a]] w (BoolPost w (decide (0 ≤ a ∧ a ≤ 15))) := by
  go_enter Try.func128, Try.ntmps128
  go_wp2_with (go_at_call 114; refine (upTo_any _ _ _).mono ?_; rintro e w' ⟨rfl, rfl⟩)
  go_ret
  exact BoolPost.of (Bool.decide_and _ _).symm ((Below.refl _ _).alloc (Nat.le_refl _) _)
set_option maxRecDepth 100000 in
set_option maxHeartbeats 1000000 in
theorem inr_10 (a : Int) (w : World) : Calls Try.prog 116 #[.agg #[.int .i64 a]] w (BoolPost w (decide (0 ≤ a ∧ a ≤ 99))) := by
  go_enter Try.func116, Try.ntmps116
  go_wp2_with (go_at_call 114; refine (upTo_any _ _ _).mono ?_; rintro e w' ⟨rfl, rfl⟩)
  go_ret
  exact BoolPost.of (Bool.decide_and _ _).symm ((Below.refl _ _).alloc (Nat.le_refl _) _)
set_option maxRecDepth 100000 in
set_option maxHeartbeats 1000000 in
theorem inr_4 (a b : Int) (w : World) : Calls Try.prog 120 #[.agg #[.int .i64 a, .int .i64 b]] w (BoolPost w (decide (0 ≤ a ∧ a ≤ 2) && decide (0 ≤ b ∧ b ≤ 30))) := by
  obtain ⟨q1, hq1⟩ : ∃ q, decide (0 ≤ a ∧ a ≤ 2) = q := ⟨_, rfl⟩
  obtain ⟨q2, hq2⟩ : ∃ q, decide (0 ≤ b ∧ b ≤ 30) = q := ⟨_, rfl⟩
  rw [hq1, hq2]
  have HX1 := Lib.hid hq1
  have HX2 := Lib.hid hq2
  clear hq1 hq2
  cases q1
  · go_enter Try.func120, Try.ntmps120
    go_wp2_with (first | (go_at_call 114; refine (upTo_any _ _ _).mono ?_; rw [HX1.out]; rintro e w' ⟨rfl, rfl⟩) | (go_at_call 114; refine (upTo_any _ _ _).mono ?_; rw [HX2.out]; rintro e w' ⟨rfl, rfl⟩))
    go_ret
    exact BoolPost.of rfl ((Below.refl _ _).alloc (Nat.le_refl _) _)
  · go_enter Try.func120, Try.ntmps120
    go_wp2_with (first | (go_at_call 114; refine (upTo_any _ _ _).mono ?_; rw [HX1.out]; rintro e w' ⟨rfl, rfl⟩) | (go_at_call 114; refine (upTo_any _ _ _).mono ?_; rw [HX2.out]; rintro e w' ⟨rfl, rfl⟩))
    go_ret
    exact BoolPost.of rfl ((Below.refl _ _).alloc (Nat.le_refl _) _)
set_option maxRecDepth 100000 in
set_option maxHeartbeats 1000000 in
theorem inr_7 (a b : Int) (w : World) : Calls Try.prog 126 #[.agg #[.int .i64 a, .int .i64 b]] w (BoolPost w (decide (0 ≤ a ∧ a ≤ 15) && decide (0 ≤ b ∧ b ≤ 9999))) := by
  obtain ⟨q1, hq1⟩ : ∃ q, decide (0 ≤ a ∧ a ≤ 15) = q := ⟨_, rfl⟩
  obtain ⟨q2, hq2⟩ : ∃ q, decide (0 ≤ b ∧ b ≤ 9999) = q := ⟨_, rfl⟩
  rw [hq1, hq2]
  have HX1 := Lib.hid hq1
  have HX2 := Lib.hid hq2
  clear hq1 hq2
  cases q1
  · go_enter Try.func126, Try.ntmps126
    go_wp2_with (first | (go_at_call 114; refine (upTo_any _ _ _).mono ?_; rw [HX1.out]; rintro e w' ⟨rfl, rfl⟩) | (go_at_call 114; refine (upTo_any _ _ _).mono ?_; rw [HX2.out]; rintro e w' ⟨rfl, rfl⟩))
    go_ret
    exact BoolPost.of rfl ((Below.refl _ _).alloc (Nat.le_refl _) _)
  · go_enter Try.func126, Try.ntmps126
    go_wp2_with (first | (go_at_call 114; refine (upTo_any _ _ _).mono ?_; rw [HX1.out]; rintro e w' ⟨rfl, rfl⟩) | (go_at_call 114; refine (upTo_any _ _ _).mono ?_; rw [HX2.out]; rintro e w' ⟨rfl, rfl⟩))
    go_ret
    exact BoolPost.of rfl ((Below.refl _ _).alloc (Nat.le_refl _) _)
set_option maxRecDepth 100000 in
set_option maxHeartbeats 1000000 in
theorem inr_9 (d : ByteArray) (w : World) : Calls Try.prog 130 #[.agg #[.string d]] w (BoolPost w (decide (d.size ≤ 12))) := by
  by_cases h : d.size ≤ 12
  · have h' : (d.size : Int) ≤ 12 := by omega
    have H := Lib.hid (decide_eq_true h)
    clear h
    go_enter Try.func130, Try.ntmps130
    go_wp2
    go_ret
    exact BoolPost.of H.out.symm ((Below.refl _ _).alloc (Nat.le_refl _) _)
  · have h' : ¬ (d.size : Int) ≤ 12 := by omega
    have H := Lib.hid (decide_eq_false h)
    clear h
    go_enter Try.func130, Try.ntmps130
    go_wp2
    go_ret
    exact BoolPost.of H.out.symm ((Below.refl _ _).alloc (Nat.le_refl _) _)
set_option maxRecDepth 100000 in
set_option maxHeartbeats 1000000 in
theorem inr_3 (a b c : Int) (d : ByteArray) (w : World) : Calls Try.prog 118 #[.agg #[.int .i64 a, .int .i64 b, .int .i64 c, .string d]] w (BoolPost w (decide (0 ≤ a ∧ a ≤ 2) && (decide (0 ≤ c ∧ c ≤ 1) && (decide (d.size ≤ 12) && decide (0 ≤ b ∧ b ≤ 30 - (d.size : Int)))))) := by
  obtain ⟨q1, hq1⟩ : ∃ q, decide (0 ≤ a ∧ a ≤ 2) = q := ⟨_, rfl⟩
  obtain ⟨q2, hq2⟩ : ∃ q, decide (0 ≤ c ∧ c ≤ 1) = q := ⟨_, rfl⟩
  rw [hq1, hq2]
  have HX1 := Lib.hid hq1
  have HX2 := Lib.hid hq2
  clear hq1 hq2
  cases q1
  · go_enter Try.func118, Try.ntmps118
    go_wp2_with (first | (go_at_call 114; refine (upTo_any _ _ _).mono ?_; rw [HX1.out]; rintro e w' ⟨rfl, rfl⟩) | (go_at_call 114; refine (upTo_any _ _ _).mono ?_; rw [HX2.out]; rintro e w' ⟨rfl, rfl⟩))
    go_ret
    exact BoolPost.of rfl ((Below.refl _ _).alloc (Nat.le_refl _) _)
  cases q2
  · go_enter Try.func118, Try.ntmps118
    go_wp2_with (first | (go_at_call 114; refine (upTo_any _ _ _).mono ?_; rw [HX1.out]; rintro e w' ⟨rfl, rfl⟩) | (go_at_call 114; refine (upTo_any _ _ _).mono ?_; rw [HX2.out]; rintro e w' ⟨rfl, rfl⟩))
    go_ret
    exact BoolPost.of rfl ((Below.refl _ _).alloc (Nat.le_refl _) _)
  by_cases h : d.size ≤ 12
  · have h' : (d.size : Int) ≤ 12 := by omega
    have H := Lib.hid (decide_eq_true h)
    have w1 : IntKind.i64.wrap (30 - (d.size : Int)) = 30 - (d.size : Int) := IntWalk.i64_in _ (by omega)
    obtain ⟨q3, hq3⟩ : ∃ q, decide (0 ≤ b ∧ b ≤ 30 - (d.size : Int)) = q := ⟨_, rfl⟩
    rw [hq3]
    have HX3 := Lib.hid hq3
    clear h hq3
    go_enter Try.func118, Try.ntmps118
    go_wp2_with (first | (go_at_call 114; refine (upTo_any _ _ _).mono ?_; rw [HX1.out]; rintro e w' ⟨rfl, rfl⟩) | (go_at_call 114; refine (upTo_any _ _ _).mono ?_; rw [HX2.out]; rintro e w' ⟨rfl, rfl⟩) | (go_at_call 114; refine (upTo_any _ _ _).mono ?_; rw [HX3.out]; rintro e w' ⟨rfl, rfl⟩))
    go_ret
    exact BoolPost.of (by rw [H.out]; cases q3 <;> rfl) ((Below.refl _ _).alloc (Nat.le_refl _) _)
  · have h' : ¬ (d.size : Int) ≤ 12 := by omega
    have H := Lib.hid (decide_eq_false h)
    clear h
    go_enter Try.func118, Try.ntmps118
    go_wp2_with (first | (go_at_call 114; refine (upTo_any _ _ _).mono ?_; rw [HX1.out]; rintro e w' ⟨rfl, rfl⟩) | (go_at_call 114; refine (upTo_any _ _ _).mono ?_; rw [HX2.out]; rintro e w' ⟨rfl, rfl⟩))
    go_ret
    exact BoolPost.of (by rw [H.out]; rfl) ((Below.refl _ _).alloc (Nat.le_refl _) _)
set_option maxRecDepth 100000 in
set_option maxHeartbeats 1000000 in
theorem inr_2 (a : Int) (ra : Option Addr) (rc : Nat) (rs : List (Int × Int)) (w : World) (HR : Hid (Rngs w (.slice ra rs.length rc) rs)) (hl : rs.length ≤ 1048576) : Calls Try.prog 113 #[.agg #[.int .i64 a, .slice ra rs.length rc]] w (BoolPost w (decide (0 ≤ a ∧ a ≤ 3) && (decide (0 < rs.length) && rvalid rs))) := by
  obtain ⟨q1, hq1⟩ : ∃ q, decide (0 ≤ a ∧ a ≤ 3) = q := ⟨_, rfl⟩
  rw [hq1]
  have HX1 := Lib.hid hq1
  clear hq1
  cases q1
  · go_enter Try.func113, Try.ntmps113
    go_wp2_with (go_at_call 114; refine (upTo_any _ _ _).mono ?_; rw [HX1.out]; rintro e w' ⟨rfl, rfl⟩)
    go_ret
    exact BoolPost.of rfl ((Below.refl _ _).alloc (Nat.le_refl _) _)
  by_cases h : 0 < rs.length
  · have h' : (0 : Int) < (rs.length : Int) := by omega
    have H := Lib.hid (decide_eq_true h)
    clear h
    go_enter Try.func113, Try.ntmps113
    go_wp2_with (first | (go_at_call 114; refine (upTo_any _ _ _).mono ?_; rw [HX1.out]; rintro e w' ⟨rfl, rfl⟩) | (go_at_call 36; refine (ivalid_any _ rs _ (HR.out.below ((Below.refl _ _).alloc (Nat.le_refl _) _)) hl).mono ?_; rintro e w' ⟨rfl, hb⟩))
    go_ret
    exact BoolPost.of (by rw [H.out]; rfl) (((Below.refl _ _).alloc (Nat.le_refl _) _).trans (hb.mono (by simp)))
  · have h' : ¬ (0 : Int) < (rs.length : Int) := by omega
    have H := Lib.hid (decide_eq_false h)
    clear h
    go_enter Try.func113, Try.ntmps113
    go_wp2_with (go_at_call 114; refine (upTo_any _ _ _).mono ?_; rw [HX1.out]; rintro e w' ⟨rfl, rfl⟩)
    go_ret
    exact BoolPost.of (by rw [H.out]; rfl) ((Below.refl _ _).alloc (Nat.le_refl _) _)

end Go.Proofs.Ythflokonihegbaa
