/- container/heap's Push and Pop over the program's heap; the heap of a list; what is forgotten. -/
import Derived.Test.YtlhjhdlpejpooabHpPush
import Derived.Deep.DeepCutAuto
namespace Go.Proofs.Ytlhjhdlpejpooab
open Go.RowKit
set_option linter.unusedVariables false
set_option linter.unusedSimpArgs false

/-- A heap stands at b. -/
def Heap (B : Nat) (W : World) (b : Nat) (l : List Tic) : Prop := hok l l.length ∧ ∃ g c, Hs B W b (.slice (some ⟨g, 0, none⟩) l.length c) l
theorem Heap.below {B : Nat} {W W' : World} {b : Nat} {l : List Tic} (h : Heap B W b l) (hb : Below W.heap.size W W') : Heap B W' b l := by
  obtain ⟨h1, g, c, h2⟩ := h
  exact ⟨h1, g, c, h2.below hb⟩
theorem grown_row {B g b : Nat} {w w' : World} {v : Value} {l : List Tic} (h : Hs B w b v l) (hv : v.ownBlock = some g) (hg : w.grownBy w' (some g)) : Below B w w' :=
  (Below.refl B w).grown hg (by have := h.lt; have := h.bb; omega) (fun j hj => by injection hj with hj; rw [← hj]; exact (World.ownsRow.lt h.own g hv).1)

set_option maxRecDepth 100000 in
set_option maxHeartbeats 4000000 in
theorem hpush_any (b : Nat) (l : List Tic) (x y : Int) (B : Nat) (W : World) (h : Heap B W b l) (hl : l.length ≤ 1048575) :
    Calls Try.prog 69 #[.iface 68 (.pointer (some ⟨b, 0, none⟩)), .iface 38 (.agg #[.int .i64 x, .int .i64 y])] W fun e w' => e = .returned (.tuple #[]) ∧ Below B W w' ∧ ∃ l', l'.Perm (l ++ [(x, y)]) ∧ Heap B w' b l' := by
  obtain ⟨hk, g, c, HH⟩ := h
  have U := Lib.hid (up_start (t := (x, y)) hk)
  have HB : B ≤ W.heap.size := by have := HH.lt; have := HH.bb; omega
  have HC := Lib.hid (push_any b g c l x y B W HH (by omega) HB)
  have mP := methodPush
  have HM : Hid ((l ++ [(x, y)]).length = l.length + 1) := Lib.hid (by simp)
  obtain ⟨m, hm⟩ : ∃ m, m = l ++ [(x, y)] := ⟨_, rfl⟩
  rw [← hm] at U HC HM ⊢
  clear hm hk HH
  go_enter Try.func69, Try.ntmps69
  go_wp2_with fail
  refine HC.out.mono ?_
  rintro e w1 ⟨rfl, hb1, g1, c1, H1⟩
  have HB1 := Lib.hid hb1
  have HH1 := Lib.hid H1
  clear hb1 H1 mP
  have mL := fun n => methodLen n b _ w1 HH1.out.cell
  go_wp2_with fail
  refine (len_any _ _ _ _).mono ?_
  rintro e w2 ⟨rfl, rfl⟩
  have hw : IntKind.i64.wrap ((m.length : Int) - 1) = (l.length : Int) := by have := HM.out; rw [IntWalk.i64_in _ (by omega)]; omega
  have HU := Lib.hid (up_any b g1 c1 m l.length B w1 HH1.out U.out (by have := HM.out; omega) (by have := HM.out; omega))
  clear mL
  go_wp2_with fail
  refine HU.out.mono ?_
  rintro e w3 ⟨rfl, hg3, l', hp, hk, H3⟩
  have hlen : l'.length = m.length := hp.length_eq
  have HE : Hid (Heap B w3 b l') := Lib.hid ⟨hk, g1, c1, by rw [hlen]; exact H3⟩
  have BE := Lib.hid (HB1.out.trans (grown_row HH1.out rfl hg3))
  have HP := Lib.hid hp
  clear hg3 hp hk H3 hlen hw
  go_wp2_with fail
  go_end0
  exact ⟨rfl, BE.out, l', HP.out, HE.out⟩

set_option maxRecDepth 100000 in
set_option maxHeartbeats 4000000 in
theorem hpop_any (b m : Nat) (l : List Tic) (B : Nat) (W : World) (h : Heap B W b l) (hm : l.length = m + 1) (hl : l.length ≤ 1048576) :
    Calls Try.prog 71 #[.iface 68 (.pointer (some ⟨b, 0, none⟩))] W fun e w' => AnyV e ∧ Below B W w' ∧ ∃ l', l.Perm (l.getD 0 (0, 0) :: l') ∧ l'.length = m ∧ Heap B w' b l' := by
  obtain ⟨hk, g, c, H0⟩ := h
  have HH := Lib.hid H0
  have HM := Lib.hid hm
  have D0 := Lib.hid (dn_start hk hm)
  have mL := fun n => methodLen n b _ W HH.out.cell
  have HS := Lib.hid (swap_any g c l 0 m B W HH.out.own (by omega) (by omega))
  have mS : ∀ n, (Go.method (n + 1) 68 (.pointer (some ⟨b, 0, none⟩)) "Swap").run Try.prog W = .ok (124, .slice (some ⟨g, 0, none⟩) l.length c) W := fun n => methodSwap n b _ W HH.out.cell
  have hw : IntKind.i64.wrap ((l.length : Int) - 1) = (m : Int) := by rw [IntWalk.i64_in _ (by omega)]; omega
  have hB : B ≤ W.heap.size := by have := H0.lt; have := H0.bb; omega
  clear hk H0 hm
  go_enter Try.func71, Try.ntmps71
  go_wp2_with fail
  refine (len_any _ _ _ _).mono ?_
  rintro e w2 ⟨rfl, rfl⟩
  go_wp2_with fail
  refine HS.out.mono ?_
  rintro e w1 ⟨rfl, ho1, hg1⟩
  have H1 := Lib.hid (HH.out.row hg1 ho1)
  have B1 := Lib.hid (grown_row HH.out rfl hg1)
  clear mL mS hw ho1 hg1
  have HL : Hid ((swp l 0 m).length = l.length) := Lib.hid (swp_len l 0 m)
  have HP := Lib.hid (swp_perm l 0 m (by have := HM.out; omega) (by have := HM.out; omega))
  have HT : Hid ((swp l 0 m).getD m (0, 0) = l.getD 0 (0, 0)) := Lib.hid (by rw [swp_at l 0 m m (by have := HM.out; omega) (by have := HM.out; omega), if_pos rfl])
  generalize swp l 0 m = q at HL HP HT H1 D0
  rw [← HL.out] at H1
  have HD := Lib.hid (down_any b g c q m B w1 H1.out D0.out (by have := HM.out; have := HL.out; omega) (by have := HL.out; omega))
  go_wp2_with fail
  refine HD.out.mono ?_
  rintro e w3 ⟨⟨qb, rfl⟩, hg3, l', hp, hk, hrest, H3⟩
  have B3 := Lib.hid (B1.out.trans (grown_row H1.out rfl hg3))
  have HTT := Lib.hid (take_top (hp.trans HP.out) HM.out ((hrest m (Nat.le_refl _)).trans HT.out))
  have hlen : l'.length = m + 1 := by rw [hp.length_eq, HL.out, HM.out]
  have HK := Lib.hid (hok_take hk (by omega))
  have hH3 : Hs B w3 b (.slice (some ⟨g, 0, none⟩) (m + 1) c) l' := by have h := H3; rw [HL.out, HM.out] at h; exact h
  have HO := Lib.hid (pop_any b g c m l' B w3 hH3 hlen (by have := HM.out; omega) (by have := hH3.lt; have := hH3.bb; omega))
  have HTL : Hid ((l'.take m).length = m) := Lib.hid (by rw [List.length_take]; omega)
  have mP := methodPop
  clear hg3 hp hk hrest H3 hlen hH3
  go_wp2_with fail
  refine HO.out.mono ?_
  rintro e w4 ⟨⟨v, rfl⟩, hb4, H4⟩
  have B4 := Lib.hid (B3.out.trans hb4)
  have HE : Hid (Heap B w4 b (l'.take m)) := Lib.hid ⟨HK.out, g, c, by rw [HTL.out]; exact H4⟩
  clear hb4 H4 mP
  go_wp2_with fail
  go_ret
  exact ⟨⟨_, rfl⟩, B4.out, _, HTT.out, HTL.out, HE.out⟩

end Go.Proofs.Ytlhjhdlpejpooab
