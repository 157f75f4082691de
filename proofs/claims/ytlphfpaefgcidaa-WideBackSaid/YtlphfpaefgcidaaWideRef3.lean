/-
  The document's own difference and order of layer 3.
-/
import Derived.Test.YtlphfpaefgcidaaWideRef2
import Derived.Deep.RegionHeld3
namespace Go.Proofs.Ytlphfpaefgcidaa.WideW
open Go.RowKit
open DigM WideM WideV KM DigW
/-- block g holds c, in w -/
abbrev At8 (g : Nat) (c : Array Value) (w : World) : Prop := ∀ j, w.cell? ⟨g, j, none⟩ = c[j]?
theorem At8.later {g : Nat} {c : Array Value} {w w' : World} (hc : 0 < c.size) (h : At8 g c w) (hb : Below w.heap.size w w') : At8 g c w' := fun j => by
  have h0 := h 0
  rw [Array.getElem?_eq_getElem hc] at h0
  have hlt := block_lt_of_cell h0
  exact (hb.cell (p := ⟨g, j, none⟩) hlt).trans (h j)
theorem At8.both {g g' : Nat} {c c' : Array Value} {w w' : World} (hc : 0 < c.size) (hc' : 0 < c'.size) (h : At8 g c w ∧ At8 g' c' w) (hb : Below w.heap.size w w') : At8 g c w' ∧ At8 g' c' w' := ⟨h.1.later hc hb, h.2.later hc' hb⟩
theorem lessB_val {x y : List Nat} {m n : Nat} (h1 : val x = m) (h2 : val y = n) : lessB x y = decide (m < n) := by unfold lessB; rw [h1, h2]
set_option maxHeartbeats 1600000 in
theorem refSub_any (a b : Nat) (ha : Hid (a < M)) (hb : Hid (b < M)) (w : World) : Calls Try.prog 13 #[wv a, wv b] w (Ret (.tuple #[wv (subL a b), .bool (leB b a)]) w) := by
  have DA := digits32_any a ha
  have DB := digits32_any b hb
  refine enter fun u => ?_
  go_enter Try.func13, Try.ntmps13
  go_wp2_with (first | ((with_reducible apply list_box); exact rfl; intro _ _) | ((with_reducible apply list_alloc); exact zeroW; intro _ _))
  rename_i g2 u2 g3 u3 g4 u4 _ _
  have s1 : At8 g2 (cells 8 a) u4.w := fun j => by simp
  have s2 : At8 g3 (cells 8 b) u4.w := fun j => by simp
  have HDA := Lib.hid DA
  have HDB := Lib.hid DB
  clear DA DB
  go_region_held3 (fun w' => At8 g2 (cells 8 a) w' ∧ At8 g3 (cells 8 b) w') (first | exact ⟨s1, s2⟩ | (refine At8.both (by simp) (by simp) ?_ (by assumption); assumption))
    (first | (go_at_call 7; (with_reducible refine (HDA.out _).mono ?_); rintro e w1 ⟨v1, x, rfl, hx, o1, b1⟩) | (go_at_call 7; (with_reducible refine (HDB.out _).mono ?_); rintro e w2 ⟨v2, y, rfl, hy, o2, b2⟩))
  clear s1 s2 u u2 u3
  rename_i _ _ hHeld
  clear hHeld
  obtain ⟨u5, rfl⟩ := u4.drew.go b1
  obtain ⟨u6, rfl⟩ := u5.go b2
  have R1 := o1.rd.later b2 (Nat.le_refl _)
  have R2 := o2.rd
  obtain ⟨hx1, hx2, hx3⟩ := hx
  obtain ⟨hy1, hy2, hy3⟩ := hy
  have lx1 : x.length ≤ 1048576 := by omega
  have ly1 : y.length ≤ 1048576 := by omega
  have HX2 := Lib.hid hx2
  have HY2 := Lib.hid hy2
  have HX3 := Lib.hid hx3
  have HY3 := Lib.hid hy3
  clear hx2 hy2 hx3 hy3 b1 b2 o1 o2 u4 u5
  have FL := less_any _ _ x y u6.w R1 R2 hx1 hy1 (by omega) (by omega)
  rw [lessB_val HX2.out HY2.out] at FL
  by_cases hab : a < b
  · rw [decide_eq_true hab] at FL
    have HAB := Lib.hid hab
    have HFL := Lib.hid FL
    clear FL hab
    go_wp2_with (fail)
    refine HFL.out.mono ?_
    rintro e w' ⟨rfl, rfl⟩
    clear HFL
    obtain ⟨i0, hi, hz0, hz1, hz2⟩ := info_parts infoU
    go_wp2_with (at_make; refine wpList_make_full _ rfl _ _ 25 rfl u6.w.heap.size 22 i0 (.int .u64 0) 1 Try.underlying25 hi hz0 hz1 _ _ _ _ 32 rfl rfl rfl rfl ?b2 ?b3 (Nat.le_refl _) ?_)
    case b2 => rw [hz2]; decide
    case b3 => unfold maxLen; decide
    intro w3 hown hgrow
    have b3 : Below u6.w.heap.size u6.w w3 := Below.grown (Below.refl _ _) hgrow (Nat.le_refl _) (fun j hj => by cases hj)
    have hs3 := b3.size
    clear hgrow
    go_wp2_with (first
      | (at_builtin; refine wpList_append_own _ rfl _ _ 25 rfl u6.w.heap.size 22 i0 (.int .u64 0) 1 8 Try.underlying25 hi hz0 hz1 hz2 rfl (by decide) _ _ _ rfl (World.ownsRow.alloc hown _) ⟨w3.heap.size, 0, none⟩ 1 1 [.int .u64 1] rfl rfl ?c1 ?c2 ?c3 ?c4 ?c5 ?_))
    case c1 =>
      intro j u hj
      match j, hj with
      | 0, hj => simp at hj; subst hj; simp [Addr.add]
    case c2 => intro u hu; simp at hu; subst hu; rfl
    case c3 => unfold maxLen; omega
    case c4 => omega
    case c5 => simp; omega
    intro v3 w4 hown4 hgrow4 _
    have b4 : Below u6.w.heap.size u6.w w4 := Below.grown (b3.alloc hs3 _) hgrow4 (by simp; omega) (fun j hj => (hown.lt j hj).1)
    clear hgrow4
    have hten : Own u6.w.heap.size w4 v3 (List.replicate 32 0 ++ [1]) := by
      unfold Own
      have e : (madeCells (Value.cells (.int .u64 0)) (32 * 1)).toList = (List.replicate 32 0).map (fun d => Value.int .u64 ((d : Nat) : Int)) := by
        rw [List.map_replicate]; exact toList_madeCells_one _ _
      rw [List.map_append, ← e]
      exact hown4
    clear hown4 hown
    obtain ⟨top, ht⟩ : ∃ top : List Nat, top = List.replicate 32 0 ++ [1] := ⟨_, rfl⟩
    rw [← ht] at hten
    have ht1 : Digs top := by rw [ht]; exact (Digs.rep 32).append (by intro z hz; simp at hz; omega)
    have ht2 : Hid (val top = M) := Lib.hid (by rw [ht, val_append, val_rep, List.length_replicate, Nat.zero_add, show val [1] = 1 from rfl, Nat.mul_one, M, Bp_dig])
    have ht3 : Hid (top.length = 33) := Lib.hid (by rw [ht]; simp)
    clear ht b3 hs3
    have R1' := R1.later b4 (Nat.le_refl _)
    have R2' := R2.later b4 (Nat.le_refl _)
    go_wp2_with (fail)
    refine (plus_any _ _ x top _ R1' hten.rd hx1 ht1 (by omega) (by have := ht3.out; omega)).mono ?_
    rintro e w5 ⟨v5, z, rfl, ⟨hz1', hz2', hz3'⟩, o5, b5⟩
    have HZ2 : Hid (val z = a + M) := Lib.hid (by rw [hz2', HX2.out, ht2.out])
    have hzl : z.length ≤ 1048576 := by have := ht3.out; have := HX3.out; omega
    clear hz2' hz3'
    go_wp2_with (fail)
    refine (minus_any _ _ z y _ o5.rd (R2'.later b5 (Nat.le_refl _)) hz1' hy1 (Lib.hid (by rw [HZ2.out, HY2.out]; have := hb.out; omega)) (by omega) (by omega)).mono ?_
    rintro e w6 ⟨v6, q, rfl, ⟨hq1, hq2, hq3⟩, o6, b6⟩
    have FW := refWide_any v6 q w6 o6.rd hq1 (by omega)
    have HV : Hid (low (val q) = subL a b) := Lib.hid (by rw [hq2, HZ2.out, HY2.out]; rfl)
    rw [HV.out] at FW
    have HFW := Lib.hid FW
    have b46 := b4.trans ((b5.trans (b6.mono b5.size)).mono b4.size)
    clear FW hq2 hq3 o6 o5 b4 b5 b6
    go_wp2_with (fail)
    refine HFW.out.mono ?_
    rintro e w7 ⟨rfl, b7⟩
    obtain ⟨u7, rfl⟩ := u6.go b46
    obtain ⟨u8, rfl⟩ := u7.go b7
    go_wp2_with (first | ((with_reducible apply list_alloc); exact zeroW; intro _ _) | ((with_reducible apply lst_load); exact rfl; infer_instance; exact rowW; exact cells_size _ _) | ((with_reducible apply lst_store); exact rfl; exact rfl; infer_instance; exact rowW; exact cells_size _ _; exact cells_size _ _; exact cells_one _ _; intro _))
    refine body_cell_tmp Try.results13 rfl rfl rowW (cells_size _ _) ⟨?_, KW.below _⟩
    have : leB b a = false := decide_eq_false (by have := HAB.out; omega)
    rw [this]
    rfl
  · rw [decide_eq_false hab] at FL
    have HAB : Hid (b ≤ a) := Lib.hid (by omega)
    have HFL := Lib.hid FL
    clear FL hab
    go_wp2_with (fail)
    refine HFL.out.mono ?_
    rintro e w' ⟨rfl, rfl⟩
    clear HFL
    go_wp2_with (fail)
    refine (minus_any _ _ x y _ R1 R2 hx1 hy1 (Lib.hid (by rw [HX2.out, HY2.out]; exact HAB.out)) (by omega) (by omega)).mono ?_
    rintro e w3 ⟨v3, z, rfl, ⟨hz1, hz2, hz3⟩, o3, b3⟩
    have FW := refWide_any v3 z w3 o3.rd hz1 (by omega)
    have HV : Hid (low (val z) = subL a b) := Lib.hid (by
      have := HAB.out
      have := ha.out
      rw [hz2, HX2.out, HY2.out]
      unfold subL low
      rw [show a + M - b = (a - b) + M by omega, Nat.add_mod_right])
    rw [HV.out] at FW
    have HFW := Lib.hid FW
    clear FW hz2 hz3 o3
    go_wp2_with (fail)
    refine HFW.out.mono ?_
    rintro e w4 ⟨rfl, b4⟩
    obtain ⟨u7, rfl⟩ := u6.go b3
    obtain ⟨u8, rfl⟩ := u7.go b4
    go_wp2_with (first | ((with_reducible apply list_alloc); exact zeroW; intro _ _) | ((with_reducible apply lst_load); exact rfl; infer_instance; exact rowW; exact cells_size _ _) | ((with_reducible apply lst_store); exact rfl; exact rfl; infer_instance; exact rowW; exact cells_size _ _; exact cells_size _ _; exact cells_one _ _; intro _))
    refine body_cell_tmp Try.results13 rfl rfl rowW (cells_size _ _) ⟨?_, KW.below _⟩
    have : leB b a = true := decide_eq_true HAB.out
    rw [this]
    rfl
end Go.Proofs.Ytlphfpaefgcidaa.WideW
