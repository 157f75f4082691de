/-
  The document's own answers of layer 3: digits, and the number of digits.
-/
import Derived.Test.YtiklebonkpjlpaaDoorWide
import Derived.Test.YtiklebonkpjlpaaDoorDig5
namespace Go.Proofs.YtiklebonkpjlpaaDoor.WideW
open Go.RowKit
open DigM WideM WideV KM DigW
/-- k words' digits -/
def DigK (a k : Nat) (ds : List Nat) : Prop := Digs ds ∧ val ds = a % B ^ k ∧ ds.length = 4 * k
theorem DigK.start (a : Nat) : DigK a 0 [] := ⟨Digs.nil, by simp [val, Nat.mod_one], rfl⟩
theorem DigK.next {a k x : Nat} {ds : List Nat} (h : DigK a k ds) (hx : wd a k = x) : DigK a (k + 1) (ds ++ digits x) := by
  obtain ⟨h1, h2, h3⟩ := h
  have hb : x < 18446744073709551616 := by rw [← hx]; exact wd_lt' a k
  refine ⟨h1.append (digits_good x hb), ?_, ?_⟩
  · rw [val_append, h3, h2, digits_val, mod_step, hx, Bp_dig]
  · rw [List.length_append, h3]
    have : (digits x).length = 4 := rfl
    omega
def DRel (a : Nat) (w : World) (g1 B1 : Nat) (v i : Value) (wr : World) : Prop :=
  ∃ (k : Nat) (ds : List Nat) (u : KW w [⟨g1, cells 8 a, 24⟩]), i = .int .i64 k ∧ k ≤ 8 ∧ wr = u.w ∧ Own B1 u.w v ds ∧ B1 ≤ u.w.heap.size ∧ Hid (DigK a k ds)
def Digits32 (a : Nat) (ds : List Nat) : Prop := Digs ds ∧ val ds = a ∧ ds.length = 32
set_option maxRecDepth 100000 in
set_option maxHeartbeats 1600000 in
theorem digits32_any (a : Nat) (ha : Hid (a < M)) (w : World) : Calls Tryd.prog 15 #[wv a] w (Gives (Digits32 a) w) := by
  obtain ⟨i0, hi, hz0, hz1, hz2⟩ := info_parts infoU
  refine enter fun u => ?_
  go_enter Tryd.func15, Tryd.ntmps15
  go_wp2_with (first | ((with_reducible apply list_box); exact rfl; intro _ _))
  rename_i g1 u1 _ _
  have hg1 : g1 < u1.w.heap.size := u1.lt
  have hW : w.heap.size ≤ u1.w.heap.size := u1.size
  obtain ⟨u2, hu2⟩ := u1.go ((Below.refl _ _).alloc (Nat.le_refl _) (.cells #[] 22))
  have HO : Own u1.w.heap.size u2.w (.slice (some ⟨u1.w.heap.size, 0, none⟩) 0 0) [] := by rw [← hu2]; exact World.ownsRow_made _ _ _ (Nat.le_refl _) (by decide) rfl
  have hB2 : u1.w.heap.size ≤ u2.w.heap.size := by rw [← hu2]; simp
  have HU2 := Lib.hid hu2
  clear hu2
  go_wp2_with (fail)
  go_loopw [3, 4] (DRel a w g1 u1.w.heap.size) (fun _ i _ => 8 - (intOf i).toNat)
  case atStart => exact ⟨0, [], u2, rfl, by decide, HU2.out, HO, hB2, Lib.hid (DigK.start a)⟩
  case round =>
    generalize u1.w.heap.size = B1 at *
    clear u1 u2 HU2 HO hB2
    obtain ⟨k, ds, u, rfl, hk, rfl, hown, hB, hD⟩ := hrel
    have hlen : ds.length ≤ 32 := by rw [hD.out.2.2]; omega
    by_cases hk8 : k < 8
    · obtain ⟨x, hx⟩ : ∃ x, Hid (wd a k = x) := ⟨_, Lib.hid rfl⟩
      have hc1 := cells_at hk8 hx.out
      have hxb : x < 18446744073709551616 := by rw [← hx.out]; exact wd_lt' a k
      have HN := Lib.hid (hD.out.next hx.out)
      have DX := fun w => digits_any x w hxb
      have LX : Hid ((digits x).length = 4) := Lib.hid rfl
      generalize digits x = es at *
      have HLEN := Lib.hid hlen
      clear hxb hlen
      go_wp2_with (fail)
      refine (DX _).mono ?_
      rintro e w2 ⟨v2, ds2, rfl, rfl, o2, b2⟩
      have hown2 := hown.later b2
      obtain ⟨u2, rfl⟩ := u.go b2
      have hB2 : B1 ≤ u2.w.heap.size := by have := b2.size; omega
      obtain ⟨g, o, cap, hv2, hnews⟩ := o2.addr (by rw [LX.out]; decide)
      rw [hv2]
      have HL4 : Hid (ds2.length = 4) := LX
      go_wp2_with (first
        | (at_builtin; refine wpList_append_own _ rfl _ _ 38 rfl B1 22 i0 (.int .u64 0) 1 8 Tryd.underlying38 hi hz0 hz1 hz2 rfl (by decide) _ _ _ rfl hown2 ⟨g, o, none⟩ ds2.length cap (ds2.map (fun d => Value.int .u64 (d : Nat))) rfl ?c0 hnews ?c2 ?c3 ?c4 hB2 ?_))
      case c0 => simp
      case c2 => intro u hu; obtain ⟨d, _, rfl⟩ := List.mem_map.1 hu; rfl
      case c3 => have := HLEN.out; have := HL4.out; unfold maxLen; omega
      case c4 => have := HLEN.out; have := HL4.out; omega
      intro v' w3 hown3 hgrow _
      obtain ⟨u3, hu3⟩ := u2.grown hgrow (fun j hj => (hown2.lt j hj).1) hW (fun e he => by simp at he; subst he; exact hg1)
      have hB3 : B1 ≤ u3.w.heap.size := by rw [← hu3]; have := hgrow.size; omega
      subst hu3
      have HO3 := Lib.hid (Own.two hown3)
      clear hgrow hown3 hown2 hown
      go_wp2_with (fail)
      go_roundw
      case rel => exact ⟨k + 1, _, u3, by go_num, by omega, rfl, HO3.out, hB3, HN⟩
      case measure => simp [intOf]; omega
    · obtain rfl : k = 8 := by omega
      have HE : Hid (Digits32 a ds) := Lib.hid ⟨hD.out.1, by rw [hD.out.2.1]; exact Nat.mod_eq_of_lt (show a < B ^ 8 from ha.out), hD.out.2.2⟩
      go_wp2_with (fail)
      go_ret
      exact ⟨_, ds, rfl, HE.out, hown.mono hW, u.below⟩
end Go.Proofs.YtiklebonkpjlpaaDoor.WideW
