/-
  package quot: what is taken from what is left, and put back: contracts over the translation.
-/
import Derived.Test.YtiklebonkpjlpaaDoorQuot2
import Derived.Deep.RegionHeld3
namespace Go.Proofs.YtiklebonkpjlpaaDoor.QuotW
open Go.RowKit
open DigM WideM WideV KM DigW WideW QuotM
def LeRel (g gb i n t v q : Nat) (T T' : TypeId) (W : World) (L : List Ent) (c b k : Value) (wr : World) : Prop :=
  ∃ (j c' b' t' : Nat) (u : KW W (⟨g, cells 9 t', T⟩ :: ⟨gb, cells 8 v, T'⟩ :: L)), k = .int .i64 j ∧ j ≤ n ∧ c = .int .u64 c' ∧ b = .int .u64 b' ∧ wr = u.w ∧ Hid (LessW t v q i j t' c' b' ∧ t' < B ^ 9)
def LessPost (g gb i n t v q : Nat) (T T' : TypeId) (W : World) (L : List Ent) (e : Ending) (w' : World) : Prop :=
  ∃ (c b x o t' : Nat) (u : KW W (⟨g, cells 9 t', T⟩ :: ⟨gb, cells 8 v, T'⟩ :: L)), e = .returned (.bool (decide (o = 1))) ∧ w' = u.w ∧ Hid (LessW t v q i n t' c b ∧ t' < B ^ 9 ∧ x < B ∧ o ≤ 1 ∧ x + c + b = wd t (i + n) + B * o)
set_option maxHeartbeats 1600000 in
theorem lessen_any {W : World} {L : List Ent} {g gb i n t v q cap cap' : Nat} {T T' : TypeId} (u0 : KW W (⟨g, cells 9 t, T⟩ :: ⟨gb, cells 8 v, T'⟩ :: L)) (hi : i + n < 9) (hq : Hid (q < B)) (ht : Hid (t < B ^ 9)) :
    Calls Tryd.prog 40 #[.slice (some ⟨g, i, none⟩) (n + 1) cap, .slice (some ⟨gb, 0, none⟩) n cap', .int .u64 q] u0.w (LessPost g gb i n t v q T T' W L) := by
  go_enter Tryd.func40, Tryd.ntmps40
  go_wp2_with (fail)
  go_loopw [7, 8, 15] (LeRel g gb i n t v q T T' W L) (fun _ _ k _ => n - (intOf k).toNat)
  case atStart => exact ⟨0, 0, 0, t, u0, rfl, Nat.zero_le _, rfl, rfl, rfl, Lib.hid ⟨LessW.start t v q i, ht.out⟩⟩
  case round =>
    clear u0
    obtain ⟨j, c, b, t', u, rfl, hj, rfl, rfl, rfl, hS⟩ := hrel
    by_cases hjn : j < n
    · obtain ⟨y, hy⟩ : ∃ y, Hid (wd v j = y) := ⟨_, Lib.hid rfl⟩
      obtain ⟨x, hx⟩ : ∃ x, Hid (wd t' (i + j) = x) := ⟨_, Lib.hid rfl⟩
      have hyb : y < B := by rw [← hy.out]; exact wd_lt v j
      have hxb : x < B := by rw [← hx.out]; exact wd_lt t' (i + j)
      have hj8 : j < 8 := by omega
      have hij : i + j < 9 := by omega
      have hc1 := cells_at hj8 hy.out
      have hc2 := cells_at hij hx.out
      obtain ⟨hh, lo, HM, FM⟩ := mul_fix q y hq.out hyb
      obtain ⟨l2, o, HA, FA⟩ := add_fix lo c 0 HM.out.2.1 hS.out.1.2.1
      obtain ⟨z, b', HS, FS⟩ := sub_fix x l2 b hxb HA.out.1
      have hzb := HS.out.1
      have HN : Hid (LessW t v q i (j + 1) (put t' (i + j) z) (hh + o) b' ∧ put t' (i + j) z < B ^ 9) := Lib.hid ⟨hS.out.1.next hq.out (by rw [hy.out]; exact HM.out.2.2) (by have := HA.out.2.2; rw [show cn 0 = 0 from rfl] at this; omega) hzb HS.out.2.1
        (by have h := HS.out.2.2; rw [cn_le hS.out.1.1] at h; rw [hx.out]; exact h), put_lt hS.out.2 hij hzb⟩
      have hho : ((hh : Int) + o) ≤ 18446744073709551615 := by have := HN.out.1.2.1; rw [B_eq] at this; omega
      have hjni : (j : Int) < n := by omega
      have hj0i : (0 : Int) ≤ j := by omega
      obtain ⟨u3, hu3⟩ := u.ex_put (j := i + j) (v := .int .u64 (z : Nat)) (cells_set hzb)
      have HU := Lib.hid hu3
      clear hu3 hyb hxb hzb
      go_wp2_with (fail)
      refine (FM _).mono ?_
      rintro e w' ⟨rfl, rfl⟩
      go_wp2_with (fail)
      refine (FA _).mono ?_
      rintro e w' ⟨rfl, rfl⟩
      go_wp2_with (fail)
      refine (FS _).mono ?_
      rintro e w' ⟨rfl, rfl⟩
      go_wp2_with (fail)
      go_roundw
      case rel => exact ⟨j + 1, hh + o, b', _, u3, by go_num, by omega, vint (by omega), rfl, HU.out, HN⟩
      case measure => simp [intOf]; omega
    · obtain rfl : j = n := by omega
      obtain ⟨x, hx⟩ : ∃ x, Hid (wd t' (i + j) = x) := ⟨_, Lib.hid rfl⟩
      have hxb : x < B := by rw [← hx.out]; exact wd_lt t' (i + j)
      have hc2 := cells_at hi hx.out
      obtain ⟨z, b', HS, FS⟩ := sub_fix x c b hxb hS.out.1.2.1
      have HX : Hid (wd t (i + j) = x) := Lib.hid (by rw [← hx.out]; unfold wd; rw [hS.out.1.2.2.2])
      have HE : Hid (z + c + b = wd t (i + j) + B * b') := Lib.hid (by have h := HS.out.2.2; rw [cn_le hS.out.1.1] at h; rw [HX.out]; exact h)
      clear hxb hjn
      go_wp2_with (fail)
      refine (FS _).mono ?_
      rintro e w' ⟨rfl, rfl⟩
      go_wp2_with (fail)
      go_ret
      exact ⟨c, b, z, b', t', u, ret_bool (by rw [Bool.eq_iff_iff]; simp; omega), rfl, Lib.hid ⟨hS.out.1, hS.out.2, HS.out.1, HS.out.2.1, HE.out⟩⟩
def RaRel (g gb i n t v : Nat) (T T' : TypeId) (W : World) (L : List Ent) (c k : Value) (wr : World) : Prop :=
  ∃ (j c' t' : Nat) (u : KW W (⟨g, cells 9 t', T⟩ :: ⟨gb, cells 8 v, T'⟩ :: L)), k = .int .i64 j ∧ j ≤ n ∧ c = .int .u64 c' ∧ wr = u.w ∧ Hid (RaiseW t v i j t' c' ∧ t' < B ^ 9)
def RaisePost (g gb i n t v : Nat) (T T' : TypeId) (W : World) (L : List Ent) (e : Ending) (w' : World) : Prop :=
  ∃ (c t' : Nat) (u : KW W (⟨g, cells 9 t', T⟩ :: ⟨gb, cells 8 v, T'⟩ :: L)), e = .returned (.tuple #[]) ∧ w' = u.w ∧ Hid (RaiseW t v i n t' c ∧ t' < B ^ 9)
set_option maxHeartbeats 1600000 in
theorem raise_any {W : World} {L : List Ent} {g gb i n t v cap cap' : Nat} {T T' : TypeId} (u0 : KW W (⟨g, cells 9 t, T⟩ :: ⟨gb, cells 8 v, T'⟩ :: L)) (hi : i + n < 9) (ht : Hid (t < B ^ 9)) :
    Calls Tryd.prog 41 #[.slice (some ⟨g, i, none⟩) n cap, .slice (some ⟨gb, 0, none⟩) n cap'] u0.w (RaisePost g gb i n t v T T' W L) := by
  go_enter Tryd.func41, Tryd.ntmps41
  go_wp2_with (fail)
  go_loopw [4, 8] (RaRel g gb i n t v T T' W L) (fun _ k _ => n - (intOf k).toNat)
  case atStart => exact ⟨0, 0, t, u0, rfl, Nat.zero_le _, rfl, rfl, Lib.hid ⟨RaiseW.start t v i, ht.out⟩⟩
  case round =>
    clear u0
    obtain ⟨j, c, t', u, rfl, hj, rfl, rfl, hS⟩ := hrel
    by_cases hjn : j < n
    · obtain ⟨y, hy⟩ : ∃ y, Hid (wd v j = y) := ⟨_, Lib.hid rfl⟩
      obtain ⟨x, hx⟩ : ∃ x, Hid (wd t' (i + j) = x) := ⟨_, Lib.hid rfl⟩
      have hyb : y < B := by rw [← hy.out]; exact wd_lt v j
      have hxb : x < B := by rw [← hx.out]; exact wd_lt t' (i + j)
      have hj8 : j < 8 := by omega
      have hij : i + j < 9 := by omega
      have hc1 := cells_at hj8 hy.out
      have hc2 := cells_at hij hx.out
      obtain ⟨z, o, HA, FA⟩ := add_fix x y c hxb hyb
      have hzb := HA.out.1
      have HN : Hid (RaiseW t v i (j + 1) (put t' (i + j) z) o ∧ put t' (i + j) z < B ^ 9) := Lib.hid ⟨hS.out.1.next hzb HA.out.2.1 (by have h := HA.out.2.2; rw [cn_le hS.out.1.1] at h; rw [hx.out, hy.out]; exact h), put_lt hS.out.2 hij hzb⟩
      have hjni : (j : Int) < n := by omega
      have hj0i : (0 : Int) ≤ j := by omega
      obtain ⟨u3, hu3⟩ := u.ex_put (j := i + j) (v := .int .u64 (z : Nat)) (cells_set hzb)
      have HU := Lib.hid hu3
      clear hu3 hyb hxb hzb
      go_wp2_with (fail)
      go_region_with (go_at_call 29; refine (FA _).mono ?_; rintro e w' ⟨rfl, rfl⟩)
      all_goals go_wp2_with (fail)
      all_goals
        go_roundw
        case rel => exact ⟨j + 1, o, _, u3.drew, by go_num, by omega, rfl, by rw [HU.out]; rfl, HN⟩
        case measure => simp [intOf]; omega
    · obtain rfl : j = n := by omega
      clear hjn
      go_wp2_with (fail)
      go_end0
      exact ⟨c, t', u, rfl, rfl, hS⟩
end Go.Proofs.YtiklebonkpjlpaaDoor.QuotW
