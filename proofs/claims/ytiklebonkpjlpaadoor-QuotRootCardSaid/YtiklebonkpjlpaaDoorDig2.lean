/-
  The document's own Less, Digits, Plus, Minus and Trim of layer 2: contracts over the translation.
-/
import Derived.Test.YtiklebonkpjlpaaDoorDig
namespace Go.Proofs.YtiklebonkpjlpaaDoor.DigW
open Go.RowKit
open DigM
theorem val_drop_max (ds : List Nat) (n : Nat) (h : ds.length ≤ n) : val (ds.drop n) = 0 := by rw [List.drop_of_length_le h]; rfl
def lessB (a b : List Nat) : Bool := decide (val a < val b)
theorem lessB_at {a b : List Nat} (j x y : Nat) (ha : Digs a) (hb : Digs b) (hd : val (a.drop (j + 1)) = val (b.drop (j + 1))) (hx : dg a j = x) (hy : dg b j = y) (hn : x ≠ y) : lessB a b = decide (x < y) := by
  unfold lessB
  subst hx hy
  exact decide_eq_decide.2 (by rw [less_at a b j ha hb hd hn])
theorem lessB_same {a b : List Nat} (h : val (a.drop 0) = val (b.drop 0)) : lessB a b = false := by
  unfold lessB; simp at h; simp [h]
theorem drop_same {a b : List Nat} {j : Nat} (hd : val (a.drop (j + 1)) = val (b.drop (j + 1))) (he : dg a j = dg b j) : val (a.drop j) = val (b.drop j) := by
  rw [val_drop a, val_drop b, hd, he]
set_option maxHeartbeats 800000 in
theorem less_any (v u : Value) (a b : List Nat) (w : World) (hv : Rd w v a) (hu : Rd w u b) (ha : Digs a) (hb : Digs b) (hla : a.length ≤ 1099511627775) (hlb : b.length ≤ 1099511627775) :
    Calls Tryd.prog 17 #[v, u] w (Same (.bool (lessB a b)) w) := by
  have RV := hv
  have RU := hu
  obtain ⟨av, capv, rfl, _, _⟩ := hv
  obtain ⟨au, capu, rfl, _, _⟩ := hu
  have H : ∀ n : Nat, n = max a.length b.length → Hid (val (a.drop n) = val (b.drop n)) := fun n hn => Lib.hid (by rw [val_drop_max a n (by omega), val_drop_max b n (by omega)])
  by_cases hm : a.length < b.length
  · have H1 := H b.length (by omega)
    clear H
    go_enter Tryd.func17, Tryd.ntmps17
    go_wp2_with (fail)
    go_loop [6] (fun i => ∃ m : Nat, m ≤ b.length ∧ i = .int .i64 ((m : Int) - 1) ∧ Hid (val (a.drop m) = val (b.drop m))) (fun i => (intOf i + 1).toNat)
    case atStart => exact ⟨b.length, Nat.le_refl _, rfl, H1⟩
    case round =>
      obtain ⟨m, hm1, rfl, hE⟩ := hrel
      cases m with
      | zero =>
        have hr := Lib.hid (lessB_same hE.out)
        go_wp2_with (fail)
        go_ret
        exact ⟨ret_bool (by rw [hr.out]), rfl⟩
      | succ j =>
        have ej : ((j + 1 : Nat) : Int) - 1 = j := by omega
        rw [ej]
        clear ej
        obtain ⟨x, hx⟩ : ∃ x, Hid (dg a j = x) := ⟨_, Lib.hid rfl⟩
        obtain ⟨y, hy⟩ : ∃ y, Hid (dg b j = y) := ⟨_, Lib.hid rfl⟩
        by_cases he : x = y
        · subst he
          have HS := Lib.hid (drop_same hE.out (hx.out.trans hy.out.symm))
          go_wp2_with (fail)
          refine (digit_is _ a j x _ RV hx (by omega) (by omega)).mono ?_
          rintro e w' ⟨rfl, rfl⟩
          go_wp2_with (fail)
          refine (digit_is _ b j x _ RU hy (by omega) (by omega)).mono ?_
          rintro e w' ⟨rfl, rfl⟩
          go_wp2_with (fail)
          go_round
          case rel => exact ⟨j, by omega, by go_num, HS⟩
          case measure => simp [intOf]
        · have hr := Lib.hid (lessB_at j x y ha hb hE.out hx.out hy.out he)
          have hq := bn_yes (show ¬ (x : Int) = (y : Int) from by omega)
          clear he
          go_wp2_with (fail)
          refine (digit_is _ a j x _ RV hx (by omega) (by omega)).mono ?_
          rintro e w' ⟨rfl, rfl⟩
          go_wp2_with (fail)
          refine (digit_is _ b j y _ RU hy (by omega) (by omega)).mono ?_
          rintro e w' ⟨rfl, rfl⟩
          go_wp2_with (fail)
          refine (digit_is _ a j x _ RV hx (by omega) (by omega)).mono ?_
          rintro e w' ⟨rfl, rfl⟩
          go_wp2_with (fail)
          refine (digit_is _ b j y _ RU hy (by omega) (by omega)).mono ?_
          rintro e w' ⟨rfl, rfl⟩
          go_wp2_with (fail)
          go_ret
          exact ⟨ret_bool (by rw [hr.out]), rfl⟩
  · have H1 := H a.length (by omega)
    clear H
    go_enter Tryd.func17, Tryd.ntmps17
    go_wp2_with (fail)
    go_loop [6] (fun i => ∃ m : Nat, m ≤ a.length ∧ i = .int .i64 ((m : Int) - 1) ∧ Hid (val (a.drop m) = val (b.drop m))) (fun i => (intOf i + 1).toNat)
    case atStart => exact ⟨a.length, Nat.le_refl _, rfl, H1⟩
    case round =>
      obtain ⟨m, hm1, rfl, hE⟩ := hrel
      cases m with
      | zero =>
        have hr := Lib.hid (lessB_same hE.out)
        go_wp2_with (fail)
        go_ret
        exact ⟨ret_bool (by rw [hr.out]), rfl⟩
      | succ j =>
        have ej : ((j + 1 : Nat) : Int) - 1 = j := by omega
        rw [ej]
        clear ej
        obtain ⟨x, hx⟩ : ∃ x, Hid (dg a j = x) := ⟨_, Lib.hid rfl⟩
        obtain ⟨y, hy⟩ : ∃ y, Hid (dg b j = y) := ⟨_, Lib.hid rfl⟩
        by_cases he : x = y
        · subst he
          have HS := Lib.hid (drop_same hE.out (hx.out.trans hy.out.symm))
          go_wp2_with (fail)
          refine (digit_is _ a j x _ RV hx (by omega) (by omega)).mono ?_
          rintro e w' ⟨rfl, rfl⟩
          go_wp2_with (fail)
          refine (digit_is _ b j x _ RU hy (by omega) (by omega)).mono ?_
          rintro e w' ⟨rfl, rfl⟩
          go_wp2_with (fail)
          go_round
          case rel => exact ⟨j, by omega, by go_num, HS⟩
          case measure => simp [intOf]
        · have hr := Lib.hid (lessB_at j x y ha hb hE.out hx.out hy.out he)
          have hq := bn_yes (show ¬ (x : Int) = (y : Int) from by omega)
          clear he
          go_wp2_with (fail)
          refine (digit_is _ a j x _ RV hx (by omega) (by omega)).mono ?_
          rintro e w' ⟨rfl, rfl⟩
          go_wp2_with (fail)
          refine (digit_is _ b j y _ RU hy (by omega) (by omega)).mono ?_
          rintro e w' ⟨rfl, rfl⟩
          go_wp2_with (fail)
          refine (digit_is _ a j x _ RV hx (by omega) (by omega)).mono ?_
          rintro e w' ⟨rfl, rfl⟩
          go_wp2_with (fail)
          refine (digit_is _ b j y _ RU hy (by omega) (by omega)).mono ?_
          rintro e w' ⟨rfl, rfl⟩
          go_wp2_with (fail)
          go_ret
          exact ⟨ret_bool (by rw [hr.out]), rfl⟩
/-- a call that gives digits in new memory -/
def Gives (P : List Nat → Prop) (w : World) (e : Ending) (w' : World) : Prop := ∃ v ds, e = .returned v ∧ P ds ∧ Own w.heap.size w' v ds ∧ Below w.heap.size w w'
theorem ownsU (w : World) (ds : List Nat) (h : ds.length ≤ 1099511627776) : Own w.heap.size (w.alloc (.cells (ds.map (fun d => Value.int .u64 (d : Nat))).toArray 22)) (.slice (some ⟨w.heap.size, 0, none⟩) ds.length ds.length) ds := by
  refine ⟨by simp, .inr ⟨w.heap.size, ds.length, _, rfl, Nat.le_refl _, heap_alloc_new w _, Nat.le_refl _, by unfold maxLen; omega, by simp, by simp only [Nat.mul_one]; exact List.take_of_length_le (by simp)⟩⟩
theorem digits_any (a : Nat) (w : World) (ha : a < 18446744073709551616) :
    Calls Tryd.prog 34 #[.int .u64 a] w (Gives (· = digits a) w) := by
  have HO := Lib.hid (ownsU w (digits a) (by simp [digits]))
  have ha' : (a : Int) ≤ 18446744073709551615 := by omega
  clear ha
  go_enter Tryd.func34, Tryd.ntmps34
  go_wp2_with (fail)
  go_ret
  exact ⟨_, digits a, rfl, rfl, HO.out, (Below.refl _ _).alloc (Nat.le_refl _) _⟩
theorem Own.snoc {B : Nat} {w : World} {v : Value} {ds : List Nat} {d : Nat} {x : Int} (h : w.ownsRow B 22 1 v (ds.length + 1) (ds.map (fun d => Value.int .u64 (d : Nat)) ++ [.int .u64 x])) (e : x = (d : Int)) : Own B w v (ds ++ [d]) := by
  unfold Own; rw [List.length_append, List.map_append]
  subst e
  exact h
def PRel (a b : List Nat) (w : World) (v c i : Value) (wr : World) : Prop :=
  ∃ (k cn : Nat) (o : List Nat), i = .int .i64 k ∧ c = .int .u64 cn ∧ Own w.heap.size wr v o ∧ Below w.heap.size w wr ∧ Hid (Sum a b k o cn)
def PlusP (a b ds : List Nat) : Prop := Digs ds ∧ val ds = val a + val b ∧ ds.length ≤ max a.length b.length + 1
set_option maxHeartbeats 1600000 in
theorem plus_any (v u : Value) (a b : List Nat) (w : World) (hv : Rd w v a) (hu : Rd w u b) (ha : Digs a) (hb : Digs b) (hla : a.length ≤ 1099511627770) (hlb : b.length ≤ 1099511627770) :
    Calls Tryd.prog 16 #[v, u] w (Gives (PlusP a b) w) := by
  have RV := hv
  have RU := hu
  obtain ⟨av, capv, rfl, _, _⟩ := hv
  obtain ⟨au, capu, rfl, _, _⟩ := hu
  obtain ⟨i0, hi, hz0, hz1, hz2⟩ := info_parts infoU
  go_enter Tryd.func16, Tryd.ntmps16
  go_wp2_with (fail)
  go_loopw [5, 6, 7] (PRel a b w) (fun _ _ i _ => max a.length b.length + 1 - (intOf i).toNat)
  case atStart => exact ⟨0, 0, [], rfl, rfl, World.ownsRow_made _ _ _ (Nat.le_refl _) (by decide) rfl, (Below.refl _ _).alloc (Nat.le_refl _) _, Lib.hid (Sum.start a b)⟩
  case round =>
    obtain ⟨k, cn, o, rfl, rfl, hown, hnx, hS⟩ := hrel
    have hk1 : k ≤ max a.length b.length + 1 := hS.out.2.2.2.2.1
    have hlen : o.length ≤ k := by rw [hS.out.1]; exact Nat.le_refl _
    have hcn : cn ≤ 1 := hS.out.2.2.1
    have RV' := RV.later hnx (Nat.le_refl _)
    have RU' := RU.later hnx (Nat.le_refl _)
    obtain ⟨x, hx⟩ : ∃ x, Hid (dg a k = x) := ⟨_, Lib.hid rfl⟩
    obtain ⟨y, hy⟩ : ∃ y, Hid (dg b k = y) := ⟨_, Lib.hid rfl⟩
    have hxb : x < 65536 := by rw [← hx.out]; exact ha.dg k
    have hyb : y < 65536 := by rw [← hy.out]; exact hb.dg k
    by_cases h1 : k < a.length
    · have hkm : k ≤ max a.length b.length := by
        apply Nat.le_of_not_lt; intro hc
        have := hS.out.2.2.2.2.2 hc
        omega
      have HN := Lib.hid (hS.out.next ha hb (by omega)).1
      rw [hx.out, hy.out] at HN
      go_wp2_with (fail)
      refine (digit_is _ a k x _ RV' hx (by omega) (by omega)).mono ?_
      rintro e w' ⟨rfl, rfl⟩
      go_wp2_with (fail)
      refine (digit_is _ b k y _ RU' hy (by omega) (by omega)).mono ?_
      rintro e w' ⟨rfl, rfl⟩
      go_wp2_with (first
        | (at_builtin; refine wpList_append_own _ rfl _ _ 38 rfl w.heap.size 22 i0 (.int .u64 0) 1 8 Tryd.underlying38 hi hz0 hz1 hz2 rfl (by decide) _ _ _ rfl (World.ownsRow.alloc hown _) ⟨wr.heap.size, 0, none⟩ 1 1 [.int .u64 ((((x + y + cn) % 65536 : Nat) : Int))] rfl rfl ?c1 ?c2 ?c3 ?c4 ?c5 ?_))
      case c1 =>
        intro j u hj
        match j, hj with
        | 0, hj => simp at hj; subst hj; simp [Addr.add]
      case c2 => intro u hu; simp at hu; subst hu; rfl
      case c3 => unfold maxLen; omega
      case c4 => omega
      case c5 => have := hnx.size; simp; omega
      intro v' w1 hown' hgrow _
      have hnx' : Below w.heap.size w w1 := Below.grown (hnx.alloc hnx.size _) hgrow (by have := hnx.size; simp; omega) (fun j hj => (hown.lt j hj).1)
      clear hgrow
      have HO := Lib.hid (Own.snoc hown' rfl)
      clear hown'
      go_wp2_with (fail)
      go_roundw
      case rel => exact ⟨k + 1, (x + y + cn) / 65536, _, by go_num, vint (by omega), HO.out, hnx', HN⟩
      case measure => simp [intOf]; omega
    · by_cases h2 : k < b.length
      · have hkm : k ≤ max a.length b.length := by
          apply Nat.le_of_not_lt; intro hc
          have := hS.out.2.2.2.2.2 hc
          omega
        have HN := Lib.hid (hS.out.next ha hb (by omega)).1
        rw [hx.out, hy.out] at HN
        go_wp2_with (fail)
        refine (digit_is _ a k x _ RV' hx (by omega) (by omega)).mono ?_
        rintro e w' ⟨rfl, rfl⟩
        go_wp2_with (fail)
        refine (digit_is _ b k y _ RU' hy (by omega) (by omega)).mono ?_
        rintro e w' ⟨rfl, rfl⟩
        go_wp2_with (first
          | (at_builtin; refine wpList_append_own _ rfl _ _ 38 rfl w.heap.size 22 i0 (.int .u64 0) 1 8 Tryd.underlying38 hi hz0 hz1 hz2 rfl (by decide) _ _ _ rfl (World.ownsRow.alloc hown _) ⟨wr.heap.size, 0, none⟩ 1 1 [.int .u64 ((((x + y + cn) % 65536 : Nat) : Int))] rfl rfl ?c1 ?c2 ?c3 ?c4 ?c5 ?_))
        case c1 =>
          intro j u hj
          match j, hj with
          | 0, hj => simp at hj; subst hj; simp [Addr.add]
        case c2 => intro u hu; simp at hu; subst hu; rfl
        case c3 => unfold maxLen; omega
        case c4 => omega
        case c5 => have := hnx.size; simp; omega
        intro v' w1 hown' hgrow _
        have hnx' : Below w.heap.size w w1 := Below.grown (hnx.alloc hnx.size _) hgrow (by have := hnx.size; simp; omega) (fun j hj => (hown.lt j hj).1)
        clear hgrow
        have HO := Lib.hid (Own.snoc hown' rfl)
        clear hown'
        go_wp2_with (fail)
        go_roundw
        case rel => exact ⟨k + 1, (x + y + cn) / 65536, _, by go_num, vint (by omega), HO.out, hnx', HN⟩
        case measure => simp [intOf]; omega
      · by_cases h3 : 0 < cn
        · have hkm : k ≤ max a.length b.length := by
            apply Nat.le_of_not_lt; intro hc
            have := hS.out.2.2.2.2.2 hc
            omega
          have HN := Lib.hid (hS.out.next ha hb (by omega)).1
          rw [hx.out, hy.out] at HN
          go_wp2_with (fail)
          refine (digit_is _ a k x _ RV' hx (by omega) (by omega)).mono ?_
          rintro e w' ⟨rfl, rfl⟩
          go_wp2_with (fail)
          refine (digit_is _ b k y _ RU' hy (by omega) (by omega)).mono ?_
          rintro e w' ⟨rfl, rfl⟩
          go_wp2_with (first
            | (at_builtin; refine wpList_append_own _ rfl _ _ 38 rfl w.heap.size 22 i0 (.int .u64 0) 1 8 Tryd.underlying38 hi hz0 hz1 hz2 rfl (by decide) _ _ _ rfl (World.ownsRow.alloc hown _) ⟨wr.heap.size, 0, none⟩ 1 1 [.int .u64 ((((x + y + cn) % 65536 : Nat) : Int))] rfl rfl ?c1 ?c2 ?c3 ?c4 ?c5 ?_))
          case c1 =>
            intro j u hj
            match j, hj with
            | 0, hj => simp at hj; subst hj; simp [Addr.add]
          case c2 => intro u hu; simp at hu; subst hu; rfl
          case c3 => unfold maxLen; omega
          case c4 => omega
          case c5 => have := hnx.size; simp; omega
          intro v' w1 hown' hgrow _
          have hnx' : Below w.heap.size w w1 := Below.grown (hnx.alloc hnx.size _) hgrow (by have := hnx.size; simp; omega) (fun j hj => (hown.lt j hj).1)
          clear hgrow
          have HO := Lib.hid (Own.snoc hown' rfl)
          clear hown'
          go_wp2_with (fail)
          go_roundw
          case rel => exact ⟨k + 1, (x + y + cn) / 65536, _, by go_num, vint (by omega), HO.out, hnx', HN⟩
          case measure => simp [intOf]; omega
        · have hend := hS.out.over (by omega)
          go_wp2_with (fail)
          go_ret
          exact ⟨_, o, rfl, hend, hown, hnx⟩
end Go.Proofs.YtiklebonkpjlpaaDoor.DigW
