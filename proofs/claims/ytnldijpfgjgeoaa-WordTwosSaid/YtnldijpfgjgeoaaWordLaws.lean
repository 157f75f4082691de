/-
  word's Two, the layer's own example ('awake'), and the walks of the laws WordAdds and WordTwos.
-/
import Derived.Test.YtnldijpfgjgeoaaWord
import Derived.Test.YtnldijpfgjgeoaaDig5
namespace Go.Proofs.Ytnldijpfgjgeoaa.DigW
open Go.RowKit
open DigM
def TwoOf (n : Int) (w : World) (e : Ending) (w' : World) : Prop := e = .returned (.tuple #[.bool (decide (n < 0)), .int .u64 (n.natAbs : Nat)]) ∧ w = w'
theorem ret_two {a b c d : Value} (h : a = b) (h' : c = d) : Ending.returned (.tuple #[a, c]) = .returned (.tuple #[b, d]) := by rw [h, h']
theorem two_any (n : Int) (w : World) (h1 : -9223372036854775808 ≤ n) (h2 : n ≤ 9223372036854775807) :
    Calls Try.prog 19 #[.int .i64 n] w (TwoOf n w) := by
  by_cases hn : n < 0
  · go_enter Try.func19, Try.ntmps19
    go_wp2_with (fail)
    go_ret2
    exact ⟨ret_two (by simp [hn]) (vint (by (try rw [IntKind.wrap_u64, IntKind.wrap_u64]); omega)), rfl⟩
  · go_enter Try.func19, Try.ntmps19
    go_wp2_with (fail)
    go_ret2
    exact ⟨ret_two (by simp [hn]) (vint (by omega)), rfl⟩
theorem add_one (w : World) : Calls Try.prog 6 #[.int .u64 18446744073709551615, .int .u64 1, .int .u64 0] w (fun e w' => e = .returned (.tuple #[.int .u64 0, .int .u64 1]) ∧ w = w') := by
  refine (add_any 18446744073709551615 1 0 w (Lib.hid (by decide)) (Lib.hid (by decide))).mono ?_
  rintro e w' ⟨s, o, rfl, h, rfl⟩
  obtain ⟨h1, h2, h3⟩ := h.out
  have h3' : s + 18446744073709551616 * o = 18446744073709551616 := h3
  have es : s = 0 := by omega
  have eo : o = 1 := by omega
  exact ⟨by rw [es, eo]; rfl, rfl⟩
theorem mul_six (w : World) : Calls Try.prog 13 #[.int .u64 9223372036854775808, .int .u64 6] w (fun e w' => e = .returned (.tuple #[.int .u64 3, .int .u64 0]) ∧ w = w') := by
  refine (mul_any 9223372036854775808 6 w (Lib.hid (by decide)) (Lib.hid (by decide))).mono ?_
  rintro e w' ⟨h, l, rfl, hh, rfl⟩
  obtain ⟨h1, h2, h3⟩ := hh.out
  have e1 : h = 3 := by omega
  have e2 : l = 0 := by omega
  exact ⟨by rw [e1, e2]; rfl, rfl⟩
theorem len_five (w : World) : Calls Try.prog 15 #[.int .u64 5] w (fun e w' => e = .returned (.int .i64 3) ∧ w = w') := by
  refine (wlen_any 5 w (Lib.hid (by decide))).mono ?_
  rintro e w' ⟨k, rfl, hk, _, rfl⟩
  have e1 : k = 3 := hk.out.uniq ⟨by decide, fun _ => by decide⟩
  exact ⟨by rw [e1]; rfl, rfl⟩
def IsTrue (w : World) (e : Ending) (w' : World) : Prop := e = .returned (.bool true) ∧ w = w'
def TrueAt (w : World) (e : Ending) (w' : World) : Prop := e = .returned (.bool true) ∧ Below w.heap.size w w'
theorem awake_any (w : World) : Calls Try.prog 12 #[] w (IsTrue w) := by
  go_enter Try.func12, Try.ntmps12
  go_wp2_with (fail)
  refine (add_one _).mono ?_
  rintro e w' ⟨rfl, rfl⟩
  go_wp2_with (fail)
  refine (mul_six _).mono ?_
  rintro e w' ⟨rfl, rfl⟩
  go_wp2_with (fail)
  refine (len_five _).mono ?_
  rintro e w' ⟨rfl, rfl⟩
  go_wp2_with (fail)
  go_ret
  exact ⟨rfl, rfl⟩
theorem wordTwos_walk (n : Int) (w : World) (h1 : -9223372036854775808 ≤ n) (h2 : n ≤ 9223372036854775807) :
    Calls Try.prog 5 #[.int .i64 n] w (TrueAt w) := by
  by_cases hn : n < 0
  · obtain ⟨m, hm, e⟩ : ∃ m : Nat, n.natAbs = m ∧ n = -(m : Int) := ⟨n.natAbs, rfl, by omega⟩
    have F := two_any n w h1 h2
    unfold TwoOf at F
    rw [decide_eq_true hn, hm] at F
    subst e
    clear hm
    have hw1 : IntKind.u64.wrap (-(m : Int)) = 18446744073709551616 - m := by rw [IntKind.wrap_u64]; omega
    have hw2 : IntKind.u64.wrap ((m : Int) + (18446744073709551616 - m)) = 0 := by rw [IntKind.wrap_u64]; omega
    have hm9 : (m : Int) ≤ 9223372036854775808 := by omega
    go_enter Try.func5, Try.ntmps5
    go_wp2_with (fail)
    refine F.mono ?_
    rintro e w' ⟨rfl, rfl⟩
    go_wp2_with (fail)
    refine (awake_any _).mono ?_
    rintro e w' ⟨rfl, rfl⟩
    go_wp2_with (fail)
    go_ret
    exact ⟨rfl, Below.refl _ _⟩
  · obtain ⟨m, hm, e⟩ : ∃ m : Nat, n.natAbs = m ∧ n = (m : Int) := ⟨n.natAbs, rfl, by omega⟩
    have F := two_any n w h1 h2
    unfold TwoOf at F
    rw [decide_eq_false hn, hm] at F
    subst e
    clear hm
    go_enter Try.func5, Try.ntmps5
    go_wp2_with (fail)
    refine F.mono ?_
    rintro e w' ⟨rfl, rfl⟩
    go_wp2_with (fail)
    refine (awake_any _).mono ?_
    rintro e w' ⟨rfl, rfl⟩
    go_wp2_with (fail)
    go_ret
    exact ⟨rfl, Below.refl _ _⟩
theorem word_is (v : Value) (ds : List Nat) (p x : Nat) (w : World) (h : Rd w v ds) (hg : Digs ds) (hx : Hid (wordAt ds p = x)) (hl : ds.length ≤ 1099511627776) (hp : p ≤ 1099511627776) :
    Calls Try.prog 9 #[v, .int .i64 p] w (Same (.int .u64 (x : Nat)) w) := by
  obtain rfl := hx.out
  exact word_any v ds p w h hg hl hp
theorem one_digit {c : Nat} (h : c ≤ 1) : Digs [c] ∧ val [c] = c := ⟨by intro z hz; simp at hz; omega, by simp [val]⟩

set_option maxHeartbeats 3200000 in
theorem wordAdds_0 (a b c : Nat) (w : World) (ha : Hid (a < 18446744073709551616)) (hb : Hid (b < 18446744073709551616)) (hc : c = 0) :
    Calls Try.prog 3 #[.int .u64 a, .int .u64 b, .int .u64 c] w (TrueAt w) := by
  have HCN : Hid (cn c = 0) := Lib.hid (by subst hc; rfl)
  have HC1 : Hid (cn 0 = 0) := Lib.hid rfl
  subst hc
  
  have gA := digits_good a ha.out
  have gB := digits_good b hb.out
  have lA : (digits a).length = 4 := rfl
  have lB : (digits b).length = 4 := rfl
  have vA := Lib.hid (digits_val a)
  have vB := Lib.hid (digits_val b)
  have g1 : Digs [0] := (one_digit (c := 0) (by decide)).1
  have v1 := Lib.hid (one_digit (c := 0) (by decide)).2
  have LA := Lib.hid lA
  have LB := Lib.hid lB
  clear lA lB
  have DA := fun w => digits_any a w ha.out
  have DB := fun w => digits_any b w hb.out
  generalize digits a = da at *
  generalize digits b = db at *
  go_enter Try.func3, Try.ntmps3
  go_wp2_with (fail)
  refine (add_any a b 0 w ha hb).mono ?_
  rintro e w' ⟨s, o, rfl, hs, rfl⟩
  go_wp2_with (fail)
  refine (DA _).mono ?_
  rintro e w1 ⟨v1', ds1, rfl, rfl, o1, b1⟩
  go_wp2_with (fail)
  refine (DB _).mono ?_
  rintro e w2 ⟨v2', ds2, rfl, rfl, o2, b2⟩
  go_wp2_with (fail)
  refine (plus_any _ _ ds1 ds2 _ (o1.rd.later b2 (Nat.le_refl _)) o2.rd gA gB (by rw [LA.out]; decide) (by rw [LB.out]; decide)).mono ?_
  rintro e w3 ⟨v3', p1, rfl, ⟨gp, vp, lp⟩, o3, b3⟩
  rw [LA.out, LB.out] at lp
  have hone : Rd (w3.alloc (.cells #[.int .u64 0] 22)) (.slice (some ⟨w3.heap.size, 0, none⟩) 1 1) [0] := (ownsU w3 [0] (by decide)).rd
  have o3' := o3.rd.later ((Below.refl _ w3).alloc (Nat.le_refl _) (.cells #[.int .u64 0] 22)) (Nat.le_refl _)
  have b3a := (Below.refl w3.heap.size w3).alloc (Nat.le_refl _) (.cells #[.int .u64 0] 22)
  have lp' : p1.length ≤ 1099511627770 := by simp at lp; omega
  go_wp2_with (fail)
  refine (plus_any _ _ p1 [0] _ o3' hone gp g1 lp' (by decide)).mono ?_
  rintro e w4 ⟨v4', p2, rfl, ⟨gp2, vp2, lp2⟩, o4, b4⟩
  have lp2' : p2.length ≤ 1099511627770 := by simp at lp lp2; omega
  obtain ⟨hs1, hs2, hs3⟩ := hs.out
  have VP : val p2 = a + b + 0 := by rw [vp2, vp, vA.out, vB.out, v1.out]
  have e0 : Hid (wordAt p2 0 = s) := Lib.hid (by rw [wordAt_0 p2 gp2, VP]; have := HCN.out; omega)
  have e4 : Hid (wordAt p2 4 = o) := Lib.hid (by rw [wordAt_4 p2 gp2, VP]; have := HCN.out; omega)
  have hb4 : Below w.heap.size w w4 := (((b1.trans (b2.mono b1.size)).trans (b3.mono (Nat.le_trans b1.size b2.size))).trans (b3a.mono (Nat.le_trans (Nat.le_trans b1.size b2.size) b3.size))).trans (b4.mono (Nat.le_trans (Nat.le_trans (Nat.le_trans b1.size b2.size) b3.size) b3a.size))
  clear hs1 hs2 hs3 VP vp vp2 lp lp2 hone o3' b3a b4 b3 b2 b1 o1 o2 o3
  go_wp2_with (fail)
  refine (word_is _ p2 0 s _ o4.rd gp2 e0 (by omega) (by decide)).mono ?_
  rintro e w' ⟨rfl, rfl⟩
  go_wp2_with (fail)
  refine (word_is _ p2 4 o _ o4.rd gp2 e4 (by omega) (by decide)).mono ?_
  rintro e w' ⟨rfl, rfl⟩
  clear o4 gp2 e0 e4 lp2' lp' gp
  go_wp2_with (fail)
  refine (sub_any s b 0 _ (Lib.hid hs.out.1) hb).mono ?_
  rintro e w' ⟨d, u, rfl, hd, rfl⟩
  obtain rfl : d = a := by have := hs.out; have := hd.out; have := HCN.out; have := HC1.out; have := ha.out; omega
  obtain rfl : u = o := by have := hs.out; have := hd.out; have := HCN.out; have := HC1.out; have := ha.out; omega
  go_wp2_with (fail)
  refine (sub_any d b 0 _ ha hb).mono ?_
  rintro e w' ⟨x, low, rfl, hx, rfl⟩
  go_wp2_with (fail)
  refine (DA _).mono ?_
  rintro e w5 ⟨v1', ds1, rfl, rfl, o1, b1⟩
  go_wp2_with (fail)
  refine (DB _).mono ?_
  rintro e w6 ⟨v2', ds2, rfl, rfl, o2, b2⟩
  have hone : Rd (w6.alloc (.cells #[.int .u64 0] 22)) (.slice (some ⟨w6.heap.size, 0, none⟩) 1 1) [0] := (ownsU w6 [0] (by decide)).rd
  have b2a := (Below.refl w6.heap.size w6).alloc (Nat.le_refl _) (.cells #[.int .u64 0] 22)
  have o2' := o2.rd.later b2a (Nat.le_refl _)
  go_wp2_with (fail)
  refine (plus_any _ _ ds2 [0] _ o2' hone gB g1 (by rw [LB.out]; decide) (by decide)).mono ?_
  rintro e w7 ⟨v4', p3, rfl, ⟨gp3, vp3, lp3⟩, o4, b4⟩
  have lp3' : p3.length ≤ 1099511627770 := by rw [LB.out] at lp3; simp at lp3; omega
  have o1' : Rd w7 _ ds1 := (o1.rd.later b2 (Nat.le_refl _)).later ((b2a.mono (Nat.le_refl _)).trans (b4.mono b2a.size)) (Nat.le_refl _)
  have hb7 : Below w.heap.size w w7 := hb4.trans (((b1.trans (b2.mono b1.size)).trans ((b2a.trans (b4.mono b2a.size)).mono (Nat.le_trans b1.size b2.size))).mono hb4.size)
  have VL : val p3 = b + 0 := by rw [vp3, vB.out, v1.out]
  by_cases hl : d < b + 0
  · have HLess : lessB ds1 p3 = true := by unfold lessB; rw [vA.out, VL]; exact decide_eq_true hl
    have F := less_any _ _ ds1 p3 w7 o1' o4.rd gA gp3 (by rw [LA.out]; decide) (by omega)
    rw [HLess] at F
    obtain rfl : low = 1 := by have := hx.out; have := HCN.out; omega
    have HX := Lib.hid hl
    clear hl HLess VL vp3 lp3 hone o2' b2a b4 b2 b1 o1 o2 o1' hb4 o4
    go_wp2_with (fail)
    refine F.mono ?_
    rintro e w' ⟨rfl, rfl⟩
    go_wp2_with (fail)
    refine (add_any x b 0 _ (Lib.hid hx.out.1) hb).mono ?_
    rintro e w' ⟨y, bk, rfl, hy, rfl⟩
    obtain rfl : y = d := by have := hx.out; have := hy.out; have := HCN.out; have := HC1.out; have := ha.out; omega
    obtain rfl : bk = 1 := by have := hx.out; have := hy.out; have := HCN.out; have := HC1.out; have := ha.out; omega
    go_wp2_with (fail)
    refine (awake_any _).mono ?_
    rintro e w' ⟨rfl, rfl⟩
    go_wp2_with (fail)
    go_ret
    exact ⟨rfl, hb7⟩
  · have HLess : lessB ds1 p3 = false := by unfold lessB; rw [vA.out, VL]; exact decide_eq_false hl
    have F := less_any _ _ ds1 p3 w7 o1' o4.rd gA gp3 (by rw [LA.out]; decide) (by omega)
    rw [HLess] at F
    obtain rfl : low = 0 := by have := hx.out; have := HCN.out; omega
    have HX := Lib.hid hl
    clear hl HLess VL vp3 lp3 hone o2' b2a b4 b2 b1 o1 o2 o1' hb4 o4
    go_wp2_with (fail)
    refine F.mono ?_
    rintro e w' ⟨rfl, rfl⟩
    go_wp2_with (fail)
    refine (add_any x b 0 _ (Lib.hid hx.out.1) hb).mono ?_
    rintro e w' ⟨y, bk, rfl, hy, rfl⟩
    obtain rfl : y = d := by have := hx.out; have := hy.out; have := HCN.out; have := HC1.out; have := ha.out; omega
    obtain rfl : bk = 0 := by have := hx.out; have := hy.out; have := HCN.out; have := HC1.out; have := ha.out; omega
    go_wp2_with (fail)
    refine (awake_any _).mono ?_
    rintro e w' ⟨rfl, rfl⟩
    go_wp2_with (fail)
    go_ret
    exact ⟨rfl, hb7⟩

set_option maxHeartbeats 3200000 in
theorem wordAdds_1 (a b c : Nat) (w : World) (ha : Hid (a < 18446744073709551616)) (hb : Hid (b < 18446744073709551616)) (hc : 0 < c) :
    Calls Try.prog 3 #[.int .u64 a, .int .u64 b, .int .u64 c] w (TrueAt w) := by
  have HCN : Hid (cn c = 1) := Lib.hid (by unfold cn; rw [if_neg (by omega)])
  have HC1 : Hid (cn 1 = 1) := Lib.hid rfl
  have hc0 : (1 : Int) ≤ c := by omega
  clear hc
  have gA := digits_good a ha.out
  have gB := digits_good b hb.out
  have lA : (digits a).length = 4 := rfl
  have lB : (digits b).length = 4 := rfl
  have vA := Lib.hid (digits_val a)
  have vB := Lib.hid (digits_val b)
  have g1 : Digs [1] := (one_digit (c := 1) (by decide)).1
  have v1 := Lib.hid (one_digit (c := 1) (by decide)).2
  have LA := Lib.hid lA
  have LB := Lib.hid lB
  clear lA lB
  have DA := fun w => digits_any a w ha.out
  have DB := fun w => digits_any b w hb.out
  generalize digits a = da at *
  generalize digits b = db at *
  go_enter Try.func3, Try.ntmps3
  go_wp2_with (fail)
  refine (add_any a b c w ha hb).mono ?_
  rintro e w' ⟨s, o, rfl, hs, rfl⟩
  go_wp2_with (fail)
  refine (DA _).mono ?_
  rintro e w1 ⟨v1', ds1, rfl, rfl, o1, b1⟩
  go_wp2_with (fail)
  refine (DB _).mono ?_
  rintro e w2 ⟨v2', ds2, rfl, rfl, o2, b2⟩
  go_wp2_with (fail)
  refine (plus_any _ _ ds1 ds2 _ (o1.rd.later b2 (Nat.le_refl _)) o2.rd gA gB (by rw [LA.out]; decide) (by rw [LB.out]; decide)).mono ?_
  rintro e w3 ⟨v3', p1, rfl, ⟨gp, vp, lp⟩, o3, b3⟩
  rw [LA.out, LB.out] at lp
  have hone : Rd (w3.alloc (.cells #[.int .u64 1] 22)) (.slice (some ⟨w3.heap.size, 0, none⟩) 1 1) [1] := (ownsU w3 [1] (by decide)).rd
  have o3' := o3.rd.later ((Below.refl _ w3).alloc (Nat.le_refl _) (.cells #[.int .u64 1] 22)) (Nat.le_refl _)
  have b3a := (Below.refl w3.heap.size w3).alloc (Nat.le_refl _) (.cells #[.int .u64 1] 22)
  have lp' : p1.length ≤ 1099511627770 := by simp at lp; omega
  go_wp2_with (fail)
  refine (plus_any _ _ p1 [1] _ o3' hone gp g1 lp' (by decide)).mono ?_
  rintro e w4 ⟨v4', p2, rfl, ⟨gp2, vp2, lp2⟩, o4, b4⟩
  have lp2' : p2.length ≤ 1099511627770 := by simp at lp lp2; omega
  obtain ⟨hs1, hs2, hs3⟩ := hs.out
  have VP : val p2 = a + b + 1 := by rw [vp2, vp, vA.out, vB.out, v1.out]
  have e0 : Hid (wordAt p2 0 = s) := Lib.hid (by rw [wordAt_0 p2 gp2, VP]; have := HCN.out; omega)
  have e4 : Hid (wordAt p2 4 = o) := Lib.hid (by rw [wordAt_4 p2 gp2, VP]; have := HCN.out; omega)
  have hb4 : Below w.heap.size w w4 := (((b1.trans (b2.mono b1.size)).trans (b3.mono (Nat.le_trans b1.size b2.size))).trans (b3a.mono (Nat.le_trans (Nat.le_trans b1.size b2.size) b3.size))).trans (b4.mono (Nat.le_trans (Nat.le_trans (Nat.le_trans b1.size b2.size) b3.size) b3a.size))
  clear hs1 hs2 hs3 VP vp vp2 lp lp2 hone o3' b3a b4 b3 b2 b1 o1 o2 o3
  go_wp2_with (fail)
  refine (word_is _ p2 0 s _ o4.rd gp2 e0 (by omega) (by decide)).mono ?_
  rintro e w' ⟨rfl, rfl⟩
  go_wp2_with (fail)
  refine (word_is _ p2 4 o _ o4.rd gp2 e4 (by omega) (by decide)).mono ?_
  rintro e w' ⟨rfl, rfl⟩
  clear o4 gp2 e0 e4 lp2' lp' gp
  go_wp2_with (fail)
  refine (sub_any s b 1 _ (Lib.hid hs.out.1) hb).mono ?_
  rintro e w' ⟨d, u, rfl, hd, rfl⟩
  obtain rfl : d = a := by have := hs.out; have := hd.out; have := HCN.out; have := HC1.out; have := ha.out; omega
  obtain rfl : u = o := by have := hs.out; have := hd.out; have := HCN.out; have := HC1.out; have := ha.out; omega
  go_wp2_with (fail)
  refine (sub_any d b c _ ha hb).mono ?_
  rintro e w' ⟨x, low, rfl, hx, rfl⟩
  go_wp2_with (fail)
  refine (DA _).mono ?_
  rintro e w5 ⟨v1', ds1, rfl, rfl, o1, b1⟩
  go_wp2_with (fail)
  refine (DB _).mono ?_
  rintro e w6 ⟨v2', ds2, rfl, rfl, o2, b2⟩
  have hone : Rd (w6.alloc (.cells #[.int .u64 1] 22)) (.slice (some ⟨w6.heap.size, 0, none⟩) 1 1) [1] := (ownsU w6 [1] (by decide)).rd
  have b2a := (Below.refl w6.heap.size w6).alloc (Nat.le_refl _) (.cells #[.int .u64 1] 22)
  have o2' := o2.rd.later b2a (Nat.le_refl _)
  go_wp2_with (fail)
  refine (plus_any _ _ ds2 [1] _ o2' hone gB g1 (by rw [LB.out]; decide) (by decide)).mono ?_
  rintro e w7 ⟨v4', p3, rfl, ⟨gp3, vp3, lp3⟩, o4, b4⟩
  have lp3' : p3.length ≤ 1099511627770 := by rw [LB.out] at lp3; simp at lp3; omega
  have o1' : Rd w7 _ ds1 := (o1.rd.later b2 (Nat.le_refl _)).later ((b2a.mono (Nat.le_refl _)).trans (b4.mono b2a.size)) (Nat.le_refl _)
  have hb7 : Below w.heap.size w w7 := hb4.trans (((b1.trans (b2.mono b1.size)).trans ((b2a.trans (b4.mono b2a.size)).mono (Nat.le_trans b1.size b2.size))).mono hb4.size)
  have VL : val p3 = b + 1 := by rw [vp3, vB.out, v1.out]
  by_cases hl : d < b + 1
  · have HLess : lessB ds1 p3 = true := by unfold lessB; rw [vA.out, VL]; exact decide_eq_true hl
    have F := less_any _ _ ds1 p3 w7 o1' o4.rd gA gp3 (by rw [LA.out]; decide) (by omega)
    rw [HLess] at F
    obtain rfl : low = 1 := by have := hx.out; have := HCN.out; omega
    have HX := Lib.hid hl
    clear hl HLess VL vp3 lp3 hone o2' b2a b4 b2 b1 o1 o2 o1' hb4 o4
    go_wp2_with (fail)
    refine F.mono ?_
    rintro e w' ⟨rfl, rfl⟩
    go_wp2_with (fail)
    refine (add_any x b 1 _ (Lib.hid hx.out.1) hb).mono ?_
    rintro e w' ⟨y, bk, rfl, hy, rfl⟩
    obtain rfl : y = d := by have := hx.out; have := hy.out; have := HCN.out; have := HC1.out; have := ha.out; omega
    obtain rfl : bk = 1 := by have := hx.out; have := hy.out; have := HCN.out; have := HC1.out; have := ha.out; omega
    go_wp2_with (fail)
    refine (awake_any _).mono ?_
    rintro e w' ⟨rfl, rfl⟩
    go_wp2_with (fail)
    go_ret
    exact ⟨rfl, hb7⟩
  · have HLess : lessB ds1 p3 = false := by unfold lessB; rw [vA.out, VL]; exact decide_eq_false hl
    have F := less_any _ _ ds1 p3 w7 o1' o4.rd gA gp3 (by rw [LA.out]; decide) (by omega)
    rw [HLess] at F
    obtain rfl : low = 0 := by have := hx.out; have := HCN.out; omega
    have HX := Lib.hid hl
    clear hl HLess VL vp3 lp3 hone o2' b2a b4 b2 b1 o1 o2 o1' hb4 o4
    go_wp2_with (fail)
    refine F.mono ?_
    rintro e w' ⟨rfl, rfl⟩
    go_wp2_with (fail)
    refine (add_any x b 1 _ (Lib.hid hx.out.1) hb).mono ?_
    rintro e w' ⟨y, bk, rfl, hy, rfl⟩
    obtain rfl : y = d := by have := hx.out; have := hy.out; have := HCN.out; have := HC1.out; have := ha.out; omega
    obtain rfl : bk = 0 := by have := hx.out; have := hy.out; have := HCN.out; have := HC1.out; have := ha.out; omega
    go_wp2_with (fail)
    refine (awake_any _).mono ?_
    rintro e w' ⟨rfl, rfl⟩
    go_wp2_with (fail)
    go_ret
    exact ⟨rfl, hb7⟩
end Go.Proofs.Ytnldijpfgjgeoaa.DigW
