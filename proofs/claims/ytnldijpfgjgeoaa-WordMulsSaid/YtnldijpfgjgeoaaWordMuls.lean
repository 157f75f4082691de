/-
  word's Div, and the walk of the law WordMuls.
-/
import Derived.Test.YtnldijpfgjgeoaaDiv
import Derived.Test.YtnldijpfgjgeoaaWordLaws
namespace Go.Proofs.Ytnldijpfgjgeoaa.DigW
open Go.RowKit
open DigM
theorem div_no (a b by' : Nat) (w : World) (h : by' ≤ a) :
    Calls Try.prog 17 #[.int .u64 a, .int .u64 b, .int .u64 by'] w (fun e w' => e = .returned (.tuple #[.int .u64 0, .int .u64 0, .bool false]) ∧ w = w') := by
  go_enter Try.func17, Try.ntmps17
  go_wp2_with (fail)
  go_ret3
  exact ⟨rfl, rfl⟩
def DivOf (a b y : Nat) (w : World) (e : Ending) (w' : World) : Prop :=
  ∃ q r : Nat, e = .returned (.tuple #[.int .u64 q, .int .u64 r, .bool true]) ∧ Hid (q < 18446744073709551616 ∧ r < y ∧ q * y + r = a * 18446744073709551616 + b) ∧ ∃ n, w' = w.drewN n
theorem div64_any (hi lo y : Nat) (w : World) (hlt : hi < y) (hlo : Hid (lo < 18446744073709551616)) (hy' : Hid (y < 18446744073709551616)) :
    Calls Try.prog 25 #[.int .u64 hi, .int .u64 lo, .int .u64 y] w (QuotOf hi lo y w) := by
  by_cases h0 : hi = 0
  · subst h0; exact div64_low lo y w hlt hlo hy'
  · exact div64_high hi lo y w (by omega) hlt hlo hy'
theorem div_yes (a b y : Nat) (w : World) (h : a < y) (hb : Hid (b < 18446744073709551616)) (hy : Hid (y < 18446744073709551616)) :
    Calls Try.prog 17 #[.int .u64 a, .int .u64 b, .int .u64 y] w (DivOf a b y w) := by
  have hI : (a : Int) < y := by omega
  go_enter Try.func17, Try.ntmps17
  go_wp2_with (fail)
  refine (div64_any a b y w h hb hy).mono ?_
  rintro e w' ⟨q, r, rfl, hqr, n, rfl⟩
  go_wp2_with (fail)
  go_ret3
  exact ⟨q, r, rfl, hqr, n, rfl⟩
theorem Own.later {B : Nat} {w w' : World} {v : Value} {ds : List Nat} (h : Own B w v ds) (hb : Below w.heap.size w w') : Own B w' v ds := by
  have hlt := h.lt
  obtain ⟨h1, h2 | ⟨g, cap, cur, e, hB, hg, h3⟩⟩ := h
  · exact ⟨h1, Or.inl h2⟩
  · refine ⟨h1, .inr ⟨g, cap, cur, e, hB, ?_, h3⟩⟩
    have := (hlt g (by rw [e]; rfl)).2
    rw [hb.block g this]; exact hg
/-- a row of digits, not empty, with its address -/
theorem Own.addr {B : Nat} {w : World} {v : Value} {ds : List Nat} (h : Own B w v ds) (hp : 0 < ds.length) : ∃ g o cap, v = .slice (some ⟨g, o, none⟩) ds.length cap ∧ ∀ (j : Nat) u, (ds.map (fun d => Value.int .u64 (d : Nat)))[j]? = some u → w.cell? ((⟨g, o, none⟩ : Addr).add j) = some u := by
  obtain ⟨a, cap, rfl, _, hc⟩ := h.cells'
  obtain ⟨g, o, rfl, _, _⟩ := hc 0 hp
  refine ⟨g, o, cap, rfl, fun j u hu => ?_⟩
  rw [List.getElem?_map] at hu
  by_cases hj : j < ds.length
  · rw [List.getElem?_eq_getElem hj] at hu
    simp only [Option.map_some, Option.some.injEq] at hu
    obtain ⟨g', o', e, _, hcell⟩ := hc j hj
    simp only [Option.some.injEq, Addr.mk.injEq, and_true] at e
    obtain ⟨rfl, rfl⟩ := e
    rw [dg_lt hj] at hcell
    rw [← hu, ← hcell]
    cases j <;> rfl
  · rw [List.getElem?_eq_none (by omega)] at hu; simp at hu
theorem Own.two {B : Nat} {w : World} {v : Value} {ds es : List Nat} (h : w.ownsRow B 22 1 v (ds.length + es.length) (ds.map (fun d => Value.int .u64 (d : Nat)) ++ es.map (fun d => Value.int .u64 (d : Nat)))) : Own B w v (ds ++ es) := by
  unfold Own; rw [List.length_append, List.map_append]; exact h

set_option maxHeartbeats 3200000 in
theorem wordMuls_0 (a b y : Nat) (w : World) (ha : Hid (a < 18446744073709551616)) (hb : Hid (b < 18446744073709551616)) (hy : Hid (y < 18446744073709551616)) (hc : y ≤ a) :
    Calls Try.prog 4 #[.int .u64 a, .int .u64 b, .int .u64 y] w (TrueAt w) := by
  have gA := digits_good a ha.out
  have gB := digits_good b hb.out
  have gY := digits_good y hy.out
  have LA : Hid ((digits a).length = 4) := Lib.hid rfl
  have LB : Hid ((digits b).length = 4) := Lib.hid rfl
  have LY : Hid ((digits y).length = 4) := Lib.hid rfl
  have vA := Lib.hid (digits_val a)
  have vB := Lib.hid (digits_val b)
  have vY := Lib.hid (digits_val y)
  have DA := fun w => digits_any a w ha.out
  have DB := fun w => digits_any b w hb.out
  have DY := fun w => digits_any y w hy.out
  have HC := Lib.hid hc
  clear hc
  generalize digits a = da at *
  generalize digits b = db at *
  generalize digits y = dy at *
  go_enter Try.func4, Try.ntmps4
  go_wp2_with (fail)
  refine (mul_any a b w ha hb).mono ?_
  rintro e w' ⟨h, l, rfl, hh, rfl⟩
  go_wp2_with (fail)
  refine (DA _).mono ?_
  rintro e w1 ⟨v1', ds1, rfl, rfl, o1, b1⟩
  go_wp2_with (fail)
  refine (DB _).mono ?_
  rintro e w2 ⟨v2', ds2, rfl, rfl, o2, b2⟩
  go_wp2_with (fail)
  refine (times_any _ _ ds1 ds2 _ (o1.rd.later b2 (Nat.le_refl _)) o2.rd gA gB (by rw [LA.out]; decide) (by rw [LB.out]; decide)).mono ?_
  rintro e w3 ⟨v3', p1, rfl, ⟨gp, vp, lp⟩, o3, b3⟩
  have lp' : p1.length ≤ 1099511627770 := by rw [lp, LA.out, LB.out]; decide
  have VP : val p1 = a * b := by rw [vp, vA.out, vB.out]
  have e0 : Hid (wordAt p1 0 = l) := Lib.hid (by rw [wordAt_0 p1 gp, VP]; have := hh.out; omega)
  have e4 : Hid (wordAt p1 4 = h) := Lib.hid (by rw [wordAt_4 p1 gp, VP]; have := hh.out; omega)
  have hb3 : Below w.heap.size w w3 := (b1.trans (b2.mono b1.size)).trans (b3.mono (Nat.le_trans b1.size b2.size))
  clear lp VP vp b1 b2 b3 o1 o2
  go_wp2_with (fail)
  refine (word_is _ p1 4 h _ o3.rd gp e4 (by omega) (by decide)).mono ?_
  rintro e w' ⟨rfl, rfl⟩
  go_wp2_with (fail)
  refine (word_is _ p1 0 l _ o3.rd gp e0 (by omega) (by decide)).mono ?_
  rintro e w' ⟨rfl, rfl⟩
  clear e0 e4 gp lp' o3
  go_wp2_with (fail)
  refine (wlen_any a _ ha).mono ?_
  rintro e w' ⟨k, rfl, hk, hk64, rfl⟩
  go_wp2_with (fail)
  refine (DA _).mono ?_
  rintro e w4 ⟨v4', ds4, rfl, rfl, o4, b4⟩
  go_wp2_with (fail)
  refine (len_any _ ds4 _ o4.rd gA (by rw [LA.out]; decide)).mono ?_
  rintro e w' ⟨k', rfl, hk', _, n4, rfl⟩
  obtain rfl : k' = k := by rw [vA.out] at hk'; exact hk'.uniq hk.out
  have hb4 : Below w.heap.size w (w4.drewN n4) := below_drewN (hb3.trans (b4.mono hb3.size)) n4
  clear o4 b4 hb3 hk' hk hk64
  generalize w4.drewN n4 = w5 at *
  have hcI : (y : Int) ≤ a := by have := HC.out; omega
  go_wp2_with (fail)
  refine (div_no a b y _ HC.out).mono ?_
  rintro e w' ⟨rfl, rfl⟩
  go_wp2_with (fail)
  refine (awake_any _).mono ?_
  rintro e w' ⟨rfl, rfl⟩
  go_wp2_with (fail)
  go_ret
  exact ⟨rfl, hb4⟩

set_option maxHeartbeats 3200000 in
theorem wordMuls_1 (a b y : Nat) (w : World) (ha : Hid (a < 18446744073709551616)) (hb : Hid (b < 18446744073709551616)) (hy : Hid (y < 18446744073709551616)) (hc : a < y) :
    Calls Try.prog 4 #[.int .u64 a, .int .u64 b, .int .u64 y] w (TrueAt w) := by
  have gA := digits_good a ha.out
  have gB := digits_good b hb.out
  have gY := digits_good y hy.out
  have LA : Hid ((digits a).length = 4) := Lib.hid rfl
  have LB : Hid ((digits b).length = 4) := Lib.hid rfl
  have LY : Hid ((digits y).length = 4) := Lib.hid rfl
  have vA := Lib.hid (digits_val a)
  have vB := Lib.hid (digits_val b)
  have vY := Lib.hid (digits_val y)
  have DA := fun w => digits_any a w ha.out
  have DB := fun w => digits_any b w hb.out
  have DY := fun w => digits_any y w hy.out
  have HC := Lib.hid hc
  clear hc
  generalize digits a = da at *
  generalize digits b = db at *
  generalize digits y = dy at *
  go_enter Try.func4, Try.ntmps4
  go_wp2_with (fail)
  refine (mul_any a b w ha hb).mono ?_
  rintro e w' ⟨h, l, rfl, hh, rfl⟩
  go_wp2_with (fail)
  refine (DA _).mono ?_
  rintro e w1 ⟨v1', ds1, rfl, rfl, o1, b1⟩
  go_wp2_with (fail)
  refine (DB _).mono ?_
  rintro e w2 ⟨v2', ds2, rfl, rfl, o2, b2⟩
  go_wp2_with (fail)
  refine (times_any _ _ ds1 ds2 _ (o1.rd.later b2 (Nat.le_refl _)) o2.rd gA gB (by rw [LA.out]; decide) (by rw [LB.out]; decide)).mono ?_
  rintro e w3 ⟨v3', p1, rfl, ⟨gp, vp, lp⟩, o3, b3⟩
  have lp' : p1.length ≤ 1099511627770 := by rw [lp, LA.out, LB.out]; decide
  have VP : val p1 = a * b := by rw [vp, vA.out, vB.out]
  have e0 : Hid (wordAt p1 0 = l) := Lib.hid (by rw [wordAt_0 p1 gp, VP]; have := hh.out; omega)
  have e4 : Hid (wordAt p1 4 = h) := Lib.hid (by rw [wordAt_4 p1 gp, VP]; have := hh.out; omega)
  have hb3 : Below w.heap.size w w3 := (b1.trans (b2.mono b1.size)).trans (b3.mono (Nat.le_trans b1.size b2.size))
  clear lp VP vp b1 b2 b3 o1 o2
  go_wp2_with (fail)
  refine (word_is _ p1 4 h _ o3.rd gp e4 (by omega) (by decide)).mono ?_
  rintro e w' ⟨rfl, rfl⟩
  go_wp2_with (fail)
  refine (word_is _ p1 0 l _ o3.rd gp e0 (by omega) (by decide)).mono ?_
  rintro e w' ⟨rfl, rfl⟩
  clear e0 e4 gp lp' o3
  go_wp2_with (fail)
  refine (wlen_any a _ ha).mono ?_
  rintro e w' ⟨k, rfl, hk, hk64, rfl⟩
  go_wp2_with (fail)
  refine (DA _).mono ?_
  rintro e w4 ⟨v4', ds4, rfl, rfl, o4, b4⟩
  go_wp2_with (fail)
  refine (len_any _ ds4 _ o4.rd gA (by rw [LA.out]; decide)).mono ?_
  rintro e w' ⟨k', rfl, hk', _, n4, rfl⟩
  obtain rfl : k' = k := by rw [vA.out] at hk'; exact hk'.uniq hk.out
  have hb4 : Below w.heap.size w (w4.drewN n4) := below_drewN (hb3.trans (b4.mono hb3.size)) n4
  clear o4 b4 hb3 hk' hk hk64
  generalize w4.drewN n4 = w5 at *
  have hcI : (a : Int) < y := by have := HC.out; omega
  go_wp2_with (fail)
  refine (div_yes a b y _ HC.out hb hy).mono ?_
  rintro e w' ⟨q, r, rfl, hqr, n5, rfl⟩
  have hb5 := below_drewN hb4 n5
  clear hb4
  generalize w5.drewN n5 = w6 at *
  go_wp2_with (fail)
  refine (DB _).mono ?_
  rintro e w7 ⟨v7, ds7, rfl, rfl, o7, b7⟩
  go_wp2_with (fail)
  refine (DA _).mono ?_
  rintro e w8 ⟨v8, ds8, rfl, rfl, o8, b8⟩
  have o7' := o7.later b8
  obtain ⟨g8, of8, cap8, rfl, hc8⟩ := o8.addr (by rw [LA.out]; decide)
  obtain ⟨i0, hi, hz0, hz1, hz2⟩ := info_parts infoU
  have HB8 : w6.heap.size ≤ w8.heap.size := Nat.le_trans b7.size b8.size
  have L7 := LB.out
  have L8 := LA.out
  have H7 := Lib.hid L7
  have H8 := Lib.hid L8
  clear L7 L8 o7
  go_wp2_with (first
    | (at_builtin; refine wpList_append_own _ rfl _ _ 25 rfl w6.heap.size 22 i0 (.int .u64 0) 1 8 Try.underlying25 hi hz0 hz1 hz2 rfl (by decide) _ _ _ rfl o7' ⟨g8, of8, none⟩ ds8.length cap8 (ds8.map (fun d => Value.int .u64 (d : Nat))) rfl (by simp) hc8 ?c2 ?c3 ?c4 HB8 ?_))
  case c2 => intro u hu; obtain ⟨d, _, rfl⟩ := List.mem_map.1 hu; rfl
  case c3 => rw [H7.out, H8.out]; decide
  case c4 => rw [H7.out, H8.out]; decide
  intro v9 w9 hown9 hgrow _
  have o9 := Own.two hown9
  have b9 : Below w6.heap.size w6 w9 := Below.grown (b7.trans (b8.mono b7.size)) hgrow HB8 (fun j hj => (o7'.lt j hj).1)
  have hb9 := hb5.trans (b9.mono hb5.size)
  clear hown9 hgrow o7' o8 hc8 b8 b7 HB8 hb5
  have gS := gB.append gA
  have lS : (ds7 ++ ds8).length = 8 := by rw [List.length_append, H7.out, H8.out]
  have vS : val (ds7 ++ ds8) = b + 18446744073709551616 * a := by rw [val_append, H7.out, vA.out, vB.out]
  have HLS := Lib.hid lS
  have HVS := Lib.hid vS
  clear lS vS
  generalize ds7 ++ ds8 = dd at *
  go_wp2_with (fail)
  refine (DY _).mono ?_
  rintro e w10 ⟨v10, ds10, rfl, rfl, o10, b10⟩
  have hyp : 0 < val ds10 := by rw [vY.out]; have := HC.out; omega
  go_wp2_with (fail)
  refine (over_any _ _ dd ds10 _ (o9.rd.later b10 (Nat.le_refl _)) o10.rd gS gY hyp (by rw [HLS.out]; decide) (by rw [LY.out]; decide)).mono ?_
  rintro e w11 ⟨v11, v12, qs, rs, rfl, gq, gr, hvq, hvr, hlq, hlr, o11, o12, b11⟩
  have hb11 := hb9.trans ((b10.trans (b11.mono b10.size)).mono hb9.size)
  rw [HVS.out, vY.out] at hvq hvr
  have hq3 : y * q + r = b + 18446744073709551616 * a := by have := hqr.out; rw [Nat.mul_comm y q]; omega
  have hyq : 0 < y := by have := HC.out; omega
  have eq1 : (b + 18446744073709551616 * a) / y = q := by rw [← hq3, Nat.mul_add_div hyq, Nat.div_eq_of_lt hqr.out.2.1]; omega
  have er1 : (b + 18446744073709551616 * a) % y = r := by rw [← hq3, Nat.mul_add_mod, Nat.mod_eq_of_lt hqr.out.2.1]
  rw [eq1] at hvq
  rw [er1] at hvr
  have hrl : r < 18446744073709551616 := Nat.lt_trans hqr.out.2.1 hy.out
  have eQ : Hid (wordAt qs 0 = q) := Lib.hid (by rw [wordAt_0 qs gq, hvq]; have := hqr.out; omega)
  have eR : Hid (wordAt rs 0 = r) := Lib.hid (by rw [wordAt_0 rs gr, hvr]; omega)
  have HRL := Lib.hid hrl
  have lq : qs.length ≤ 1099511627770 := by rw [hlq, HLS.out]; decide
  have lr : rs.length ≤ 1099511627770 := by rw [HLS.out] at hlr; omega
  have rq := o11.rd
  have rr := o12.rd
  clear hvq hvr hq3 eq1 er1 hrl hlq hlr o11 o12 b11 b10 o10 o9 b9 hb9 hyp hyq
  go_wp2_with (fail)
  refine (mul_any q y _ (Lib.hid hqr.out.1) hy).mono ?_
  rintro e w' ⟨h2, l2, rfl, hh2, rfl⟩
  go_wp2_with (fail)
  refine (add_any l2 r 0 _ (Lib.hid hh2.out.2.1) HRL).mono ?_
  rintro e w' ⟨z, c, rfl, hz, rfl⟩
  have hz3 := hz.out.2.2
  have hm3 := hh2.out.2.2
  have hq3 := hqr.out.2.2
  rw [show cn 0 = 0 from rfl] at hz3
  have ez : z = b := by have := hz.out.1; have := hb.out; omega
  have es : h2 + c = a := by have := hz.out.1; have := hb.out; omega
  subst ez
  have hsB := bq_yes (show (h2 : Int) + c = a from by omega)
  have hsI : (h2 : Int) + c ≤ 18446744073709551615 := by have := ha.out; omega
  clear hz3 hm3 hq3 es
  go_wp2_with (fail)
  refine (word_is _ qs 0 q _ rq gq eQ (by omega) (by decide)).mono ?_
  rintro e w' ⟨rfl, rfl⟩
  go_wp2_with (fail)
  refine (word_is _ rs 0 r _ rr gr eR (by omega) (by decide)).mono ?_
  rintro e w' ⟨rfl, rfl⟩
  go_wp2_with (fail)
  refine (awake_any _).mono ?_
  rintro e w' ⟨rfl, rfl⟩
  go_wp2_with (fail)
  go_ret
  exact ⟨rfl, hb11⟩
theorem wordMuls_walk (a b y : Nat) (w : World) (ha : Hid (a < 18446744073709551616)) (hb : Hid (b < 18446744073709551616)) (hy : Hid (y < 18446744073709551616)) :
    Calls Try.prog 4 #[.int .u64 a, .int .u64 b, .int .u64 y] w (TrueAt w) := by
  by_cases h : y ≤ a
  · exact wordMuls_0 a b y w ha hb hy h
  · exact wordMuls_1 a b y w ha hb hy (by omega)
theorem wordAdds_walk (a b c : Nat) (w : World) (ha : Hid (a < 18446744073709551616)) (hb : Hid (b < 18446744073709551616)) :
    Calls Try.prog 3 #[.int .u64 a, .int .u64 b, .int .u64 c] w (TrueAt w) := by
  by_cases h : c = 0
  · exact wordAdds_0 a b c w ha hb h
  · exact wordAdds_1 a b c w ha hb (by omega)
end Go.Proofs.Ytnldijpfgjgeoaa.DigW
