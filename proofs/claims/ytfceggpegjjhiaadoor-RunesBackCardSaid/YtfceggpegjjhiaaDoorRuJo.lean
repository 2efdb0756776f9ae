/- The law RunesJoins as a walk. -/
import Derived.Test.YtfceggpegjjhiaaDoorRuS
import Derived.Test.YtfceggpegjjhiaaDoorRuY
import Derived.Test.YtfceggpegjjhiaaDoorRuX
namespace Go.Proofs.YtfceggpegjjhiaaDoor
open Go.RowKit

theorem joins_pure (a b : List UInt8) (ha : chkE a = 0) (hb : chkE b = 0) (hl : a.length + b.length ≤ 8000) :
    chkE (a ++ b) = 0 ∧ runV (a ++ b) = runV a ++ runV b ∧ (staV (a ++ b)).take (staV a).length = staV a ∧ (staV a).length ≤ (staV (a ++ b)).length := by
  have hab := chk_app a b ha hb hl
  obtain ⟨h1, _⟩ := rns_app a b ((chkE_ok a).1 ha).2
  have hst : ∃ r, staV (a ++ b) = staV a ++ r := by
    unfold staV sts
    rw [if_pos hab, if_pos ha, h1]
    exact ⟨_, by rw [List.map_append, ← List.cons_append, List.map_append]⟩
  obtain ⟨r, hr⟩ := hst
  refine ⟨hab, ?_, by rw [hr]; simp, by rw [hr]; simp⟩
  unfold runV
  rw [if_pos hab, if_pos ha, if_pos hb, h1]
  simp [Function.comp_def]
theorem ownsRow_form' {t : TypeId} {w : World} {base : Nat} {v : Value} {l : List Int} (h : Ins t w base v l) (hl : 0 < l.length) : ∃ g c, v = .slice (some ⟨g, 0, none⟩) l.length c := by
  rcases h.2 with ⟨rfl, h0⟩ | ⟨g, cap, cur, rfl, _⟩
  · omega
  · exact ⟨g, cap, rfl⟩
theorem RdI.take {B : Nat} {w : World} {a : Option Addr} {n cap : Nat} {zs : List Int} (h : RdI B w (.slice a n cap) zs) (k : Nat) (hk : k ≤ zs.length) : RdI B w (.slice a k cap) (zs.take k) := by
  obtain ⟨a', cap', e, hc, hh⟩ := h
  cases e
  have hl : (zs.take k).length = k := by simp; omega
  refine ⟨a, cap, by rw [hl], by rw [hl]; omega, fun hne => ?_⟩
  obtain ⟨b, off, ha, hb, hcell⟩ := hh (by intro e; subst e; simp at hne)
  refine ⟨b, off, ha, hb, fun j hj => ?_⟩
  rw [hl] at hj
  rw [hcell j (by omega)]; simp

set_option maxRecDepth 100000 in
set_option maxHeartbeats 8000000 in
theorem joins_main (va vb : Value) (a b : List UInt8) (w : World) (hw : Lay w) (hva : RdB w.heap.size w va a) (hvb : RdB w.heap.size w vb b) (hna : NilC va) (hnb : NilC vb) (ha : a.length ≤ 200) (hb : b.length ≤ 200) :
    Calls Tryd.prog 9 #[va, vb] w fun e w' => e = .returned (.bool true) ∧ Below w.heap.size w w' := by
  have hva0 := hva
  have hvb0 := hvb
  obtain ⟨aa, ca, rfl, hca, hca2, hcella⟩ := hva
  obtain ⟨ab, cb, rfl, hcb, hcb2, hcellb⟩ := hvb
  clear hcella hcellb
  have g1 : ¬ (200 : Int) < (a.length : Int) := by omega
  have g2 : ¬ (200 : Int) < (b.length : Int) := by omega
  obtain ⟨ea, hea⟩ : ∃ e, chkE a = e := ⟨_, rfl⟩
  obtain ⟨eb, heb⟩ : ∃ e, chkE b = e := ⟨_, rfl⟩
  obtain ⟨ec, hec⟩ : ∃ e, chkE (a ++ b) = e := ⟨_, rfl⟩
  have HEa := Lib.hid hea
  have HEb := Lib.hid heb
  have HEc := Lib.hid hec
  clear hea heb hec
  go_enter Tryd.func9, Tryd.ntmps9
  go_wp2_with fail
  refine (runes_any _ a w hw hva0).mono ?_
  rintro e w1 ⟨vx, rfl, hX, hb1⟩
  rw [HEa.out]
  have hs1 := hb1.size
  have hL1 := hw.next hb1
  have hva1 := hva0.next hb1
  have hvb1 := hvb0.next hb1
  go_wp2_with fail
  refine (runes_any _ b w1 hL1 hvb1).mono ?_
  rintro e w2 ⟨vy, rfl, hY, hb2⟩
  rw [HEb.out]
  have hs2 := hb2.size
  have hL2 := hL1.next hb2
  have hX2 : Ins 2 w2 w.heap.size vx (runV a) := own_below hX hb2
  have hva2 := hva1.next hb2
  have hvb2 := hvb1.next hb2
  have H2 := Lib.hid (hb1.trans (hb2.mono hs1))
  clear hb1 hb2 hX hva1 hvb1 hL1
  have hz0 : Bys (w2.alloc (.cells #[] 5)) w2.heap.size (.slice (some ⟨w2.heap.size, 0, none⟩) 0 0) [] := World.ownsRow_lit w2 #[] 0 (Nat.le_refl _) (by decide) rfl
  have hB0 := (Below.refl w2.heap.size w2).alloc (Nat.le_refl _) (.cells #[] 5)
  have hva3 := hva2.next hB0
  go_wp2_with (first
    | (at_builtin; refine wpList_append_bs (by simp [Region.wanted]) _ _ rfl w2.heap.size _ _ rfl hz0 _ _ rfl _ hva3 hna ?c1 ?c2 ?_; rotate_left 2; intro v3 w3 hv3 hg3; have hb3 := hB0.grown hg3 (by simp) (fun j e => (hz0.lt j e).1); have hvb3 := hvb2.next hb3; obtain ⟨a3, c3, rfl⟩ := bys_len hv3; have hs3 := hb3.size)
    | (at_builtin; refine wpList_append_bs (by simp [Region.wanted]) _ _ rfl w2.heap.size _ _ rfl hv3 _ _ rfl _ hvb3 hnb ?c3 ?c4 ?_; rotate_left 2; intro v4 w4 hv4 hg4; have hb4 := hb3.grown hg4 (by omega) (fun j e => (hv3.lt j e).1); obtain ⟨a4, c4, rfl⟩ := bys_len hv4; have hs4 := hb4.size))
  case c1 => simp; omega
  case c2 => simp
  case c3 => simp; omega
  case c4 => omega
  have hrd : RdB w4.heap.size w4 (.slice a4 (a.length + b.length) c4) (a ++ b) := by have := hv4.rd; simpa using this
  have hL4 := hL2.next hb4
  refine (runes_any _ (a ++ b) w4 hL4 hrd).mono ?_
  rintro e w5 ⟨vz, rfl, hZ, hb5⟩
  rw [HEc.out]
  have hs5 := hb5.size
  have hL5 := hL4.next hb5
  have hrd5 := hrd.next hb5
  go_wp2_with fail
  refine (count_any _ (a ++ b) w5 hL5 hrd5).mono ?_
  rintro e w6 ⟨rfl, hb6⟩
  rw [HEc.out]
  have hs6 := hb6.size
  have hL6 := hL5.next hb6
  have h26 : Below w2.heap.size w2 w6 := (hb4.trans (hb5.mono hs4)).trans (hb6.mono (by omega))
  have H6 := Lib.hid (H2.out.trans (h26.mono H2.out.size))
  have hrd6 := hrd5.next hb6
  have hX6 : Ins 2 w6 w.heap.size vx (runV a) := own_below hX2 h26
  have hY6 : Ins 2 w6 w1.heap.size vy (runV b) := own_below hY h26
  have hZ6 : Ins 2 w6 w4.heap.size vz (runV (a ++ b)) := own_below hZ hb6
  have hva6 := hva2.next h26
  have hs06 := H6.out.size
  clear h26 hv4 hv3 hb3 hb4 hb5 hb6 hg3 hg4 hvb3 hva3 hB0 hz0 hX2 hY hZ hrd hrd5 hL2 hL4 hL5 hva2 hvb2
  by_cases hea : ea = 0
  · subst hea
    by_cases heb : eb = 0
    · subst heb
      obtain ⟨p1, p2, p3, p4⟩ := joins_pure a b HEa.out HEb.out (by omega)
      obtain rfl : ec = 0 := HEc.out.symm.trans p1
      have hlen : ((runV (a ++ b)).length : Int) = ((runV a).length : Int) + ((runV b).length : Int) := by rw [p2]; simp
      have nX := rns_len a
      have nY := rns_len b
      have lX : (runV a).length ≤ 200 := by unfold runV; split <;> simp; omega
      have lY : (runV b).length ≤ 200 := by unfold runV; split <;> simp; omega
      have lS : (staV a).length ≤ 201 := by unfold staV sts; split <;> simp; omega
      have pS : 0 < (staV a).length := by unfold staV sts; rw [if_pos HEa.out]; simp
      have lT : (staV (a ++ b)).length ≤ 401 := by have := rns_len (a ++ b); rw [List.length_append] at this; unfold staV sts; split <;> (simp; try omega)
      have hn1 : ((((runV (a ++ b)).length : Nat) : Int) != ((runV a).length : Int) + ((runV b).length : Int)) = false := by rw [hlen]; simp
      have HP := Lib.hid (And.intro p2 p3)
      have nlx := NilC.own hX6
      have nly := NilC.own hY6
      obtain ⟨ax, cx, rfl⟩ := own_len hX6
      obtain ⟨ay, cy, rfl⟩ := own_len hY6
      obtain ⟨az, cz, rfl⟩ := own_len hZ6
      clear nX nY p1 p2 p3 hlen
      go_wp2_with fail
      refine (starts_any _ a w6 hL6 hva6).mono ?_
      rintro e w7 ⟨vs, rfl, hS, hb7⟩
      rw [HEa.out]
      have hs7 := hb7.size
      have hL7 := hL6.next hb7
      go_wp2_with fail
      refine (starts_any _ (a ++ b) w7 hL7 (hrd6.next hb7)).mono ?_
      rintro e w8 ⟨vt, rfl, hT, hb8⟩
      rw [HEc.out]
      have hs8 := hb8.size
      have hL8 := hL7.next hb8
      have h68 : Below w6.heap.size w6 w8 := hb7.trans (hb8.mono hs7)
      have H8 := Lib.hid (H6.out.trans (h68.mono hs06))
      have hX8 := (hX6.rd).next h68
      have hY8 := (hY6.rd).next h68
      have hZ8 := (hZ6.rd).next h68
      have hS8 : Ins 3 w8 w6.heap.size vs (staV a) := own_below hS hb8
      obtain ⟨gs, cs, rfl⟩ := ownsRow_form' hS8 pS
      obtain ⟨gt, ct, rfl⟩ := ownsRow_form' hT (by omega)
      have hct : (staV (a ++ b)).length ≤ ct := by obtain ⟨_, _, e, h, _⟩ := hT.rd; cases e; exact h
      have hz8 : Ins 2 (w8.alloc (.cells #[] 2)) w8.heap.size (.slice (some ⟨w8.heap.size, 0, none⟩) 0 0) [] := World.ownsRow_lit w8 #[] 0 (Nat.le_refl _) (by decide) rfl
      have hB8 := (Below.refl w8.heap.size w8).alloc (Nat.le_refl _) (.cells #[] 2)
      have hX9 := hX8.next hB8
      go_wp2_with (first
        | (at_builtin; refine wpList_append_is (by first | rfl | simp [Region.wanted, yielded]) _ _ rfl w8.heap.size _ _ rfl hz8 _ _ rfl _ hX9 nlx ?d1 ?d2 ?_; rotate_left 2; intro v9 w9 hv9 hg9; have hb9 := hB8.grown hg9 (by simp) (fun j e => (hz8.lt j e).1); have hY9 := hY8.next hb9; obtain ⟨a9, c9, rfl⟩ := own_len hv9; have hs9 := hb9.size)
        | (at_builtin; refine wpList_append_is (by first | rfl | simp [Region.wanted, yielded]) _ _ rfl w8.heap.size _ _ rfl hv9 _ _ rfl _ hY9 nly ?d3 ?d4 ?_; rotate_left 2; intro v10 w10 hv10 hg10; have hb10 := hb9.grown hg10 (by omega) (fun j e => (hv9.lt j e).1); obtain ⟨a10, c10, rfl⟩ := own_len hv10; have hs10 := hb10.size))
      case d1 => simp; omega
      case d2 => simp
      case d3 => simp; omega
      case d4 => omega
      have hR10 : RdI w10.heap.size w10 (.slice a10 ((runV a).length + (runV b).length) c10) (runV a ++ runV b) := by have := hv10.rd; simpa using this
      have cS := same_any _ _ (runV (a ++ b)) (runV a ++ runV b) w10 (hZ8.next hb10) hR10 (by rw [HP.out.1]; simp; omega)
      rw [decide_eq_true HP.out.1] at cS
      refine cS.mono ?_
      rintro e w11 ⟨rfl, hb11⟩
      have h811 : Below w8.heap.size w8 w11 := hb10.trans (hb11.mono hs10)
      have hs811 := h811.size
      have H11 := Lib.hid (H8.out.trans (h811.mono H8.out.size))
      have hS11 := (hS8.rd).next h811
      have hT11 := ((hT.rd).next h811).take (staV a).length p4
      have hL11 := hL8.next h811
      clear cS hb11 hb10 hb9 hB8 hz8 hv9 hv10 hg9 hg10 hX8 hY8 hX9 hY9 hS8 hT hZ8 hR10 hL8 h811 hb8 hb7 h68 hL6 hL7 hS
      go_wp2_with fail
      have hq : (staV (a ++ b)).take (staV a).length = staV a := HP.out.2
      rw [hq] at hT11
      have cI := sameInts_any _ _ (staV a) (staV a) w11 hT11 hS11 (by omega)
      rw [decide_eq_true rfl] at cI
      refine cI.mono ?_
      rintro e w12 ⟨rfl, hb12⟩
      have hs12 := hb12.size
      have H12 := Lib.hid (H11.out.trans (hb12.mono H11.out.size))
      have hL12 := hL11.next hb12
      clear cI hb12 hT11 hS11 hL11 hq
      go_wp2_with fail
      refine (awake_any w12 hL12).mono ?_
      rintro e w13 ⟨rfl, hb13⟩
      have H13 := Lib.hid (H12.out.trans (hb13.mono H12.out.size))
      clear hb13 hL12
      go_wp2_with fail
      go_ret
      exact ⟨rfl, H13.out⟩
    · have hne : ((eb : Int) != 0) = true := by rw [bne_iff_ne]; omega
      go_wp2_with fail
      refine (awake_any w6 hL6).mono ?_
      rintro e w7 ⟨rfl, hb7⟩
      have H7 := Lib.hid (H6.out.trans (hb7.mono hs06))
      clear hb7
      go_wp2_with fail
      go_ret
      exact ⟨rfl, H7.out⟩
  · have hne : ((ea : Int) != 0) = true := by rw [bne_iff_ne]; omega
    have hq0 : ((ea : Int) == 0) = false := by rw [beq_eq_false_iff_ne]; omega
    by_cases h370 : ea = 370
    · subst h370
      go_wp2_with fail
      refine (awake_any w6 hL6).mono ?_
      rintro e w7 ⟨rfl, hb7⟩
      have H7 := Lib.hid (H6.out.trans (hb7.mono hs06))
      clear hb7
      go_wp2_with fail
      go_ret
      exact ⟨rfl, H7.out⟩
    · have hq1 : ((ea : Int) == 370) = false := by rw [beq_eq_false_iff_ne]; omega
      obtain rfl : ec = ea := by
        rw [← HEc.out, ← HEa.out]
        exact chk_bad a b (by rw [HEa.out]; exact hea) (by rw [HEa.out]; exact h370) (by omega)
      go_wp2_with fail
      refine (awake_any w6 hL6).mono ?_
      rintro e w7 ⟨rfl, hb7⟩
      have H7 := Lib.hid (H6.out.trans (hb7.mono hs06))
      clear hb7
      go_wp2_with fail
      go_ret
      exact ⟨rfl, H7.out⟩

set_option maxHeartbeats 4000000 in
theorem lawJoins_any (va vb : Value) (a b : List UInt8) (w : World) (hw : Lay w) (hva : RdB w.heap.size w va a) (hvb : RdB w.heap.size w vb b) (hna : NilC va) (hnb : NilC vb) :
    Calls Tryd.prog 9 #[va, vb] w fun e w' => e = .returned (.bool true) ∧ Below w.heap.size w w' := by
  by_cases h : a.length ≤ 200 ∧ b.length ≤ 200
  · exact joins_main va vb a b w hw hva hvb hna hnb h.1 h.2
  · obtain ⟨aa, ca, rfl, hca, hca2, hcella⟩ := hva
    obtain ⟨ab, cb, rfl, hcb, hcb2, hcellb⟩ := hvb
    clear hcella hcellb
    have HW := Lib.hid (awake_any w hw)
    rcases (show 200 < a.length ∨ (¬ 200 < a.length ∧ 200 < b.length) by omega) with h1 | ⟨h1, h2⟩
    · have d1 : decide ((200 : Int) < (a.length : Int)) = true := decide_eq_true (by omega)
      clear h
      go_enter Tryd.func9, Tryd.ntmps9
      go_wp2_with (go_at_call 11; refine HW.out.mono ?_; rintro e w7 ⟨rfl, hb7⟩)
      go_ret
      exact ⟨rfl, hb7⟩
    · have d1 : decide ((200 : Int) < (a.length : Int)) = false := decide_eq_false (by omega)
      have d2 : decide ((200 : Int) < (b.length : Int)) = true := decide_eq_true (by omega)
      clear h
      go_enter Tryd.func9, Tryd.ntmps9
      go_wp2_with (go_at_call 11; refine HW.out.mono ?_; rintro e w7 ⟨rfl, hb7⟩)
      go_ret
      exact ⟨rfl, hb7⟩
end Go.Proofs.YtfceggpegjjhiaaDoor
