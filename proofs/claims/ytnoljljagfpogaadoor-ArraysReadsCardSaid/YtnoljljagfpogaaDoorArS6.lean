/- The reference's Rows. -/
import Derived.Test.YtnoljljagfpogaaDoorArS5
namespace Go.Proofs.YtnoljljagfpogaaDoor
open Go.RowKit

set_option maxRecDepth 100000 in
set_option maxHeartbeats 4000000 in
theorem rrows6_any (A : Ar) (v : Value) (w : World) (hv : RdI w.heap.size w v A.z) (hn : Ru.NilC v) (hl : A.z.length ≤ 1000) :
    Calls Tryd.prog 28 #[A5 A.k A.r A.a A.b v] w fun e w' => ∃ u, e = .returned (.tuple #[u, .int .i64 (ck A)]) ∧ RdM w'.heap.size w' u (rwL A) ∧ Below w.heap.size w w' := by
  have HC := Lib.hid (fun W h2 => archeck_any A v W h2 (by omega))
  have HRw := Lib.hid (fun W => rrows_any A.r A.a A.b W)
  have HK := Lib.hid (KQr.new (A := A) hv)
  have x0 := HK.out.blk.c0; have x1 := HK.out.blk.c1; have x2 := HK.out.blk.c2; have x3 := HK.out.blk.c3; have x4 := HK.out.blk.c4
  have HN := Lib.hid hn
  obtain ⟨p, cap, rfl, hcap, hcap2, hcell⟩ := hv
  clear hn
  by_cases h1 : ck A = 0
  · obtain ⟨r0, r1, r2, r3, r4⟩ := rw_good (ck_good h1)
    rw [h1] at HC ⊢
    rw [r0, r1, sh_ok (ck_good h1).sh] at HRw
    have HLen := Lib.hid (rwL_len h1)
    have HSn := Lib.hid (fun j (hj : j < rwN A) => rwL_snoc h1 hj)
    have HCut := Lib.hid (fun (B : Nat) (w : World) (ad : Addr) (cap : Nat) hv (j : Nat) hj => rd_cut (A := A) h1 (B := B) (w := w) (ad := ad) (cap := cap) hv (j := j) hj)
    have HIl := Lib.hid (fun i (hi : i < rwN A) => rwI_len (ck_good h1) hi)
    clear h1 r0 r1 hcell
    go_enter Tryd.func28, Tryd.ntmps28
    go_wp2_with (first
      | (go_at_call 53; (with_reducible refine (HC.out _ (by with_unfolding_all exact HK.out.rdn)).mono ?_); rintro e w' ⟨rfl, hb⟩; have HK2 := Lib.hid (HK.out.next hb); clear HK hb x0 x1 x2 x3 x4; have HK := HK2; clear HK2; have x1 := HK.out.blk.c1; have x2 := HK.out.blk.c2; have x3 := HK.out.blk.c3; have x4 := HK.out.blk.c4)
      | (go_at_call 74; (with_reducible refine (HRw.out _).mono ?_); rintro e w' ⟨rfl, hb⟩; have HK2 := Lib.hid (HK.out.next hb); clear HK hb x1 x2 x3 x4; have HK := HK2; clear HK2))
    obtain ⟨n, hn⟩ : ∃ n, rwN A = n := ⟨_, rfl⟩
    obtain ⟨m, hm⟩ : ∃ m, rwM A = m := ⟨_, rfl⟩
    have HNM := Lib.hid (And.intro hn hm)
    rw [hn] at ⊢ HSn
    rw [hm] at ⊢
    rw [hn, hm] at r2
    rw [hn] at r3
    rw [hm] at r4
    rw [hn, hm] at HCut
    rw [hn] at HLen
    rw [hn, hm] at HIl
    clear hn hm
    go_loopg [8, 9] n (fun gk u i wr => ∃ j : Nat, j + gk = n ∧ i = .int .i64 j ∧ MM wr (w.heap.size + 1) u ((rwL A).take j) ∧ KQr w A (.slice p A.z.length cap) wr)
    case atStart => exact ⟨0, by omega, rfl, MM.nil _ _, HK.out⟩
    case round =>
      obtain ⟨j, hjg, rfl, hu, hk⟩ := hrel
      have HK2 := Lib.hid hk
      have HU := Lib.hid hu
      clear hk hu HK
      have x4 := HK2.out.blk.c4
      obtain ⟨ua, uc, rfl⟩ := HU.out.form
      have hlt : ((rwL A).take j).length = j := by rw [List.length_take, HLen.out]; omega
      rw [hlt] at HU ⊢
      cases gk with
      | zero =>
        have hjz : ¬ ((j : Int) < (n : Int)) := by omega
        have HR : Hid (MM wr (w.heap.size + 1) (.slice ua j uc) (rwL A)) := by
          have := HU.out
          rw [List.take_of_length_le (by rw [HLen.out]; omega)] at this
          exact this
        clear hlt
        go_wp2
        go_ret2
        exact ⟨_, rfl, HR.out.rd, HK2.out.bel⟩
      | succ g2 =>
        have hjz : (j : Int) < (n : Int) := by omega
        have hj : j < n := by omega
        have hle : (j + 1) * m ≤ n * m := Nat.mul_le_mul_right _ (by omega)
        have hw0 : IntKind.i64.wrap ((j : Int) + 1) = (j : Int) + 1 := by rw [IntKind.wrap_i64]; omega
        have hjm : (j + 1) * m = j * m + m := by rw [Nat.add_mul]; omega
        have hw1 : IntKind.i64.wrap ((j : Int) * (m : Int)) = ((j * m : Nat) : Int) := by rw [← Int.natCast_mul, IntKind.wrap_i64]; omega
        have hw2 : IntKind.i64.wrap (((j : Int) + 1) * (m : Int)) = (((j + 1) * m : Nat) : Int) := by rw [show ((j : Int) + 1) = ((j + 1 : Nat) : Int) by omega, ← Int.natCast_mul, IntKind.wrap_i64]; omega
        have hj0 : (0 : Int) ≤ (j : Int) * (m : Int) := by rw [← Int.natCast_mul]; omega
        have hb1 : (j : Int) * (m : Int) + (m : Int) ≤ (cap : Int) := by rw [← Int.natCast_mul]; omega
        clear hlt
        have x4 := (HK2.out.next (bel1 wr (.cells #[] 2))).blk.c4
        by_cases hm0 : m = 0
        · subst hm0
          have HZ : Hid (rwI A j = []) := List.length_eq_zero_iff.1 (HIl.out j hj)
          have HA : Hid (RdI wr.heap.size (wr.alloc (.cells #[] 2)) (.slice p 0 cap) (rwI A j)) := by
            unfold Hid
            rw [HZ.out]
            exact ⟨p, cap, rfl, Nat.zero_le _, hcap2, fun h => absurd rfl h⟩
          have HNa : Hid (Ru.NilC (.slice p 0 cap)) := by
            intro n c e
            cases e
            exact HN.out _ _ rfl
          have hw3 : IntKind.i64.wrap 0 = 0 := by rw [IntKind.wrap_i64]; omega
          have HW1 := Lib.hid (bel1 wr (.cells #[] 2))
          have HU1 := Lib.hid (HU.out.next HW1.out)
          have HK3 := Lib.hid (HK2.out.next HW1.out)
          have HV2 : Hid (Ru.Ins 2 (wr.alloc (.cells #[] 2)) (w.heap.size + 1) (.slice (some ⟨wr.heap.size, 0, none⟩) 0 0) (rwI A j)) := by
            unfold Hid
            rw [HZ.out]
            exact Ru.own_mono (ins_lit wr) HK2.out.sz
          have HCN : Hid (((wr.alloc (.cells #[] 2)).alloc (.cells #[.slice (some ⟨wr.heap.size, 0, none⟩) 0 0] 22)).cell? ⟨wr.heap.size + 1, 0, none⟩ = some (.slice (some ⟨wr.heap.size, 0, none⟩) 0 0)) := by
            have h := cell_new (wr.alloc (.cells #[] 2)) (.slice (some ⟨wr.heap.size, 0, none⟩) 0 0) 22
            have e : (wr.alloc (.cells #[] 2)).heap.size = wr.heap.size + 1 := by simp
            rw [e] at h
            exact h
          clear hw1 hw2 hjm hle hb1 hj0 HCut r2
          have HU3 := Lib.hid (HU1.out.next (bel1 _ (.cells #[.slice (some ⟨wr.heap.size, 0, none⟩) 0 0] 22)))
          have HV3 := Lib.hid (ins_next HV2.out (bel1 _ (.cells #[.slice (some ⟨wr.heap.size, 0, none⟩) 0 0] 22)))
          have hlt2 : ((rwL A).take j).length ≤ 1000 := by rw [List.length_take, HLen.out]; omega
          rcases p with _ | ⟨b, off, sp⟩
          · have hcap0 : cap = 0 := HN.out _ _ rfl
            subst hcap0
            clear hcap hcap2
            go_wp2_with (at_builtin; refine Ru.wpList_met (by simp [Region.wanted]) fun K hK => wp_append_row (w := (wr.alloc (.cells #[] 2)).alloc (.cells #[.slice (some ⟨wr.heap.size, 0, none⟩) 0 0] 22)) _ _ rfl (w.heap.size + 1) (.slice ua j uc) ((rwL A).take j) rfl HU3.out (wr.heap.size + 1) rfl (.slice (some ⟨wr.heap.size, 0, none⟩) 0 0) HCN.out (rwI A j) HV3.out hlt2 (by have := HK3.out.sz; simp at this ⊢; omega) ?h6)
            case h6 =>
              intro u2 w2 hu2 hb2
              have HU2 := Lib.hid hu2
              have HB2 := Lib.hid hb2
              clear hu2 hb2
              refine hK _ _ ?_
              go_wp2
              go_roundg g2
              case measure => omega
              exact ⟨j + 1, by omega, by go_num, by rw [HSn.out j hj]; exact HU2.out, (HK3.out.next (bel1 _ _)).far HB2.out⟩
          · by_cases hc0 : cap = 0
            · subst hc0
              clear hcap hcap2
              go_wp2_with (at_builtin; refine Ru.wpList_met (by simp [Region.wanted]) fun K hK => wp_append_row (w := (wr.alloc (.cells #[] 2)).alloc (.cells #[.slice (some ⟨wr.heap.size, 0, none⟩) 0 0] 22)) _ _ rfl (w.heap.size + 1) (.slice ua j uc) ((rwL A).take j) rfl HU3.out (wr.heap.size + 1) rfl (.slice (some ⟨wr.heap.size, 0, none⟩) 0 0) HCN.out (rwI A j) HV3.out hlt2 (by have := HK3.out.sz; simp at this ⊢; omega) ?h6)
              case h6 =>
                intro u2 w2 hu2 hb2
                have HU2 := Lib.hid hu2
                have HB2 := Lib.hid hb2
                clear hu2 hb2
                refine hK _ _ ?_
                go_wp2
                go_roundg g2
                case measure => omega
                exact ⟨j + 1, by omega, by go_num, by rw [HSn.out j hj]; exact HU2.out, (HK3.out.next (bel1 _ _)).far HB2.out⟩
            · have hc1 : 0 < cap := by omega
              clear hcap
              go_wp2_with (at_builtin; refine Ru.wpList_met (by simp [Region.wanted]) fun K hK => wp_append_row (w := (wr.alloc (.cells #[] 2)).alloc (.cells #[.slice (some ⟨wr.heap.size, 0, none⟩) 0 0] 22)) _ _ rfl (w.heap.size + 1) (.slice ua j uc) ((rwL A).take j) rfl HU3.out (wr.heap.size + 1) rfl (.slice (some ⟨wr.heap.size, 0, none⟩) 0 0) HCN.out (rwI A j) HV3.out hlt2 (by have := HK3.out.sz; simp at this ⊢; omega) ?h6)
              case h6 =>
                intro u2 w2 hu2 hb2
                have HU2 := Lib.hid hu2
                have HB2 := Lib.hid hb2
                clear hu2 hb2
                refine hK _ _ ?_
                go_wp2
                go_roundg g2
                case measure => omega
                exact ⟨j + 1, by omega, by go_num, by rw [HSn.out j hj]; exact HU2.out, (HK3.out.next (bel1 _ _)).far HB2.out⟩
        · have hmp : 0 < m := by omega
          have hle2 : 0 < cap - j * m := by omega
          have hnm : 0 < n * m := Nat.mul_pos (by omega) hmp
          obtain ⟨b, off, rfl, _, _⟩ := HK2.out.rdn.cells (by intro e; rw [e] at r2; simp at r2; omega)
          have HA : Hid (RdI (wr.heap.size + 1) (wr.alloc (.cells #[] 2)) (.slice (some ⟨b, off + j * m, none⟩) m (cap - j * m)) (rwI A j)) := by
            have h := HCut.out _ _ _ _ (HK2.out.next (bel1 wr (.cells #[] 2))).rdn j hj
            have e : (wr.alloc (.cells #[] 2)).heap.size = wr.heap.size + 1 := by simp
            rw [e] at h
            unfold Hid
            exact h
          have HNa : Hid (Ru.NilC (.slice (some ⟨b, off + j * m, none⟩) m (cap - j * m))) := fun n c e => by cases e
          clear hnm
          go_wp2_with (at_builtin; refine Ru.wpList_append_is (by simp [Region.wanted]) _ _ rfl wr.heap.size _ [] rfl ?g1 _ (rwI A j) rfl (wr.alloc (.cells #[] 2)).heap.size ?g2 ?g3 ?g4 ?g5 ?g6)
          case g1 => exact ins_lit wr
          case g2 =>
            go_simp
            exact Rd.ru HA.out
          case g3 =>
            go_simp
            exact HNa.out
          case g4 => rw [HIl.out j hj]; simp; omega
          all_goals (try (simp; done))
          intro v1 w1 hv1 hg1
          have HW1 := Lib.hid ((bel1 wr (.cells #[] 2)).trans (ins_grown (ins_lit wr) (by simp) hg1))
          have hv2 := Ru.own_mono hv1 HK2.out.sz
          obtain ⟨va, vc, rfl⟩ := ins_form hv1
          rw [HIl.out j hj] at hv2 ⊢
          have HV2 : Hid (Ru.Ins 2 w1 (w.heap.size + 1) (.slice va m vc) (rwI A j)) := by unfold Hid Ru.Ins; rw [HIl.out j hj]; exact hv2
          have HU1 := Lib.hid (HU.out.next HW1.out)
          have HK3 := Lib.hid (HK2.out.next HW1.out)
          clear hv1 hg1 hv2
          have HU3 := Lib.hid (HU1.out.next (bel1 w1 (.cells #[.slice va m vc] 22)))
          have HV3 := Lib.hid (ins_next HV2.out (bel1 w1 (.cells #[.slice va m vc] 22)))
          have hlt2 : ((rwL A).take j).length ≤ 1000 := by rw [List.length_take, HLen.out]; omega
          go_wp2_with (at_builtin; refine Ru.wpList_met (by simp [Region.wanted]) fun K hK => wp_append_row (w := w1.alloc (.cells #[.slice va m vc] 22)) _ _ rfl (w.heap.size + 1) (.slice ua j uc) ((rwL A).take j) rfl HU3.out w1.heap.size rfl (.slice va m vc) (cell_new _ _ _) (rwI A j) HV3.out hlt2 (by have := HK3.out.sz; simp; omega) ?h6)
          case h6 =>
            intro u2 w2 hu2 hb2
            have HU2 := Lib.hid hu2
            have HB2 := Lib.hid hb2
            clear hu2 hb2
            refine hK _ _ ?_
            go_wp2
            go_roundg g2
            case measure => omega
            exact ⟨j + 1, by omega, by go_num, by rw [HSn.out j hj]; exact HU2.out, (HK3.out.next (bel1 _ _)).far HB2.out⟩
  · have HE : Hid (rwL A = []) := if_neg h1
    obtain ⟨E, hE⟩ : ∃ E, ck A = E := ⟨_, rfl⟩
    rw [hE] at HC h1 ⊢
    have k1 : (E != 0) = true := by simpa using h1
    clear h1 hE hcell
    go_enter Tryd.func28, Tryd.ntmps28
    go_wp2_with (go_at_call 53; (with_reducible refine (HC.out _ (by with_unfolding_all exact HK.out.rdn)).mono ?_); rintro e w' ⟨rfl, hb⟩; have HK2 := Lib.hid (HK.out.next hb); clear HK hb x0 x1 x2 x3 x4; have HK := HK2; clear HK2)
    go_ret2
    rw [HE.out]
    exact ⟨_, rfl, ⟨none, 0, rfl, ⟨Nat.le_refl _, by omega⟩, fun h => absurd rfl h⟩, HK.out.bel⟩
end Go.Proofs.YtnoljljagfpogaaDoor
