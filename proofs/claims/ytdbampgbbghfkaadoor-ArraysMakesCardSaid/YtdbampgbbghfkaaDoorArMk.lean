/- The law ArraysMakes. -/
import Derived.Test.YtdbampgbbghfkaaDoorArR0
import Derived.Test.YtdbampgbbghfkaaDoorArTr
import Derived.Test.YtdbampgbbghfkaaDoorArMr
import Derived.Deep.DeepCutAuto
namespace Go.Proofs.YtdbampgbbghfkaaDoor
open Go.RowKit

set_option maxRecDepth 100000 in
set_option maxHeartbeats 8000000 in
theorem lawMakes_any (l : List Int) (u : Value) (s : ByteArray) (m : List (List Int)) (vm : Value) (w : World) (hw : Ru.Lay w) (hl : RdI w.heap.size w u l) (hn : Ru.NilC u) (hm : RdM w.heap.size w vm m) :
    Calls Tryd.prog 3 #[u, .string s, vm] w fun e w' => e = .returned (.bool true) ∧ Below w.heap.size w w' := by
  have HAw := Lib.hid (fun W h => awake_any W h)
  have HW0 := Lib.hid hw
  have HU := Lib.hid hl
  have HN := Lib.hid hn
  have HM := Lib.hid hm
  obtain ⟨t, cap, rfl, hcap, hcap2, hcell⟩ := hl
  obtain ⟨q, qcap, rfl, ⟨hqc, hqc2⟩, hqcell⟩ := hm
  clear hcell hqcell hw hn
  by_cases hbig : 500 < m.length
  · have hm5 : decide ((500 : Int) < (m.length : Int)) = true := decide_eq_true (by omega)
    go_enter Tryd.func3, Tryd.ntmps3
    go_wp2_with fail
    go_loopg [7, 8] m.length (fun g nv iv wr => ∃ (n : Int) (j : Nat), m.length ≤ j + g ∧ j ≤ 600 ∧ nv = .int .i64 n ∧ iv = .int .i64 j ∧ w = wr)
    case atStart => exact ⟨0, 0, by omega, by omega, rfl, rfl, rfl⟩
    case round =>
      obtain ⟨n, j, hjg, hj6, rfl, rfl, rfl⟩ := hrel
      by_cases hj : j < m.length
      · have hj1 : decide (j < m.length) = true := decide_eq_true (by omega)
        have hj2 : decide ((j : Int) < (m.length : Int)) = true := decide_eq_true (by omega)
        by_cases h6 : j < 600
        · have h61 : decide ((j : Int) < 600) = true := decide_eq_true (by omega)
          have hji : (j : Int) < (m.length : Int) := by omega
          obtain ⟨b, off, rfl, hbb, hc⟩ := HM.out.cells (by intro e; rw [e] at hj; simp at hj)
          obtain ⟨y, hy, hyr, _⟩ := hc j hj
          obtain ⟨ya, yc, rfl, hy1, hy2, _⟩ := hyr
          clear hc hbig hj6
          cases gk with
          | zero => omega
          | succ g =>
            go_wp2_with fail
            go_roundg g
            case measure => omega
            case rel => exact ⟨_, j + 1, by omega, by omega, rfl, by go_num, rfl⟩
        · have h61 : decide ((j : Int) < 600) = false := decide_eq_false (by omega)
          clear hbig hj6 h6
          go_wp2_with (go_at_call 5; refine (HAw.out _ HW0.out).mono ?_; rintro e w9 ⟨rfl, hb⟩)
          all_goals (go_ret; exact ⟨rfl, hb⟩)
      · have hj1 : decide (j < m.length) = false := decide_eq_false (by omega)
        have hj2 : decide ((j : Int) < (m.length : Int)) = false := decide_eq_false (by omega)
        clear hbig hj6 hj
        go_wp2_with (go_at_call 5; refine (HAw.out _ HW0.out).mono ?_; rintro e w9 ⟨rfl, hb⟩)
        all_goals (go_ret; exact ⟨rfl, hb⟩)
  · have hm5 : decide ((500 : Int) < (m.length : Int)) = false := decide_eq_false (by omega)
    go_enter Tryd.func3, Tryd.ntmps3
    go_wp2_with fail
    go_loopg [7, 8] m.length (fun g nv iv wr => ∃ (n : Int) (j : Nat), j + g = m.length ∧ nv = .int .i64 n ∧ iv = .int .i64 j ∧ w = wr)
    case atStart => exact ⟨0, 0, by omega, rfl, rfl, rfl⟩
    case round =>
      obtain ⟨n, j, hjg, rfl, rfl, rfl⟩ := hrel
      cases gk with
      | succ g =>
        have hj : j < m.length := by omega
        have hj1 : decide (j < m.length) = true := decide_eq_true (by omega)
        have hj2 : decide ((j : Int) < (m.length : Int)) = true := decide_eq_true (by omega)
        have h61 : decide ((j : Int) < 600) = true := decide_eq_true (by omega)
        have hji : (j : Int) < (m.length : Int) := by omega
        obtain ⟨b, off, rfl, hbb, hc⟩ := HM.out.cells (by intro e; rw [e] at hj; simp at hj)
        obtain ⟨y, hy, hyr, _⟩ := hc j hj
        obtain ⟨ya, yc, rfl, hy1, hy2, _⟩ := hyr
        clear hc hbig
        go_wp2_with fail
        go_roundg g
        case measure => omega
        case rel => exact ⟨_, j + 1, by omega, rfl, by go_num, rfl⟩
      | zero =>
        have hj1 : decide (j < m.length) = false := decide_eq_false (by omega)
        have hj2 : decide ((j : Int) < (m.length : Int)) = false := decide_eq_false (by omega)
        by_cases hl5 : 500 < l.length
        · have k1 : decide ((500 : Int) < (l.length : Int)) = true := decide_eq_true (by omega)
          clear hbig hjg hl5
          go_wp2_with (go_at_call 5; refine (HAw.out _ HW0.out).mono ?_; rintro e w9 ⟨rfl, hb⟩)
          go_ret
          exact ⟨rfl, hb⟩
        have k1 : decide ((500 : Int) < (l.length : Int)) = false := decide_eq_false (by omega)
        by_cases hs2 : 2000 < s.size
        · have k2 : decide ((2000 : Int) < (s.size : Int)) = true := decide_eq_true (by omega)
          clear hbig hjg hl5 hs2
          go_wp2_with (go_at_call 5; refine (HAw.out _ HW0.out).mono ?_; rintro e w9 ⟨rfl, hb⟩)
          go_ret
          exact ⟨rfl, hb⟩
        have k2 : decide ((2000 : Int) < (s.size : Int)) = false := decide_eq_false (by omega)
        by_cases hn2 : 2000 < n
        · have k3 : decide ((2000 : Int) < n) = true := decide_eq_true (by omega)
          clear hbig hjg hl5 hs2 hn2
          go_wp2_with (go_at_call 5; refine (HAw.out _ HW0.out).mono ?_; rintro e w9 ⟨rfl, hb⟩)
          go_ret
          exact ⟨rfl, hb⟩
        have k3 : decide ((2000 : Int) < n) = false := decide_eq_false (by omega)
        have HI1 := Lib.hid (fun v W h => ints_any l v W h)
        have HI2 := Lib.hid (fun v W h hn => rints_any l v W h hn)
        have HT1 := Lib.hid (fun W h => text_lay s W h (by omega))
        have HT2 := Lib.hid (fun W => rtext_any s W (by omega))
        have HM1 := Lib.hid (fun W h => matrix_all (.slice q m.length qcap) m W h)
        have HM2 := Lib.hid (fun W h => rmatrix_any (.slice q m.length qcap) m W h)
        have HlA : Hid ((vcV 1 l).z.length ≤ 500) := by unfold Hid vcV; split <;> simp [Ar.no]; omega
        clear hbig hjg hl5 hs2 hn2
        obtain ⟨A1, hA1⟩ : ∃ A, vcV 1 l = A := ⟨_, rfl⟩
        obtain ⟨E1, hE1⟩ : ∃ E, vcE l = E := ⟨_, rfl⟩
        rw [hA1] at HI1 HI2 HlA
        rw [hE1] at HI1 HI2
        clear hA1 hE1
        obtain ⟨T, hT⟩ : ∃ A, txV (byt s) = A := ⟨_, rfl⟩
        obtain ⟨E2, hE2⟩ : ∃ E, txE (byt s) = E := ⟨_, rfl⟩
        have HTl : Hid (T.z.length ≤ 1000000) := by
          unfold Hid
          rw [← hT]
          unfold txV
          split
          · unfold vcV; split
            · simp [Ar.no]
            · show (rnL _).length ≤ 1000000; omega
          · simp [Ar.no]
        rw [hT, hE2] at HT1 HT2
        clear hT hE2
        obtain ⟨X, hX⟩ : ∃ A, mtV m = A := ⟨_, rfl⟩
        obtain ⟨E3, hE3⟩ : ∃ E, mtE m = E := ⟨_, rfl⟩
        have HXl : Hid (X.z.length ≤ 1000000) := by
          unfold Hid
          rw [← hX]
          unfold mtV
          split
          · rename_i h
            unfold mtE at h
            split at h
            · cases h
            · split at h
              · cases h
              · rename_i he
                split at h
                · cases h
                · show (flt m).length ≤ 1000000
                  rw [flt_evn (by simpa using he)]
                  omega
          · simp [Ar.no]
        rw [hX, hE3] at HM1 HM2
        clear hX hE3
        obtain ⟨a1, a2, a3, a4, a5⟩ := A1
        obtain ⟨p1, p2, p3, p4, p5⟩ := T
        obtain ⟨r1, r2, r3, r4, r5⟩ := X
        have HS1 := Lib.hid (fun v u W h1 h2 => same_eq a1 a2 a3 a4 a5 v u W h1 h2 (by have h : a5.length ≤ 500 := HlA.out; omega))
        have HS2 := Lib.hid (fun v u W h1 h2 => same_eq p1 p2 p3 p4 p5 v u W h1 h2 HTl.out)
        have HS3 := Lib.hid (fun v u W h1 h2 => same_eq r1 r2 r3 r4 r5 v u W h1 h2 HXl.out)
        have HK := Lib.hid (KLs.start w HW0.out)
        clear HlA HTl HXl
        go_upto_region 10 with (first
      | (go_at_call 6; (with_reducible refine (HI1.out _ _ (HU.out.next HK.out.bel)).mono ?_); rintro e wa ⟨uwa, rfl, hu, hb⟩; obtain ⟨pwa, cwa, hpwa, _, _⟩ := hu.form; have hqwa : uwa = (.slice pwa a5.length cwa) := hpwa; subst hqwa; clear hpwa; have hge9 := (HK.out.next hb).bel.size; have HK2 := Lib.hid ((HK.out.next hb).push ⟨a1, a2, a3, a4, a5⟩ hu.rd); clear HK ; have HK := HK2; clear HK2; clear hb hu)
      | (go_at_call 7; (with_reducible refine (HI2.out _ _ (HU.out.next HK.out.bel) HN.out).mono ?_); rintro e wb ⟨uwb, rfl, hu, hb⟩; obtain ⟨pwb, cwb, hpwb, _, _⟩ := hu.form; have hqwb : uwb = (.slice pwb a5.length cwb) := hpwb; subst hqwb; clear hpwb; have hlt9 := ((HK.out.next hb).a _ (.head _)).lt; have HK2 := Lib.hid ((HK.out.next hb).push ⟨a1, a2, a3, a4, a5⟩ hu.rd); clear HK ; have HK := HK2; clear HK2; clear hb hu)
      | fail)
        go_cut [83] (fun t' wx => t' = .bool false ∧ KLs w [⟨wb.heap.size, ⟨a1, a2, a3, a4, a5⟩, (.slice pwb a5.length cwb)⟩, ⟨wa.heap.size, ⟨a1, a2, a3, a4, a5⟩, (.slice pwa a5.length cwa)⟩] [] wx)
        case first =>
          as_aux_lemma =>
            by_cases hl0 : l = []
            · have k0 : decide (0 < l.length) = false := decide_eq_false (by rw [hl0]; simp)
              have k0i : decide ((0 : Int) < (l.length : Int)) = false := decide_eq_false (by rw [hl0]; simp)
              clear hl0
              have HAll : ∀ W, KLs w [⟨wb.heap.size, ⟨a1, a2, a3, a4, a5⟩, (.slice pwb a5.length cwb)⟩, ⟨wa.heap.size, ⟨a1, a2, a3, a4, a5⟩, (.slice pwa a5.length cwa)⟩] [] W → ((fun W => KLs w [⟨wb.heap.size, ⟨a1, a2, a3, a4, a5⟩, (.slice pwb a5.length cwb)⟩, ⟨wa.heap.size, ⟨a1, a2, a3, a4, a5⟩, (.slice pwa a5.length cwa)⟩] [] W ∧ W.cell? ⟨wb.heap.size, 0, none⟩ = some (.int .i64 a1) ∧ W.cell? ⟨wb.heap.size, 1, none⟩ = some (.int .i64 a2) ∧ W.cell? ⟨wb.heap.size, 2, none⟩ = some (.int .i64 a3) ∧ W.cell? ⟨wb.heap.size, 3, none⟩ = some (.int .i64 a4) ∧ W.cell? ⟨wb.heap.size, 4, none⟩ = some (.slice pwb a5.length cwb) ∧ W.cell? ⟨wa.heap.size, 0, none⟩ = some (.int .i64 a1) ∧ W.cell? ⟨wa.heap.size, 1, none⟩ = some (.int .i64 a2) ∧ W.cell? ⟨wa.heap.size, 2, none⟩ = some (.int .i64 a3) ∧ W.cell? ⟨wa.heap.size, 3, none⟩ = some (.int .i64 a4) ∧ W.cell? ⟨wa.heap.size, 4, none⟩ = some (.slice pwa a5.length cwa)) W) := fun W h => ⟨h, (h.a _ (.head _)).c0, (h.a _ (.head _)).c1, (h.a _ (.head _)).c2, (h.a _ (.head _)).c3, (h.a _ (.head _)).c4, (h.a _ (.tail _ (.head _))).c0, (h.a _ (.tail _ (.head _))).c1, (h.a _ (.tail _ (.head _))).c2, (h.a _ (.tail _ (.head _))).c3, (h.a _ (.tail _ (.head _))).c4⟩
              have hS := HK.out
              clear HK
              refine wp_region_held_drew (S := (fun W => KLs w [⟨wb.heap.size, ⟨a1, a2, a3, a4, a5⟩, (.slice pwb a5.length cwb)⟩, ⟨wa.heap.size, ⟨a1, a2, a3, a4, a5⟩, (.slice pwa a5.length cwa)⟩] [] W ∧ W.cell? ⟨wb.heap.size, 0, none⟩ = some (.int .i64 a1) ∧ W.cell? ⟨wb.heap.size, 1, none⟩ = some (.int .i64 a2) ∧ W.cell? ⟨wb.heap.size, 2, none⟩ = some (.int .i64 a3) ∧ W.cell? ⟨wb.heap.size, 3, none⟩ = some (.int .i64 a4) ∧ W.cell? ⟨wb.heap.size, 4, none⟩ = some (.slice pwb a5.length cwb) ∧ W.cell? ⟨wa.heap.size, 0, none⟩ = some (.int .i64 a1) ∧ W.cell? ⟨wa.heap.size, 1, none⟩ = some (.int .i64 a2) ∧ W.cell? ⟨wa.heap.size, 2, none⟩ = some (.int .i64 a3) ∧ W.cell? ⟨wa.heap.size, 3, none⟩ = some (.int .i64 a4) ∧ W.cell? ⟨wa.heap.size, 4, none⟩ = some (.slice pwa a5.length cwa))) (by kernel_rfl) ?_ (fun hHeld => ?_)
              · exact HAll _ (hS.next (Below.refl _ _).drew)
              refine wpAnyH_take (i := 0) (v := ?_) rfl (by kernel_rfl) (by kernel_rfl) (by kernel_rfl) (fun _ _ _ h => h) (Or.inl ⟨by rfl, ?_⟩) (by assumption) ?_
              rotate_left
              · ((intro w0 hSw); (try dsimp only at hSw); go_simp; (try with_reducible rfl))
              change wpAnyH _ _ _ _ _ _ _ (Act.put _ (some 58) _) _
              try simp only [Act.put, List.setIfInBounds_toArray, List.set_cons_zero, List.set_cons_succ]
              refine wpAnyH_take (i := 1) (v := ?_) rfl (by kernel_rfl) (by kernel_rfl) (by kernel_rfl) (fun _ _ _ h => h) (Or.inl ⟨by rfl, ?_⟩) (by assumption) ?_
              rotate_left
              · ((intro w0 hSw); (try dsimp only at hSw); go_simp; (try with_reducible rfl))
              change wpAnyH _ _ _ _ _ _ _ (Act.put _ (some 59) _) _
              try simp only [Act.put, List.setIfInBounds_toArray, List.set_cons_zero, List.set_cons_succ]
              refine wpAnyH_ready (rs := [2]) (by kernel_rfl) (by simp) ?_
              refine AllReadyH.cons rfl (fun K hK => ?_) AllReadyH.nil
              go_simp
              go_at_call 8; (with_reducible refine (HS1.out _ _ _ (by with_unfolding_all exact hHeld.1.r _ (.tail _ (.head _))) (by with_unfolding_all exact hHeld.1.r _ (.head _))).mono ?_); rintro e wn ⟨rfl, hbn⟩
              refine hK.out _ _ ?_ (fun hHeld2 => ?_)
              · exact HAll _ (hHeld.1.next hbn)
              clear hK K hHeld
              have hHeld := hHeld2; clear hHeld2
              try change wpAnyH _ _ _ _ _ _ _ (Act.put _ (some 60) _) _
              try simp only [Act.put, List.setIfInBounds_toArray, List.set_cons_zero, List.set_cons_succ]
              refine wpAnyH_take (i := 3) (v := ?_) rfl (by kernel_rfl) (by kernel_rfl) (by kernel_rfl) (fun _ _ _ h => h) (Or.inl ⟨by rfl, ?_⟩) (by assumption) ?_
              rotate_left
              · ((intro w0 hSw); (try dsimp only at hSw); go_simp; (try with_reducible rfl))
              change wpAnyH _ _ _ _ _ _ _ (Act.put _ (some 61) _) _
              try simp only [Act.put, List.setIfInBounds_toArray, List.set_cons_zero, List.set_cons_succ]
              refine wpAnyH_take (i := 4) (v := ?_) rfl (by kernel_rfl) (by kernel_rfl) (by kernel_rfl) (fun _ _ _ h => h) (Or.inl ⟨by rfl, ?_⟩) (by assumption) ?_
              rotate_left
              · ((intro w0 hSw); (try dsimp only at hSw); go_simp; (try with_reducible rfl))
              change wpAnyH _ _ _ _ _ _ _ (Act.put _ (some 62) _) _
              try simp only [Act.put, List.setIfInBounds_toArray, List.set_cons_zero, List.set_cons_succ]
              refine wpAnyH_take (i := 5) (v := ?_) rfl (by kernel_rfl) (by kernel_rfl) (by kernel_rfl) (fun _ _ _ h => h) (Or.inl ⟨by rfl, ?_⟩) (by assumption) ?_
              rotate_left
              · ((intro w0 hSw); (try dsimp only at hSw); go_simp; (try with_reducible rfl))
              change wpAnyH _ _ _ _ _ _ _ (Act.put _ (some 63) _) _
              try simp only [Act.put, List.setIfInBounds_toArray, List.set_cons_zero, List.set_cons_succ]
              refine wpAnyH_take (i := 6) (v := ?_) rfl (by kernel_rfl) (by kernel_rfl) (by kernel_rfl) (fun _ _ _ h => h) (Or.inl ⟨by rfl, ?_⟩) (by assumption) ?_
              rotate_left
              · ((intro w0 hSw); (try dsimp only at hSw); go_simp; (try with_reducible rfl))
              change wpAnyH _ _ _ _ _ _ _ (Act.put _ (some 64) _) _
              try simp only [Act.put, List.setIfInBounds_toArray, List.set_cons_zero, List.set_cons_succ]
              refine wpAnyH_take (i := 7) (v := ?_) rfl (by kernel_rfl) (by kernel_rfl) (by kernel_rfl) (fun _ _ _ h => h) (Or.inl ⟨by rfl, ?_⟩) (by assumption) ?_
              rotate_left
              · ((intro w0 hSw); (try dsimp only at hSw); go_simp; (try with_reducible rfl))
              change wpAnyH _ _ _ _ _ _ _ (Act.put _ (some 65) _) _
              try simp only [Act.put, List.setIfInBounds_toArray, List.set_cons_zero, List.set_cons_succ]
              refine wpAnyH_take (i := 8) (v := ?_) rfl (by kernel_rfl) (by kernel_rfl) (by kernel_rfl) (fun _ _ _ h => h) (Or.inl ⟨by rfl, ?_⟩) (by assumption) ?_
              rotate_left
              · ((intro w0 hSw); (try dsimp only at hSw); go_simp; (try with_reducible rfl))
              change wpAnyH _ _ _ _ _ _ _ (Act.put _ (some 66) _) _
              try simp only [Act.put, List.setIfInBounds_toArray, List.set_cons_zero, List.set_cons_succ]
              refine wpAnyH_take (i := 9) (v := ?_) rfl (by kernel_rfl) (by kernel_rfl) (by kernel_rfl) (fun _ _ _ h => h) (Or.inl ⟨by rfl, ?_⟩) (by assumption) ?_
              rotate_left
              · ((intro w0 hSw); (try dsimp only at hSw); go_simp; (try with_reducible rfl))
              change wpAnyH _ _ _ _ _ _ _ (Act.put _ (some 67) _) _
              try simp only [Act.put, List.setIfInBounds_toArray, List.set_cons_zero, List.set_cons_succ]
              refine wpAnyH_take (i := 10) (v := ?_) rfl (by kernel_rfl) (by kernel_rfl) (by kernel_rfl) (fun _ _ _ h => h) (Or.inl ⟨by rfl, ?_⟩) (by assumption) ?_
              rotate_left
              · ((intro w0 hSw); (try dsimp only at hSw); go_simp; (try with_reducible rfl))
              change wpAnyH _ _ _ _ _ _ _ (Act.put _ (some 68) _) _
              try simp only [Act.put, List.setIfInBounds_toArray, List.set_cons_zero, List.set_cons_succ]
              refine wpAnyH_take (i := 11) (v := ?_) rfl (by kernel_rfl) (by kernel_rfl) (by kernel_rfl) (fun _ _ _ h => h) (Or.inl ⟨by rfl, ?_⟩) (by assumption) ?_
              rotate_left
              · ((intro w0 hSw); (try dsimp only at hSw); go_simp; (try with_reducible rfl))
              change wpAnyH _ _ _ _ _ _ _ (Act.put _ (some 69) _) _
              try simp only [Act.put, List.setIfInBounds_toArray, List.set_cons_zero, List.set_cons_succ]
              refine wpAnyH_take (i := 12) (v := ?_) rfl (by kernel_rfl) (by kernel_rfl) (by kernel_rfl) (fun _ _ _ h => h) (Or.inl ⟨by rfl, ?_⟩) (by assumption) ?_
              rotate_left
              · ((intro w0 hSw); (try dsimp only at hSw); go_simp; (try with_reducible rfl))
              change wpAnyH _ _ _ _ _ _ _ (Act.put _ (some 70) _) _
              try simp only [Act.put, List.setIfInBounds_toArray, List.set_cons_zero, List.set_cons_succ]
              refine wpAnyH_take (i := 13) (v := ?_) rfl (by kernel_rfl) (by kernel_rfl) (by kernel_rfl) (fun _ _ _ h => h) (Or.inl ⟨by rfl, ?_⟩) (by assumption) ?_
              rotate_left
              · ((intro w0 hSw); (try dsimp only at hSw); go_simp; (try with_reducible rfl))
              change wpAnyH _ _ _ _ _ _ _ (Act.put _ (some 71) _) _
              try simp only [Act.put, List.setIfInBounds_toArray, List.set_cons_zero, List.set_cons_succ]
              refine wpAnyH_take (i := 14) (v := undef) rfl (by kernel_rfl) (by kernel_rfl) (by kernel_rfl) (fun _ _ _ h => h) (Or.inr ⟨by rfl, rfl⟩) (by assumption) ?_
              change wpAnyH _ _ _ _ _ _ _ (Act.put _ (some 72) _) _
              try simp only [Act.put, List.setIfInBounds_toArray, List.set_cons_zero, List.set_cons_succ]
              refine wpAnyH_take (i := 15) (v := undef) rfl (by kernel_rfl) (by kernel_rfl) (by kernel_rfl) (fun _ _ _ h => h) (Or.inr ⟨by rfl, rfl⟩) (by assumption) ?_
              change wpAnyH _ _ _ _ _ _ _ (Act.put _ (some 73) _) _
              try simp only [Act.put, List.setIfInBounds_toArray, List.set_cons_zero, List.set_cons_succ]
              refine wpAnyH_take (i := 16) (v := undef) rfl (by kernel_rfl) (by kernel_rfl) (by kernel_rfl) (fun _ _ _ h => h) (Or.inr ⟨by rfl, rfl⟩) (by assumption) ?_
              change wpAnyH _ _ _ _ _ _ _ (Act.put _ (some 74) _) _
              try simp only [Act.put, List.setIfInBounds_toArray, List.set_cons_zero, List.set_cons_succ]
              refine wpAnyH_take (i := 17) (v := undef) rfl (by kernel_rfl) (by kernel_rfl) (by kernel_rfl) (fun _ _ _ h => h) (Or.inr ⟨by rfl, rfl⟩) (by assumption) ?_
              change wpAnyH _ _ _ _ _ _ _ (Act.put _ (some 75) _) _
              try simp only [Act.put, List.setIfInBounds_toArray, List.set_cons_zero, List.set_cons_succ]
              refine wpAnyH_take (i := 18) (v := undef) rfl (by kernel_rfl) (by kernel_rfl) (by kernel_rfl) (fun _ _ _ h => h) (Or.inr ⟨by rfl, rfl⟩) (by assumption) ?_
              change wpAnyH _ _ _ _ _ _ _ (Act.put _ (some 76) _) _
              try simp only [Act.put, List.setIfInBounds_toArray, List.set_cons_zero, List.set_cons_succ]
              refine wpAnyH_take (i := 19) (v := undef) rfl (by kernel_rfl) (by kernel_rfl) (by kernel_rfl) (fun _ _ _ h => h) (Or.inr ⟨by rfl, rfl⟩) (by assumption) ?_
              change wpAnyH _ _ _ _ _ _ _ (Act.put _ (some 77) _) _
              try simp only [Act.put, List.setIfInBounds_toArray, List.set_cons_zero, List.set_cons_succ]
              refine wpAnyH_take (i := 20) (v := undef) rfl (by kernel_rfl) (by kernel_rfl) (by kernel_rfl) (fun _ _ _ h => h) (Or.inr ⟨by rfl, rfl⟩) (by assumption) ?_
              change wpAnyH _ _ _ _ _ _ _ (Act.put _ (some 78) _) _
              try simp only [Act.put, List.setIfInBounds_toArray, List.set_cons_zero, List.set_cons_succ]
              refine wpAnyH_take (i := 21) (v := undef) rfl (by kernel_rfl) (by kernel_rfl) (by kernel_rfl) (fun _ _ _ h => h) (Or.inr ⟨by rfl, rfl⟩) (by assumption) ?_
              change wpAnyH _ _ _ _ _ _ _ (Act.put _ (some 79) _) _
              try simp only [Act.put, List.setIfInBounds_toArray, List.set_cons_zero, List.set_cons_succ]
              refine wpAnyH_take (i := 22) (v := undef) rfl (by kernel_rfl) (by kernel_rfl) (by kernel_rfl) (fun _ _ _ h => h) (Or.inr ⟨by rfl, rfl⟩) (by assumption) ?_
              change wpAnyH _ _ _ _ _ _ _ (Act.put _ (some 80) _) _
              try simp only [Act.put, List.setIfInBounds_toArray, List.set_cons_zero, List.set_cons_succ]
              refine wpAnyH_take (i := 23) (v := undef) rfl (by kernel_rfl) (by kernel_rfl) (by kernel_rfl) (fun _ _ _ h => h) (Or.inr ⟨by rfl, rfl⟩) (by assumption) ?_
              change wpAnyH _ _ _ _ _ _ _ (Act.put _ (some 81) _) _
              try simp only [Act.put, List.setIfInBounds_toArray, List.set_cons_zero, List.set_cons_succ]
              refine wpAnyH_take (i := 24) (v := ?_) rfl (by kernel_rfl) (by kernel_rfl) (by kernel_rfl) (fun _ _ _ h => h) (Or.inl ⟨by rfl, ?_⟩) (by assumption) ?_
              rotate_left
              · ((intro w0 hSw); (try dsimp only at hSw); go_simp; (try with_reducible rfl))
              change wpAnyH _ _ _ _ _ _ _ (Act.put _ (some 82) _) _
              try simp only [Act.put, List.setIfInBounds_toArray, List.set_cons_zero, List.set_cons_succ]
              refine wpAnyH_take (i := 25) (v := ?_) rfl (by kernel_rfl) (by kernel_rfl) (by kernel_rfl) (fun _ _ _ h => h) (Or.inl ⟨by rfl, ?_⟩) (by assumption) ?_
              rotate_left
              · ((intro w0 hSw); (try dsimp only at hSw); go_simp; (try with_reducible rfl))
              change wpAnyH _ _ _ _ _ _ _ (Act.put _ (some 83) _) _
              try simp only [Act.put, List.setIfInBounds_toArray, List.set_cons_zero, List.set_cons_succ]
              refine wpAnyH_done (by kernel_rfl) ?_ _
              have HB := Lib.hid hHeld.1
              go_wp2_with fail
              go_meet
              case rel => exact ⟨rfl, HB.out⟩
            · obtain ⟨bl, ol, rfl, hbl, hcl⟩ := HU.out.cells hl0
              have hl1 : 0 < l.length := List.length_pos_iff.2 hl0
              have hl1i : (0 : Int) < (l.length : Int) := by omega
              have k0 : decide (0 < l.length) = true := decide_eq_true hl1
              have k0i : decide ((0 : Int) < (l.length : Int)) = true := decide_eq_true hl1i
              obtain ⟨c0, hc0⟩ : ∃ c, l[0] = c := ⟨_, rfl⟩
              have HX0 : Hid (∀ W, Below w.heap.size w W → W.cell? ⟨bl, ol, none⟩ = some (.int .i64 c0)) := by
                intro W hb
                have h := hcl 0 hl1
                rw [Nat.add_zero, hc0] at h
                exact (hb.cell (p := ⟨bl, ol, none⟩) hbl).trans h
              have HIn : Hid (∀ W, Calls Tryd.prog 9 #[.int .i64 c0] W fun e w' => ∃ u, e = .returned (A5 1 0 0 0 u) ∧ RdN W.heap.size w' u [c0] ∧ Below W.heap.size W w') := fun W => int_any c0 W
              have HIr : Hid (∀ W, Calls Tryd.prog 10 #[.int .i64 c0] W fun e w' => ∃ u, e = .returned (A5 1 0 0 0 u) ∧ RdN W.heap.size w' u [c0] ∧ Below W.heap.size W w') := fun W => rint_any c0 W
              have HS0 := Lib.hid (fun v u W h1 h2 => same_eq 1 0 0 0 [c0] v u W h1 h2 (by simp))
              clear hcl hc0 hl0
              have HAll : ∀ W, KLs w [⟨wb.heap.size, ⟨a1, a2, a3, a4, a5⟩, (.slice pwb a5.length cwb)⟩, ⟨wa.heap.size, ⟨a1, a2, a3, a4, a5⟩, (.slice pwa a5.length cwa)⟩] [] W → ((fun W => KLs w [⟨wb.heap.size, ⟨a1, a2, a3, a4, a5⟩, (.slice pwb a5.length cwb)⟩, ⟨wa.heap.size, ⟨a1, a2, a3, a4, a5⟩, (.slice pwa a5.length cwa)⟩] [] W ∧ W.cell? ⟨wb.heap.size, 0, none⟩ = some (.int .i64 a1) ∧ W.cell? ⟨wb.heap.size, 1, none⟩ = some (.int .i64 a2) ∧ W.cell? ⟨wb.heap.size, 2, none⟩ = some (.int .i64 a3) ∧ W.cell? ⟨wb.heap.size, 3, none⟩ = some (.int .i64 a4) ∧ W.cell? ⟨wb.heap.size, 4, none⟩ = some (.slice pwb a5.length cwb) ∧ W.cell? ⟨wa.heap.size, 0, none⟩ = some (.int .i64 a1) ∧ W.cell? ⟨wa.heap.size, 1, none⟩ = some (.int .i64 a2) ∧ W.cell? ⟨wa.heap.size, 2, none⟩ = some (.int .i64 a3) ∧ W.cell? ⟨wa.heap.size, 3, none⟩ = some (.int .i64 a4) ∧ W.cell? ⟨wa.heap.size, 4, none⟩ = some (.slice pwa a5.length cwa) ∧ W.cell? ⟨bl, ol, none⟩ = some (.int .i64 c0)) W) := fun W h => ⟨h, (h.a _ (.head _)).c0, (h.a _ (.head _)).c1, (h.a _ (.head _)).c2, (h.a _ (.head _)).c3, (h.a _ (.head _)).c4, (h.a _ (.tail _ (.head _))).c0, (h.a _ (.tail _ (.head _))).c1, (h.a _ (.tail _ (.head _))).c2, (h.a _ (.tail _ (.head _))).c3, (h.a _ (.tail _ (.head _))).c4, HX0.out W h.bel⟩
              have hS := HK.out
              clear HK
              go_region_held3 (fun W => KLs w [⟨wb.heap.size, ⟨a1, a2, a3, a4, a5⟩, (.slice pwb a5.length cwb)⟩, ⟨wa.heap.size, ⟨a1, a2, a3, a4, a5⟩, (.slice pwa a5.length cwa)⟩] [] W ∧ W.cell? ⟨wb.heap.size, 0, none⟩ = some (.int .i64 a1) ∧ W.cell? ⟨wb.heap.size, 1, none⟩ = some (.int .i64 a2) ∧ W.cell? ⟨wb.heap.size, 2, none⟩ = some (.int .i64 a3) ∧ W.cell? ⟨wb.heap.size, 3, none⟩ = some (.int .i64 a4) ∧ W.cell? ⟨wb.heap.size, 4, none⟩ = some (.slice pwb a5.length cwb) ∧ W.cell? ⟨wa.heap.size, 0, none⟩ = some (.int .i64 a1) ∧ W.cell? ⟨wa.heap.size, 1, none⟩ = some (.int .i64 a2) ∧ W.cell? ⟨wa.heap.size, 2, none⟩ = some (.int .i64 a3) ∧ W.cell? ⟨wa.heap.size, 3, none⟩ = some (.int .i64 a4) ∧ W.cell? ⟨wa.heap.size, 4, none⟩ = some (.slice pwa a5.length cwa) ∧ W.cell? ⟨bl, ol, none⟩ = some (.int .i64 c0))
                ((first | exact HAll _ ((by assumption : KLs _ _ _ _ ∧ _).1.next hbn) | exact HAll _ (by assumption : KLs _ _ _ _ ∧ _).1 | exact HAll _ (hS.next (Below.refl _ _).drew) | fail))
                (first
                  | (go_at_call 9; (with_reducible refine (HIn.out _).mono ?_); rintro e wn ⟨ui, rfl, hui, hbn⟩; have hui1 := hui.rd; clear hui)
                  | (go_at_call 10; (with_reducible refine (HIr.out _).mono ?_); rintro e wn ⟨uj, rfl, huj, hbn⟩; have hui2 := hui1.next hbn; have huj1 := huj.rd; clear huj)
                  | (go_at_call 8; (with_reducible refine (HS0.out _ _ _ hui2 huj1).mono ?_); rintro e wn ⟨rfl, hbn⟩)
                  | (go_at_call 8; (with_reducible refine (HS1.out _ _ _ ((by with_unfolding_all exact (by assumption : KLs _ _ _ _ ∧ _).1.r _ (.tail _ (.head _)))) ((by with_unfolding_all exact (by assumption : KLs _ _ _ _ ∧ _).1.r _ (.head _)))).mono ?_); rintro e wn ⟨rfl, hbn⟩)
                  | fail)
              all_goals
                have HB := Lib.hid (by assumption : KLs _ _ _ _ ∧ _).1
                go_wp2_with fail
                go_meet
                case rel => exact ⟨rfl, HB.out⟩
        case rest =>
          obtain ⟨rfl, hB⟩ := hcut
          clear HK HS1 HI1 HI2
          have HP := Lib.hid (hB.a _ (.tail _ (.head _)))
          have HQ := Lib.hid (hB.a _ (.head _))
          have HB := Lib.hid hB.bel
          clear hB
          obtain ⟨wx, hwx⟩ : ∃ wx, wx = wc := ⟨_, rfl⟩
          subst hwx
          have hgeb : w.heap.size ≤ wb.heap.size := by omega
          go_upto_region 14 with fail
          go_at_call 11
          (with_reducible refine (HT1.out _ (HW0.out.next HB.out)).mono ?_)
          rintro e wt ⟨ut, rfl, hu, hb⟩
          obtain ⟨pt, ct, hpt, _, _⟩ := hu.form
          have hqt : ut = .slice pt p5.length ct := hpt
          subst hqt
          clear hpt
          have hsz := hb.size
          have HP1 := Lib.hid (HP.out.next hb)
          have y0 := HP1.out.c0
          have y1 := HP1.out.c1
          have y2 := HP1.out.c2
          have y3 := HP1.out.c3
          have y4 := HP1.out.c4
          have yf0 := HP1.out.fr 0
          have yf1 := HP1.out.fr 1
          have yf2 := HP1.out.fr 2
          have yf3 := HP1.out.fr 3
          have yf4 := HP1.out.fr 4
          have HB1 := Lib.hid (st5_below p1 p2 p3 p4 (.slice pt p5.length ct) hge9 (HB.out.trans (hb.mono HB.out.size)))
          have HP2 := Lib.hid (HP1.out.set p1 p2 p3 p4 (.slice pt p5.length ct))
          have HQ2 : Hid (R5 (st5 wt wa.heap.size p1 p2 p3 p4 (.slice pt p5.length ct)) wb.heap.size _ _ _ _ _) := (st5_other _ _ _ _ _ (by omega)).trans (HQ.out.next hb)
          have HN2 := Lib.hid ((hu.mono (Nat.le_refl _)).st5 HP.out.lt p1 p2 p3 p4 (.slice pt p5.length ct))
          have hs2 : wx.heap.size ≤ (st5 wt wa.heap.size p1 p2 p3 p4 (.slice pt p5.length ct)).heap.size := Nat.le_trans hsz (Nat.le_of_eq (st5_size _ _ _ _ _ _ _).symm)
          clear hu hb
          go_upto_region 14 with fail
          go_at_call 12
          (with_reducible refine (HT2.out _).mono ?_)
          rintro e wv ⟨uv, rfl, hu, hb⟩
          obtain ⟨pv, cv, hpv, _, _⟩ := hu.form
          have hqv : uv = .slice pv p5.length cv := hpv
          subst hqv
          clear hpv
          have hszv := hb.size
          have HQ3 := Lib.hid (HQ2.out.next hb)
          have x0 := HQ3.out.c0
          have x1 := HQ3.out.c1
          have x2 := HQ3.out.c2
          have x3 := HQ3.out.c3
          have x4 := HQ3.out.c4
          have xf0 := HQ3.out.fr 0
          have xf1 := HQ3.out.fr 1
          have xf2 := HQ3.out.fr 2
          have xf3 := HQ3.out.fr 3
          have xf4 := HQ3.out.fr 4
          have HP3 := Lib.hid (HP2.out.next hb)
          have HB3 := Lib.hid (st5_below p1 p2 p3 p4 (.slice pv p5.length cv) hgeb (HB1.out.trans (hb.mono HB1.out.size)))
          have HQ4 := Lib.hid (HQ3.out.set p1 p2 p3 p4 (.slice pv p5.length cv))
          have HP4 : Hid (R5 (st5 wv wb.heap.size p1 p2 p3 p4 (.slice pv p5.length cv)) wa.heap.size p1 p2 p3 p4 (.slice pt p5.length ct)) := (st5_other _ _ _ _ _ (by omega)).trans HP3.out
          have HN4 := Lib.hid (((HN2.out.next hb)).st5 HQ.out.lt p1 p2 p3 p4 (.slice pv p5.length cv))
          have HV4 := Lib.hid ((hu.mono hs2).st5 HQ.out.lt p1 p2 p3 p4 (.slice pv p5.length cv))
          clear hu hb
          have s0 := HQ4.out.c0
          have s1 := HQ4.out.c1
          have s2 := HQ4.out.c2
          have s3 := HQ4.out.c3
          have s4 := HQ4.out.c4
          have v0 := HP4.out.c0
          have v1 := HP4.out.c1
          have v2 := HP4.out.c2
          have v3 := HP4.out.c3
          have v4 := HP4.out.c4
          go_upto_region 14 with fail
          go_cut [102] (fun t' wy => t' = .bool false ∧ Below w.heap.size w wy ∧ R5 wy wa.heap.size p1 p2 p3 p4 (.slice pt p5.length ct) ∧ R5 wy wb.heap.size p1 p2 p3 p4 (.slice pv p5.length cv))
          case first =>
              clear HP HQ HB HP1 HP2 HP3 HQ2 HQ3 HB1 HN2 HM1 HM2 HS3 HT1 HT2 HU HN HM HAw HW0 hs2 hsz hszv hge9 hlt9 hgeb hj1 hj2 k1 k2 k3 hm5 hcap hcap2 hqc hqc2 y0 y1 y2 y3 y4 yf0 yf1 yf2 yf3 yf4 x0 x1 x2 x3 x4 xf0 xf1 xf2 xf3 xf4
              go_wp2_with (first
      | (go_at_call 8; (with_reducible refine (HS2.out _ _ _ HN4.out.rd HV4.out.rd).mono ?_); rintro e wz ⟨rfl, hb⟩; have HB5 := Lib.hid (HB3.out.trans (hb.mono HB3.out.size)); have HP5 := Lib.hid (HP4.out.next hb); have HQ5 := Lib.hid (HQ4.out.next hb); clear hb)
      | fail)
              go_meet
              case rel => exact ⟨rfl, HB5.out, HP5.out, HQ5.out⟩
          case rest =>
            obtain ⟨rfl, hB, hP, hQ⟩ := hcut
            clear HP HQ HB HP1 HP2 HP3 HP4 HQ2 HQ3 HQ4 HB1 HB3 HN2 HN4 HV4 hs2 hsz hszv HS2 HT1 HT2 y0 y1 y2 y3 y4 yf0 yf1 yf2 yf3 yf4 x0 x1 x2 x3 x4 xf0 xf1 xf2 xf3 xf4 s0 s1 s2 s3 s4 v0 v1 v2 v3 v4
            have HP := Lib.hid hP
            have HQ := Lib.hid hQ
            have HB := Lib.hid hB
            clear hB hP hQ
            obtain ⟨wx, hwx⟩ : ∃ wx, wx = wc := ⟨_, rfl⟩
            subst hwx
            go_upto_region 18 with fail
            go_at_call 13
            (with_reducible refine (HM1.out _ (by with_unfolding_all exact HM.out.next HB.out)).mono ?_)
            rintro e wt ⟨ut, rfl, hu, hb⟩
            obtain ⟨pt, ct, hpt, _, _⟩ := hu.form
            have hqt : ut = .slice pt r5.length ct := hpt
            subst hqt
            clear hpt
            have hsz := hb.size
            have HP1 := Lib.hid (HP.out.next hb)
            have y0 := HP1.out.c0
            have y1 := HP1.out.c1
            have y2 := HP1.out.c2
            have y3 := HP1.out.c3
            have y4 := HP1.out.c4
            have yf0 := HP1.out.fr 0
            have yf1 := HP1.out.fr 1
            have yf2 := HP1.out.fr 2
            have yf3 := HP1.out.fr 3
            have yf4 := HP1.out.fr 4
            have HB1 := Lib.hid (st5_below r1 r2 r3 r4 (.slice pt r5.length ct) hge9 (HB.out.trans (hb.mono HB.out.size)))
            have HP2 := Lib.hid (HP1.out.set r1 r2 r3 r4 (.slice pt r5.length ct))
            have HQ2 : Hid (R5 (st5 wt wa.heap.size r1 r2 r3 r4 (.slice pt r5.length ct)) wb.heap.size _ _ _ _ _) := (st5_other _ _ _ _ _ (by omega)).trans (HQ.out.next hb)
            have HN2 := Lib.hid ((hu.mono (Nat.le_refl _)).st5 HP.out.lt r1 r2 r3 r4 (.slice pt r5.length ct))
            have hs2 : wx.heap.size ≤ (st5 wt wa.heap.size r1 r2 r3 r4 (.slice pt r5.length ct)).heap.size := Nat.le_trans hsz (Nat.le_of_eq (st5_size _ _ _ _ _ _ _).symm)
            clear hu hb
            go_upto_region 18 with fail
            go_at_call 14
            (with_reducible refine (HM2.out _ (by with_unfolding_all exact HM.out.next HB1.out)).mono ?_)
            rintro e wv ⟨uv, rfl, hu, hb⟩
            obtain ⟨pv, cv, hpv, _, _⟩ := hu.form
            have hqv : uv = .slice pv r5.length cv := hpv
            subst hqv
            clear hpv
            have hszv := hb.size
            have HQ3 := Lib.hid (HQ2.out.next hb)
            have x0 := HQ3.out.c0
            have x1 := HQ3.out.c1
            have x2 := HQ3.out.c2
            have x3 := HQ3.out.c3
            have x4 := HQ3.out.c4
            have xf0 := HQ3.out.fr 0
            have xf1 := HQ3.out.fr 1
            have xf2 := HQ3.out.fr 2
            have xf3 := HQ3.out.fr 3
            have xf4 := HQ3.out.fr 4
            have HP3 := Lib.hid (HP2.out.next hb)
            have HB3 := Lib.hid (st5_below r1 r2 r3 r4 (.slice pv r5.length cv) hgeb (HB1.out.trans (hb.mono HB1.out.size)))
            have HQ4 := Lib.hid (HQ3.out.set r1 r2 r3 r4 (.slice pv r5.length cv))
            have HP4 : Hid (R5 (st5 wv wb.heap.size r1 r2 r3 r4 (.slice pv r5.length cv)) wa.heap.size r1 r2 r3 r4 (.slice pt r5.length ct)) := (st5_other _ _ _ _ _ (by omega)).trans HP3.out
            have HN4 := Lib.hid (((HN2.out.next hb)).st5 HQ.out.lt r1 r2 r3 r4 (.slice pv r5.length cv))
            have HV4 := Lib.hid ((hu.mono hs2).st5 HQ.out.lt r1 r2 r3 r4 (.slice pv r5.length cv))
            clear hu hb
            have s0 := HQ4.out.c0
            have s1 := HQ4.out.c1
            have s2 := HQ4.out.c2
            have s3 := HQ4.out.c3
            have s4 := HQ4.out.c4
            have v0 := HP4.out.c0
            have v1 := HP4.out.c1
            have v2 := HP4.out.c2
            have v3 := HP4.out.c3
            have v4 := HP4.out.c4
            go_upto_region 18 with fail
            go_wp2_with (first
      | (go_at_call 8; (with_reducible refine (HS3.out _ _ _ HN4.out.rd HV4.out.rd).mono ?_); rintro e wz ⟨rfl, hb⟩; have HB5 := Lib.hid (HB3.out.trans (hb.mono HB3.out.size)); have HP5 := Lib.hid (HP4.out.next hb); have HQ5 := Lib.hid (HQ4.out.next hb); clear hb)
      | (go_at_call 5; (with_reducible refine (HAw.out _ (HW0.out.next HB5.out)).mono ?_); rintro e w9 ⟨rfl, hb⟩; have HB6 := Lib.hid (HB5.out.trans (hb.mono HB5.out.size)); clear hb)
      | fail)
            go_ret
            exact ⟨rfl, HB6.out⟩
end Go.Proofs.YtdbampgbbghfkaaDoor
