/- The law ArraysReads. -/
import Derived.Test.YtnoljljagfpogaaDoorArR0
import Derived.Test.YtnoljljagfpogaaDoorArS6
import Derived.BigQuiet
namespace Go.Proofs.YtnoljljagfpogaaDoor
open Go.RowKit

/-- What the loops of the law keep. -/
structure KRd (w : World) (u v : Value) (L : List (List Int)) (W : World) : Prop where
  bel : Below w.heap.size w W
  lay : Ru.Lay W
  r1 : RdM W.heap.size W u L
  r2 : RdM W.heap.size W v L
theorem KRd.next {w W W' : World} {u v : Value} {L : List (List Int)} (h : KRd w u v L W) (hb : Below W.heap.size W W') : KRd w u v L W' :=
  ⟨h.bel.trans (hb.mono h.bel.size), h.lay.next hb, h.r1.next hb, h.r2.next hb⟩
set_option maxRecDepth 100000 in
set_option maxHeartbeats 16000000 in
theorem lawReads_any (A : Ar) (u : Value) (w : World) (hw : Ru.Lay w) (hv : RdI w.heap.size w u A.z) (hn : Ru.NilC u) :
    Calls Tryd.prog 4 #[A5 A.k A.r A.a A.b u] w fun e w' => e = .returned (.bool true) ∧ Below w.heap.size w w' := by
  have HFar := Lib.hid (fun W h => far_any A u W h)
  have HAw := Lib.hid (fun W h => awake_any W h)
  have HK : Hid (KLs w [⟨w.heap.size, A, u⟩] [] (w.alloc (.cells #[.int .i64 A.k, .int .i64 A.r, .int .i64 A.a, .int .i64 A.b, u] 27))) := (KLs.start w hw).push A hv
  have HN := Lib.hid hn
  obtain ⟨t, cap, rfl, hcap, hcap2, hcell⟩ := hv
  clear hcell hw hn
  have x0 := (HK.out.a _ (.head _)).c0
  have x1 := (HK.out.a _ (.head _)).c1
  have x2 := (HK.out.a _ (.head _)).c2
  have x3 := (HK.out.a _ (.head _)).c3
  have x4 := (HK.out.a _ (.head _)).c4
  by_cases hf : 500 < A.z.length
  · rw [decide_eq_true hf] at HFar
    clear hf
    go_enter Tryd.func4, Tryd.ntmps4
    go_wp2_with (first
      | (go_at_call 24; (with_reducible refine (HFar.out _ (by with_unfolding_all exact HK.out.r _ (.head _))).mono ?_); rintro e wz ⟨rfl, hb⟩; have HK2 := Lib.hid (HK.out.next hb); clear HK x0 x1 x2 x3 x4; have HK := HK2; clear HK2; clear hb; have x0 := (HK.out.a _ (.head _)).c0; have x1 := (HK.out.a _ (.head _)).c1; have x2 := (HK.out.a _ (.head _)).c2; have x3 := (HK.out.a _ (.head _)).c3; have x4 := (HK.out.a _ (.head _)).c4)
      | (go_at_call 14; (with_reducible refine (HAw.out _ HK.out.lay).mono ?_); rintro e wz ⟨rfl, hb⟩; have HK2 := Lib.hid (HK.out.next hb); clear HK x0 x1 x2 x3 x4; have HK := HK2; clear HK2; clear hb; have x0 := (HK.out.a _ (.head _)).c0; have x1 := (HK.out.a _ (.head _)).c1; have x2 := (HK.out.a _ (.head _)).c2; have x3 := (HK.out.a _ (.head _)).c3; have x4 := (HK.out.a _ (.head _)).c4))
    go_ret
    exact ⟨rfl, HK.out.bel⟩
  · rw [decide_eq_false hf] at HFar
    have HS1 := Lib.hid (fun v W h1 h2 => string_any A v W h1 h2 (by omega))
    have HS2 := Lib.hid (fun v W h2 => rstring_any A v W h2 (by omega))
    have HR1 := Lib.hid (fun v W h1 h2 h3 => rows_code A v W h1 h2 h3 (by omega))
    have HR2 := Lib.hid (fun v W h2 h3 => rrows6_any A v W h2 h3 (by omega))
    have HLen : Hid ((rwL A).length ≤ 1000000) := by
      unfold Hid
      by_cases hk : ck A = 0
      · rw [rwL_len hk]; have := (rw_good (ck_good hk)).2.2.2.1; omega
      · rw [show rwL A = [] from if_neg hk]; simp
    generalize (⟨(sgV A).toArray⟩ : ByteArray) = s at HS1 HS2
    generalize sgE A = E at HS1 HS2
    generalize ck A = F at HR1 HR2
    generalize rwL A = L at HR1 HR2 HLen
    clear hf
    go_enter Tryd.func4, Tryd.ntmps4
    go_wp2_with (first
      | (go_at_call 24; (with_reducible refine (HFar.out _ (by with_unfolding_all exact HK.out.r _ (.head _))).mono ?_); rintro e wz ⟨rfl, hb⟩; have HK2 := Lib.hid (HK.out.next hb); clear HK x0 x1 x2 x3 x4; have HK := HK2; clear HK2; clear hb; have x0 := (HK.out.a _ (.head _)).c0; have x1 := (HK.out.a _ (.head _)).c1; have x2 := (HK.out.a _ (.head _)).c2; have x3 := (HK.out.a _ (.head _)).c3; have x4 := (HK.out.a _ (.head _)).c4)
      | (go_at_call 25; (with_reducible refine (HS1.out _ _ HK.out.lay (by with_unfolding_all exact HK.out.r _ (.head _))).mono ?_); rintro e wz ⟨rfl, hb⟩; have HK2 := Lib.hid (HK.out.next hb); clear HK x0 x1 x2 x3 x4; have HK := HK2; clear HK2; clear hb; have x0 := (HK.out.a _ (.head _)).c0; have x1 := (HK.out.a _ (.head _)).c1; have x2 := (HK.out.a _ (.head _)).c2; have x3 := (HK.out.a _ (.head _)).c3; have x4 := (HK.out.a _ (.head _)).c4)
      | (go_at_call 26; (with_reducible refine (HS2.out _ _ (by with_unfolding_all exact HK.out.r _ (.head _))).mono ?_); rintro e wz ⟨rfl, hb⟩; have HK2 := Lib.hid (HK.out.next hb); clear HK x0 x1 x2 x3 x4; have HK := HK2; clear HK2; clear hb; have x0 := (HK.out.a _ (.head _)).c0; have x1 := (HK.out.a _ (.head _)).c1; have x2 := (HK.out.a _ (.head _)).c2; have x3 := (HK.out.a _ (.head _)).c3; have x4 := (HK.out.a _ (.head _)).c4)
      | (go_at_call 27; (with_reducible refine (HR1.out _ _ HK.out.lay (by with_unfolding_all exact HK.out.r _ (.head _)) HN.out).mono ?_); rintro e wp ⟨up, rfl, hu, hb⟩; obtain ⟨ap, cp, hq, hx1, _⟩ := id hu; have hq2 : up = .slice ap L.length cp := hq; subst hq2; clear hq hx1; have HUp := Lib.hid hu; have HK2 := Lib.hid (HK.out.next hb); clear HK hu hb x0 x1 x2 x3 x4; have HK := HK2; clear HK2; have x0 := (HK.out.a _ (.head _)).c0; have x1 := (HK.out.a _ (.head _)).c1; have x2 := (HK.out.a _ (.head _)).c2; have x3 := (HK.out.a _ (.head _)).c3; have x4 := (HK.out.a _ (.head _)).c4)
      | (go_at_call 28; (with_reducible refine (HR2.out _ _ (by with_unfolding_all exact HK.out.r _ (.head _)) HN.out).mono ?_); rintro e wq ⟨uq, rfl, hu, hb⟩; have HUpn := Lib.hid (HUp.out.next hb); clear HUp; have HUp := HUpn; clear HUpn; obtain ⟨aq, cq, hq, hx1, _⟩ := id hu; have hq2 : uq = .slice aq L.length cq := hq; subst hq2; clear hq hx1; have HUq := Lib.hid hu; have HK2 := Lib.hid (HK.out.next hb); clear HK hu hb x0 x1 x2 x3 x4; have HK := HK2; clear HK2; have x0 := (HK.out.a _ (.head _)).c0; have x1 := (HK.out.a _ (.head _)).c1; have x2 := (HK.out.a _ (.head _)).c2; have x3 := (HK.out.a _ (.head _)).c3; have x4 := (HK.out.a _ (.head _)).c4))
    have HC0 : Hid (KRd w (.slice ap L.length cp) (.slice aq L.length cq) L wq) := ⟨HK.out.bel, HK.out.lay, HUp.out, HUq.out⟩
    clear HK HUp HUq HS1 HS2 HR1 HR2 HFar HN x0 x1 x2 x3 x4
    have hlen := HLen.out
    go_loopg [11] L.length (fun gk s wr => ∃ i : Nat, i + gk = L.length ∧ s = .int .i64 i ∧ KRd w (.slice ap L.length cp) (.slice aq L.length cq) L wr)
    case atStart => exact ⟨0, by omega, rfl, HC0.out⟩
    case round =>
      obtain ⟨i, hig, rfl, hk⟩ := hrel
      have HV := Lib.hid hk
      clear hk HC0
      cases gk with
      | zero =>
        have hiz : ¬ ((i : Int) < (L.length : Int)) := by omega
        go_wp2_with (go_at_call 14; (with_reducible refine (HAw.out _ HV.out.lay).mono ?_); rintro e wz ⟨rfl, hb⟩; have HB := Lib.hid (HV.out.next hb).bel; clear hb)
        go_ret
        exact ⟨rfl, HB.out⟩
      | succ g2 =>
        have hiz : (i : Int) < (L.length : Int) := by omega
        have hi : i < L.length := by omega
        have hne : L ≠ [] := by intro e; rw [e] at hi; simp at hi
        obtain ⟨b1, o1, rfl, hb1, hc1⟩ := HV.out.r1.cells hne
        obtain ⟨b2, o2, rfl, hb2, hc2⟩ := HV.out.r2.cells hne
        obtain ⟨v1, y1, hr1, _⟩ := hc1 i hi
        obtain ⟨v2, y2, hr2, _⟩ := hc2 i hi
        clear hc1 hc2 hne
        generalize L[i] = l at hr1 hr2
        have HA1 := Lib.hid hr1
        have HA2 := Lib.hid hr2
        obtain ⟨p1, d1, rfl, _, _, _⟩ := hr1
        obtain ⟨p2, d2, rfl, _, hll, _⟩ := hr2
        have hl6 : (l.length : Int) ≤ 9223372036854775807 := by omega
        clear hll
        have hwi : IntKind.i64.wrap ((i : Int) + 1) = (i : Int) + 1 := by rw [IntKind.wrap_i64]; omega
        go_wp2_with fail
        go_quiet (fail)
        have HV2 := Lib.hid (HV.out.next (drewN_below _ nq))
        have HA1n := Lib.hid (HA1.out.next (drewN_below _ nq))
        have HA2n := Lib.hid (HA2.out.next (drewN_below _ nq))
        have y1n : (World.drewN wr nq).cell? ⟨b1, o1 + i, none⟩ = _ := y1
        have y2n : (World.drewN wr nq).cell? ⟨b2, o2 + i, none⟩ = _ := y2
        generalize World.drewN wr nq = wa at HV2 HA1n HA2n y1n y2n ⊢
        clear HV HA1 HA2 y1 y2
        go_wp2_with fail
        go_loopg [12] l.length (fun gk s wr => ∃ k : Nat, k + gk = l.length ∧ s = .int .i64 k ∧ KRd w (.slice (some ⟨b1, o1, none⟩) L.length cp) (.slice (some ⟨b2, o2, none⟩) L.length cq) L wr ∧ Below wa.heap.size wa wr)
        case atStart => exact ⟨0, by omega, rfl, HV2.out, Below.refl _ _⟩
        case round =>
          obtain ⟨k, hkg, rfl, hk, hbl⟩ := hrel
          have HI := Lib.hid hk
          have z1 := (hbl.cell (p := ⟨b1, o1 + i, none⟩) (Go.block_lt_of_cell y1n)).trans y1n
          have z2 := (hbl.cell (p := ⟨b2, o2 + i, none⟩) (Go.block_lt_of_cell y2n)).trans y2n
          have HB := Lib.hid hbl
          clear hk HV2 hbl
          cases gk with
          | zero =>
            have hkz : ¬ ((k : Int) < (l.length : Int)) := by omega
            go_wp2
            go_roundg g2
            case measure => omega
            case rel => exact ⟨i + 1, by omega, by go_num, HI.out⟩
          | succ g3 =>
            have hkz : (k : Int) < (l.length : Int) := by omega
            have hk : k < l.length := by omega
            have hne : l ≠ [] := by intro e; rw [e] at hk; simp at hk
            obtain ⟨b3, o3, rfl, _, hc3⟩ := (HA1n.out.next HB.out).cells hne
            obtain ⟨b4, o4, rfl, _, hc4⟩ := (HA2n.out.next HB.out).cells hne
            have m1 := hc3 k hk
            have m2 := hc4 k hk
            generalize l[k] = c at m1 m2
            have hwk : IntKind.i64.wrap ((k : Int) + 1) = (k : Int) + 1 := by rw [IntKind.wrap_i64]; omega
            clear hc3 hc4 hne
            go_wp2_with fail
            go_quiet (fail)
            have HI2 := Lib.hid (HI.out.next (drewN_below _ nq))
            go_wp2_with fail
            go_roundg g3
            case measure => omega
            case rel => exact ⟨k + 1, by omega, by go_num, HI2.out, HB.out.trans ((drewN_below _ _).mono HB.out.size)⟩
end Go.Proofs.YtnoljljagfpogaaDoor
