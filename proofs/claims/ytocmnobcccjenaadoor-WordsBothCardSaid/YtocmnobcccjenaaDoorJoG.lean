/- The law WordsBoth as a walk. -/
import Derived.Test.YtocmnobcccjenaaDoorJoF
namespace Go.Proofs.YtocmnobcccjenaaDoor
open Go.RowKit

set_option maxRecDepth 100000 in
set_option maxHeartbeats 8000000 in
theorem lawBoth_f1 (v u : Value) (l m : List Fd) (w : World) (hw : Lay w) (hv : FldB w.heap.size w v l) (hu : FldB w.heap.size w u m) (e1 : farB l = true) :
    Calls Tryd.prog 4 #[v, u] w fun e w' => e = .returned (.bool true) ∧ Below w.heap.size w w' := by
  have HV := Lib.hid hv
  have HU := Lib.hid hu
  have HW := Lib.hid hw
  obtain ⟨a, ca, rfl, hca, h⟩ := hv
  clear h
  obtain ⟨b, cb, rfl, hcb, h⟩ := hu
  clear h hw
  go_enter Tryd.func4, Tryd.ntmps4
  go_wp2_with (first | (go_at_call 6; refine (shown_any _ HW1.out).mono ?_; rintro e w9 ⟨rfl, hb9⟩) | (go_at_call 5; refine (far_any _ l _ HV.out).mono ?_; rw [e1]; rintro e w1 ⟨rfl, hb1⟩; have HB1 := Lib.hid hb1; have HW1 := Lib.hid (HW.out.next hb1); have HU1 := Lib.hid (HU.out.next hb1); have HV1 := Lib.hid (HV.out.next hb1); clear hb1))
  go_ret
  exact ⟨rfl, HB1.out.trans (hb9.mono HB1.out.size)⟩

set_option maxRecDepth 100000 in
set_option maxHeartbeats 8000000 in
theorem lawBoth_f2 (v u : Value) (l m : List Fd) (w : World) (hw : Lay w) (hv : FldB w.heap.size w v l) (hu : FldB w.heap.size w u m) (e1 : farB l = false) (e2 : farB m = true) :
    Calls Tryd.prog 4 #[v, u] w fun e w' => e = .returned (.bool true) ∧ Below w.heap.size w w' := by
  have HV := Lib.hid hv
  have HU := Lib.hid hu
  have HW := Lib.hid hw
  obtain ⟨a, ca, rfl, hca, h⟩ := hv
  clear h
  obtain ⟨b, cb, rfl, hcb, h⟩ := hu
  clear h hw
  go_enter Tryd.func4, Tryd.ntmps4
  go_wp2_with (first | (go_at_call 6; refine (shown_any _ HW2.out).mono ?_; rintro e w9 ⟨rfl, hb9⟩) | (go_at_call 5; refine (far_any _ m _ HU1.out).mono ?_; rw [e2]; rintro e w2 ⟨rfl, hb2⟩; have HB2 := Lib.hid (HB1.out.trans (hb2.mono HB1.out.size)); have HW2 := Lib.hid (HW1.out.next hb2); have HU2 := Lib.hid (HU1.out.next hb2); have HV2 := Lib.hid (HV1.out.next hb2); clear hb2) | (go_at_call 5; refine (far_any _ l _ HV.out).mono ?_; rw [e1]; rintro e w1 ⟨rfl, hb1⟩; have HB1 := Lib.hid hb1; have HW1 := Lib.hid (HW.out.next hb1); have HU1 := Lib.hid (HU.out.next hb1); have HV1 := Lib.hid (HV.out.next hb1); clear hb1))
  go_ret
  exact ⟨rfl, HB2.out.trans (hb9.mono HB2.out.size)⟩

set_option maxRecDepth 100000 in
set_option maxHeartbeats 8000000 in
theorem lawBoth_n1 (v u : Value) (l m : List Fd) (w : World) (hw : Lay w) (hv : FldB w.heap.size w v l) (hu : FldB w.heap.size w u m) (e1 : farB l = false) (e2 : farB m = false) (h0 : ((l.length : Int) == 0) = true) :
    Calls Tryd.prog 4 #[v, u] w fun e w' => e = .returned (.bool true) ∧ Below w.heap.size w w' := by
  have HV := Lib.hid hv
  have HU := Lib.hid hu
  have HW := Lib.hid hw
  obtain ⟨a, ca, rfl, hca, h⟩ := hv
  clear h
  obtain ⟨b, cb, rfl, hcb, h⟩ := hu
  clear h hw
  go_enter Tryd.func4, Tryd.ntmps4
  go_wp2_with (first | (go_at_call 6; refine (shown_any _ HW2.out).mono ?_; rintro e w9 ⟨rfl, hb9⟩) | (go_at_call 5; refine (far_any _ m _ HU1.out).mono ?_; rw [e2]; rintro e w2 ⟨rfl, hb2⟩; have HB2 := Lib.hid (HB1.out.trans (hb2.mono HB1.out.size)); have HW2 := Lib.hid (HW1.out.next hb2); have HU2 := Lib.hid (HU1.out.next hb2); have HV2 := Lib.hid (HV1.out.next hb2); clear hb2) | (go_at_call 5; refine (far_any _ l _ HV.out).mono ?_; rw [e1]; rintro e w1 ⟨rfl, hb1⟩; have HB1 := Lib.hid hb1; have HW1 := Lib.hid (HW.out.next hb1); have HU1 := Lib.hid (HU.out.next hb1); have HV1 := Lib.hid (HV.out.next hb1); clear hb1))
  go_ret
  exact ⟨rfl, HB2.out.trans (hb9.mono HB2.out.size)⟩

set_option maxRecDepth 100000 in
set_option maxHeartbeats 8000000 in
theorem lawBoth_n2 (v u : Value) (l m : List Fd) (w : World) (hw : Lay w) (hv : FldB w.heap.size w v l) (hu : FldB w.heap.size w u m) (e1 : farB l = false) (e2 : farB m = false) (h0 : ((l.length : Int) == 0) = false) (h1 : ((m.length : Int) == 0) = true) :
    Calls Tryd.prog 4 #[v, u] w fun e w' => e = .returned (.bool true) ∧ Below w.heap.size w w' := by
  have HV := Lib.hid hv
  have HU := Lib.hid hu
  have HW := Lib.hid hw
  obtain ⟨a, ca, rfl, hca, h⟩ := hv
  clear h
  obtain ⟨b, cb, rfl, hcb, h⟩ := hu
  clear h hw
  go_enter Tryd.func4, Tryd.ntmps4
  go_wp2_with (first | (go_at_call 6; refine (shown_any _ HW2.out).mono ?_; rintro e w9 ⟨rfl, hb9⟩) | (go_at_call 5; refine (far_any _ m _ HU1.out).mono ?_; rw [e2]; rintro e w2 ⟨rfl, hb2⟩; have HB2 := Lib.hid (HB1.out.trans (hb2.mono HB1.out.size)); have HW2 := Lib.hid (HW1.out.next hb2); have HU2 := Lib.hid (HU1.out.next hb2); have HV2 := Lib.hid (HV1.out.next hb2); clear hb2) | (go_at_call 5; refine (far_any _ l _ HV.out).mono ?_; rw [e1]; rintro e w1 ⟨rfl, hb1⟩; have HB1 := Lib.hid hb1; have HW1 := Lib.hid (HW.out.next hb1); have HU1 := Lib.hid (HU.out.next hb1); have HV1 := Lib.hid (HV.out.next hb1); clear hb1))
  go_ret
  exact ⟨rfl, HB2.out.trans (hb9.mono HB2.out.size)⟩

/-- What the three lines are. -/
def Bt (l m : List Fd) (A B C : ByteArray) (E1 E2 E3 : Int) : Prop :=
  ((E1 != 0) = true ∧ (E3 != 0) = true) ∨ (E1 = 0 ∧ (E2 != 0) = true ∧ (E3 != 0) = true) ∨
  (E1 = 0 ∧ E2 = 0 ∧ (64 : Int) < (l.length : Int) + (m.length : Int) ∧ E3 = 3 ∧ C = ⟨#[]⟩) ∨
  (E1 = 0 ∧ E2 = 0 ∧ ¬ (64 : Int) < (l.length : Int) + (m.length : Int) ∧ ((8192 : Int) < (A.size : Int) + 1 + (B.size : Int) ∧ A.size ≤ 8192 ∧ B.size ≤ 8192) ∧ E3 = 3 ∧ C = ⟨#[]⟩) ∨
  (E1 = 0 ∧ E2 = 0 ∧ ¬ (64 : Int) < (l.length : Int) + (m.length : Int) ∧ ¬ (8192 : Int) < (A.size : Int) + 1 + (B.size : Int) ∧ E3 = 0 ∧ C = A ++ ⟨#[32]⟩ ++ B)
theorem bt_of {l m : List Fd} (hl : l ≠ []) (hm : m ≠ []) : Bt l m ⟨(jV l).toArray⟩ ⟨(jV m).toArray⟩ ⟨(jV (l ++ m)).toArray⟩ (jE l) (jE m) (jE (l ++ m)) := by
  have hs : ∀ x : List UInt8, (⟨x.toArray⟩ : ByteArray).size = x.length := fun _ => rfl
  unfold Bt
  by_cases h1 : jE l = 0
  · by_cases h2 : jE m = 0
    · have hv1 := jV_ok h1
      have hv2 := jV_ok h2
      by_cases h3 : 64 < l.length + m.length
      · obtain ⟨q1, q2⟩ := both_long hl hm h1 h2 (.inl h3)
        exact .inr (.inr (.inl ⟨h1, h2, by omega, q1, by rw [q2]⟩))
      · by_cases h4 : 8192 < (jL l).length + 1 + (jL m).length
        · obtain ⟨q1, q2⟩ := both_long hl hm h1 h2 (.inr h4)
          obtain ⟨_, _, l1⟩ := jE_zero.1 h1
          obtain ⟨_, _, l2⟩ := jE_zero.1 h2
          exact .inr (.inr (.inr (.inl ⟨h1, h2, by omega, by rw [hs, hs, hv1, hv2]; exact ⟨by omega, l1, l2⟩, q1, by rw [q2]⟩)))
        · obtain ⟨q1, q2⟩ := both_ok hl hm h1 h2 h3 h4
          refine .inr (.inr (.inr (.inr ⟨h1, h2, by omega, by rw [hs, hs, hv1, hv2]; omega, q1, ?_⟩)))
          rw [← mk_byt (⟨(jV l).toArray⟩ ++ ⟨#[32]⟩ ++ ⟨(jV m).toArray⟩), byt_app, byt_app, byt_mk, byt_mk, q2]
          rfl
    · exact .inr (.inl ⟨h1, by simpa using h2, by simpa using both_no hl hm (.inr h2)⟩)
  · exact .inl ⟨by simpa using h1, by simpa using both_no hl hm (.inl h1)⟩

set_option maxRecDepth 100000 in
set_option maxHeartbeats 8000000 in
theorem lawBoth_ok (v u : Value) (l m : List Fd) (w : World) (hw : Lay w) (hv : FldB w.heap.size w v l) (hu : FldB w.heap.size w u m) (e1 : farB l = false) (e2 : farB m = false) (hl : l ≠ []) (hm : m ≠ []) (nl : NilC v) (nm : NilC u) :
    Calls Tryd.prog 4 #[v, u] w fun e w' => e = .returned (.bool true) ∧ Below w.heap.size w w' := by
  have HV := Lib.hid hv
  have HU := Lib.hid hu
  have HW := Lib.hid hw
  obtain ⟨a, ca, rfl, hca, h⟩ := hv
  clear h
  obtain ⟨b, cb, rfl, hcb, h⟩ := hu
  clear h hw
  have h70 := far_no e1
  have h70m := far_no e2
  have h0 : ((l.length : Int) == 0) = false := by
    rw [beq_eq_false_iff_ne]; intro e; exact hl (List.eq_nil_of_length_eq_zero (by omega))
  have h1 : ((m.length : Int) == 0) = false := by
    rw [beq_eq_false_iff_ne]; intro e; exact hm (List.eq_nil_of_length_eq_zero (by omega))
  have hlen : (l ++ m).length = l.length + m.length := List.length_append
  have HBt := Lib.hid (bt_of hl hm)
  have HJ1 : Hid (∀ W, Lay W → FldB W.heap.size W (.slice a l.length ca) l → Calls Tryd.prog 7 #[.slice a l.length ca] W (fun e w' => e = .returned (.tuple #[.string ⟨(jV l).toArray⟩, .int .i64 (jE l)]) ∧ Below W.heap.size W w')) := fun W h h2 => join_any _ l W h h2 (by omega)
  have HJ2 : Hid (∀ W, Lay W → FldB W.heap.size W (.slice b m.length cb) m → Calls Tryd.prog 7 #[.slice b m.length cb] W (fun e w' => e = .returned (.tuple #[.string ⟨(jV m).toArray⟩, .int .i64 (jE m)]) ∧ Below W.heap.size W w')) := fun W h h2 => join_any _ m W h h2 (by omega)
  have HJ3 : Hid (∀ W v, Lay W → FldB W.heap.size W v (l ++ m) → Calls Tryd.prog 7 #[v] W (fun e w' => e = .returned (.tuple #[.string ⟨(jV (l ++ m)).toArray⟩, .int .i64 (jE (l ++ m))]) ∧ Below W.heap.size W w')) := fun W v h h2 => join_any _ _ W h h2 (by omega)
  generalize (⟨(jV l).toArray⟩ : ByteArray) = A at HBt HJ1
  generalize (⟨(jV m).toArray⟩ : ByteArray) = B at HBt HJ2
  generalize (⟨(jV (l ++ m)).toArray⟩ : ByteArray) = C at HBt HJ3
  generalize jE l = E1 at HBt HJ1
  generalize jE m = E2 at HBt HJ2
  generalize jE (l ++ m) = E3 at HBt HJ3
  clear hl hm hlen
  go_enter Tryd.func4, Tryd.ntmps4
  go_wp2_with (first | (go_at_call 5; refine (far_any _ m _ HU1.out).mono ?_; rw [e2]; rintro e w2 ⟨rfl, hb2⟩; have HB2 := Lib.hid (HB1.out.trans (hb2.mono HB1.out.size)); have HW2 := Lib.hid (HW1.out.next hb2); have HU2 := Lib.hid (HU1.out.next hb2); have HV2 := Lib.hid (HV1.out.next hb2); clear hb2) | (go_at_call 5; refine (far_any _ l _ HV.out).mono ?_; rw [e1]; rintro e w1 ⟨rfl, hb1⟩; have HB1 := Lib.hid hb1; have HW1 := Lib.hid (HW.out.next hb1); have HU1 := Lib.hid (HU.out.next hb1); have HV1 := Lib.hid (HV.out.next hb1); clear hb1))
  refine (HJ1.out _ HW2.out HV2.out).mono ?_
  rintro e w3 ⟨rfl, hb3⟩
  have HB3 := Lib.hid (HB2.out.trans (hb3.mono HB2.out.size))
  have HW3 := Lib.hid (HW2.out.next hb3)
  have HU3 := Lib.hid (HU2.out.next hb3)
  have HV3 := Lib.hid (HV2.out.next hb3)
  clear hb3 HB2 HW2 HU2 HV2 HB1 HW1 HU1 HV1
  go_wp2_with fail
  refine (HJ2.out _ HW3.out HU3.out).mono ?_
  rintro e w4 ⟨rfl, hb4⟩
  have HB4 := Lib.hid (HB3.out.trans (hb4.mono HB3.out.size))
  have HW4 := Lib.hid (HW3.out.next hb4)
  have HU4 := Lib.hid (HU3.out.next hb4)
  have HV4 := Lib.hid (HV3.out.next hb4)
  clear hb4 HB3 HW3 HU3 HV3
  have HOw : Hid (Fls (w4.alloc (.cells #[] 30)) w4.heap.size (.slice (some ⟨w4.heap.size, 0, none⟩) 0 0) []) := World.ownsRow_lit (e := 30) (size := 2) (base := w4.heap.size) w4 #[] 0 (Nat.le_refl _) (by decide) (by decide)
  go_wp2_with (first
    | (at_builtin; refine wpList_append_fs (by rfl) _ _ rfl w4.heap.size _ ([] ++ l) rfl hown5 _ m rfl _ (HU4.out.below hb5) nm (by simp; omega) hb5.size ?_; intro v6 w6 hown6 hgrow6; have hb6 := hb5.grown hgrow6 hb5.size (fun j e => (World.ownsRow.lt hown5 j e).1); have hrd6 := Fls.fld hown6; obtain ⟨na, nn, nc, rfl⟩ := own_slice hown6)
    | (at_builtin; refine wpList_append_fs (by rfl) _ _ rfl w4.heap.size _ [] rfl HOw.out _ l rfl _ (HV4.out.below (((Below.refl w4.heap.size w4).alloc (Nat.le_refl _) _))) nl (by simp; omega) (by simp) ?_; intro v5 w5 hown5 hgrow5; have hb5 : Below w4.heap.size w4 w5 := ((Below.refl w4.heap.size w4).alloc (Nat.le_refl _) _).grown hgrow5 (by simp) (fun j e => (World.ownsRow.lt HOw.out j e).1)))
  rw [List.nil_append] at hrd6
  refine (HJ3.out _ _ (HW4.out.next hb6) hrd6).mono ?_
  rintro e w7 ⟨rfl, hb7⟩
  have HB7 := Lib.hid ((HB4.out.trans (hb6.mono HB4.out.size)).trans (hb7.mono (Nat.le_trans HB4.out.size hb6.size)))
  have HW7 := Lib.hid ((HW4.out.next hb6).next hb7)
  clear hb7 hb6 hb5 hown5 hown6 hgrow5 hgrow6 hrd6 HOw HB4 HW4 HU4 HV4 HJ1 HJ2 HJ3
  rcases HBt.out with ⟨k1, k3⟩ | ⟨rfl, k2, k3⟩ | ⟨rfl, rfl, k4, rfl, rfl⟩ | ⟨rfl, rfl, k4, ⟨k5, k6, k7⟩, rfl, rfl⟩ | ⟨rfl, rfl, k4, k5, rfl, rfl⟩
  all_goals clear HBt
  all_goals go_wp2_with ((go_at_call 6; refine (shown_any _ HW7.out).mono ?_; rintro e w9 ⟨rfl, hb9⟩))
  all_goals go_ret
  all_goals exact ⟨rfl, HB7.out.trans (hb9.mono HB7.out.size)⟩

theorem lawBoth_any (v u : Value) (l m : List Fd) (w : World) (hw : Lay w) (hv : FldB w.heap.size w v l) (hu : FldB w.heap.size w u m) (nl : NilC v) (nm : NilC u) :
    Calls Tryd.prog 4 #[v, u] w fun e w' => e = .returned (.bool true) ∧ Below w.heap.size w w' := by
  cases e1 : farB l
  · cases e2 : farB m
    · cases h0 : ((l.length : Int) == 0)
      · cases h1 : ((m.length : Int) == 0)
        · exact lawBoth_ok v u l m w hw hv hu e1 e2 (by rintro rfl; simp at h0) (by rintro rfl; simp at h1) nl nm
        · exact lawBoth_n2 v u l m w hw hv hu e1 e2 h0 h1
      · exact lawBoth_n1 v u l m w hw hv hu e1 e2 h0
    · exact lawBoth_f2 v u l m w hw hv hu e1 e2
  · exact lawBoth_f1 v u l m w hw hv hu e1
end Go.Proofs.YtocmnobcccjenaaDoor
