/- Decode of runes. -/
import Derived.Test.YtomffjaeafcpdaaDoorRuH
namespace Go.Proofs.YtomffjaeafcpdaaDoor
open Go.RowKit

set_option maxRecDepth 100000
/-- Decode at a place. -/
def decI (l : List UInt8) (k : Int) : Nat × Nat × Nat := if k < 0 ∨ (l.length : Int) ≤ k then (0, 0, 7) else dec (l.drop k.toNat)
def tup3 (p : Nat × Nat × Nat) : Value := .tuple #[.int .i64 (p.1 : Int), .int .i64 (p.2.1 : Int), .int .i64 (p.2.2 : Int)]

set_option maxHeartbeats 1000000 in
theorem decode_out (l : List UInt8) (v : Value) (k : Int) (w : World) (hv : RdB w.heap.size w v l) (hk : k < 0 ∨ (l.length : Int) ≤ k) :
    Calls Tryd.prog 7 #[v, .int .i64 k] w fun e w' => e = .returned (.tuple #[.int .i64 0, .int .i64 0, .int .i64 7]) ∧ w = w' := by
  obtain ⟨a, cap, rfl, _, _, _⟩ := hv
  rcases hk with hk | hk
  · go_enter Tryd.func7, Tryd.ntmps7
    go_wp2
    go_ret3
    exact ⟨rfl, rfl⟩
  · by_cases h0 : k < 0
    · go_enter Tryd.func7, Tryd.ntmps7
      go_wp2
      go_ret3
      exact ⟨rfl, rfl⟩
    · go_enter Tryd.func7, Tryd.ntmps7
      go_wp2
      go_ret3
      exact ⟨rfl, rfl⟩

set_option maxHeartbeats 4000000 in
theorem decode_in_ok (n b off cap k R K : Nat) (w : World) (hk : k < n) (hcap : n ≤ cap) (hR : R ≤ 1114111) (h33 : R = 65533 → 1 < K)
    (cD : Calls Tryd.prog 29 #[.slice (some ⟨b, off + k, none⟩) (n - k) (cap - k)] w fun e w' => e = .returned (.tuple #[.int .i32 R, .int .i64 K]) ∧ Below w.heap.size w w') :
    Calls Tryd.prog 7 #[.slice (some ⟨b, off, none⟩) n cap, .int .i64 (k : Int)] w fun e w' => e = .returned (.tuple #[.int .i64 (R : Int), .int .i64 (K : Int), .int .i64 0]) ∧ Below w.heap.size w w' := by
  have h0 : ¬ (k : Int) < 0 := by omega
  have h1 : ¬ (n : Int) ≤ (k : Int) := by omega
  have H := Lib.hid cD
  clear cD
  by_cases hq : R = 65533
  · have h34 : (1 : Int) < (K : Int) := by have := h33 hq; omega
    subst hq
    clear h33
    go_enter Tryd.func7, Tryd.ntmps7
    go_wp2_with (go_at_call 29; refine H.out.mono ?_; rintro e w' ⟨rfl, hb⟩)
    go_ret3
    exact ⟨rfl, hb⟩
  · have h35 : ((R : Int) != 65533) = true := by rw [bne_iff_ne]; omega
    clear h33
    go_enter Tryd.func7, Tryd.ntmps7
    go_wp2_with (go_at_call 29; refine H.out.mono ?_; rintro e w' ⟨rfl, hb⟩)
    go_ret3
    exact ⟨rfl, hb⟩

set_option maxHeartbeats 4000000 in
theorem decode_in_no (n b off cap k : Nat) (f : Bool) (w : World) (hk : k < n) (hcap : n ≤ cap)
    (cD : Calls Tryd.prog 29 #[.slice (some ⟨b, off + k, none⟩) (n - k) (cap - k)] w fun e w' => e = .returned (.tuple #[.int .i32 65533, .int .i64 1]) ∧ Below w.heap.size w w')
    (cF : ∀ w1, Below w.heap.size w w1 → Calls Tryd.prog 30 #[.slice (some ⟨b, off + k, none⟩) (n - k) (cap - k)] w1 fun e w' => e = .returned (.bool f) ∧ Below w1.heap.size w1 w') :
    Calls Tryd.prog 7 #[.slice (some ⟨b, off, none⟩) n cap, .int .i64 (k : Int)] w fun e w' => e = .returned (.tuple #[.int .i64 0, .int .i64 0, .int .i64 (if f = true then 6 else 370)]) ∧ Below w.heap.size w w' := by
  have h0 : ¬ (k : Int) < 0 := by omega
  have h1 : ¬ (n : Int) ≤ (k : Int) := by omega
  have H := Lib.hid cD
  have HF := Lib.hid cF
  clear cD cF
  cases f
  · go_enter Tryd.func7, Tryd.ntmps7
    go_wp2_with (first
      | (go_at_call 29; refine H.out.mono ?_; rintro e w' ⟨rfl, hb⟩)
      | (go_at_call 30; refine (HF.out _ hb).mono ?_; rintro e w2 ⟨rfl, hb2⟩))
    go_ret3
    exact ⟨rfl, hb.trans (hb2.mono hb.size)⟩
  · go_enter Tryd.func7, Tryd.ntmps7
    go_wp2_with (first
      | (go_at_call 29; refine H.out.mono ?_; rintro e w' ⟨rfl, hb⟩)
      | (go_at_call 30; refine (HF.out _ hb).mono ?_; rintro e w2 ⟨rfl, hb2⟩))
    go_ret3
    exact ⟨rfl, hb.trans (hb2.mono hb.size)⟩

/-- **Decode, at every bytes and every place.** -/
theorem decode_any (l : List UInt8) (v : Value) (k : Int) (w : World) (hw : Lay w) (hv : RdB w.heap.size w v l) :
    Calls Tryd.prog 7 #[v, .int .i64 k] w fun e w' => e = .returned (tup3 (decI l k)) ∧ Below w.heap.size w w' := by
  unfold decI
  by_cases hk : k < 0 ∨ (l.length : Int) ≤ k
  · rw [if_pos hk]
    refine (decode_out l v k w hv hk).mono ?_
    rintro e w' ⟨rfl, rfl⟩
    exact ⟨rfl, Below.refl _ _⟩
  · rw [if_neg hk]
    obtain ⟨m, rfl⟩ : ∃ m : Nat, k = m := ⟨k.toNat, by omega⟩
    have hm : m < l.length := by omega
    obtain ⟨a, cap, rfl, hcap, _, hcell⟩ := hv
    obtain ⟨b, off, rfl, hb, hc⟩ := hcell (by intro e; rw [e] at hm; simp at hm)
    have hlen : (l.drop m).length = l.length - m := by simp
    have hne : l.drop m ≠ [] := by intro e; have := congrArg List.length e; simp at this; omega
    have hcd : ∀ j (h : j < (l.drop m).length), w.cell? ⟨b, off + m + j, none⟩ = some (.int .u8 ((l.drop m)[j].toNat : Int)) := by
      intro j h
      have := hc (m + j) (by rw [hlen] at h; omega)
      rw [Nat.add_assoc, this]; simp
    have cD := decR_any b (off + m) (cap - m) (l.drop m) w hw hne hcd
    rw [hlen] at cD
    show Calls _ _ _ _ fun e w' => e = .returned (tup3 (dec (l.drop m))) ∧ _
    by_cases hd : (dec (l.drop m)).2.2 = 0
    · obtain ⟨e1, e2⟩ := dec_ok (l.drop m) hd
      rw [hlen] at e1
      rw [e1] at cD
      have hR := (dec_b (l.drop m)).1
      refine (decode_in_ok l.length b off cap m _ _ w hm hcap hR e2 cD).mono ?_
      rintro e w' ⟨rfl, hb⟩
      exact ⟨by unfold tup3; rw [hd]; rfl, hb⟩
    · obtain ⟨e1, e2⟩ := dec_no (l.drop m) hne hd
      rw [hlen] at e1
      rw [e1] at cD
      have cF : ∀ w1, Below w.heap.size w w1 → Calls Tryd.prog 30 #[.slice (some ⟨b, off + m, none⟩) (l.length - m) (cap - m)] w1 fun e w' => e = .returned (.bool (fullT (l.length - m) (gb (l.drop m) 0) (gb (l.drop m) 1) (gb (l.drop m) 2))) ∧ Below w1.heap.size w1 w' := by
        intro w1 hb1
        have := full_any b (off + m) (cap - m) (l.drop m) w1 (hw.next hb1) (Nat.lt_of_lt_of_le hb hb1.size) hne (fun j h => (hb1.cell (p := ⟨b, off + m + j, none⟩) hb).trans (hcd j h))
        rw [hlen] at this
        exact this
      rw [hlen] at e2
      refine (decode_in_no l.length b off cap m _ w hm hcap cD cF).mono ?_
      rintro e w' ⟨rfl, hb⟩
      refine ⟨?_, hb⟩
      rcases e2 with ⟨e2, e3⟩ | ⟨e2, e3⟩
      · rw [e2, e3]; rfl
      · rw [e2, e3]; rfl
end Go.Proofs.YtomffjaeafcpdaaDoor
