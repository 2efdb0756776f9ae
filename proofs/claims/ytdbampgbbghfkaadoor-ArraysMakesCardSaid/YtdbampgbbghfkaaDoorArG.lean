/- The reference's Zero, Like, Same; Far. -/
import Derived.Test.YtdbampgbbghfkaaDoorArE
namespace Go.Proofs.YtdbampgbbghfkaaDoor
open Go.RowKit

theorem one_new (W : World) (n : Int) : RdN W.heap.size (W.alloc (.cells #[.int .i64 n] 2)) (.slice (some ⟨W.heap.size, 0, none⟩) 1 1) [n] := by
  refine ⟨_, 1, rfl, ⟨Nat.le_refl _, by omega, fun e => by cases e⟩, fun _ => ⟨W.heap.size, 0, rfl, ⟨Nat.le_refl _, by simp⟩, fun j hj => ?_⟩⟩
  simp at hj
  subst hj
  simp [World.cell?_alloc_new]

theorem one_at {W : World} {n : Int} {g B : Nat} (hg : W.heap.size = g) (hB : B ≤ g) : RdN B (W.alloc (.cells #[.int .i64 n] 2)) (.slice (some ⟨g, 0, none⟩) 1 1) [n] := by
  subst hg; exact (one_new W n).mono hB

theorem far_any (A : Ar) (v : Value) (w : World) (hv : RdI w.heap.size w v A.z) :
    Calls Tryd.prog 15 #[A5 A.k A.r A.a A.b v] w fun e w' => e = .returned (.bool (decide (500 < A.z.length))) ∧ Below w.heap.size w w' := by
  obtain ⟨k, r, a, b, z⟩ := A
  obtain ⟨p, cap, rfl, hcap, hcap2, hcell⟩ := hv
  simp only
  clear hcell
  go_enter Tryd.func15, Tryd.ntmps15
  go_wp2
  go_ret
  exact ⟨ret_bool (by rw [Bool.eq_iff_iff]; simp; omega), bel1 _ _⟩

def likeB (A B : Ar) : Bool := decide (A.k = B.k ∧ A.r = B.r ∧ A.a = B.a ∧ A.b = B.b)
def smB (A B : Ar) : Bool := likeB A B && decide (A.z = B.z)
theorem smB_self (A : Ar) : smB A A = true := by simp [smB, likeB]
theorem smB_eq {A B : Ar} : smB A B = true ↔ A = B := by
  obtain ⟨k, r, a, b, z⟩ := A
  obtain ⟨k', r', a', b', z'⟩ := B
  simp [smB, likeB, and_assoc]
/-- What a walk over two arrays keeps. -/
structure KD (w : World) (A : Ar) (v : Value) (B : Ar) (u : Value) (w' : World) : Prop where
  bel : Below w.heap.size w w'
  b0 : R5 w' w.heap.size A.k A.r A.a A.b v
  b1 : R5 w' (w.heap.size + 1) B.k B.r B.a B.b u
  rd0 : RdI w'.heap.size w' v A.z
  rd1 : RdI w'.heap.size w' u B.z
theorem KD.next {w w' w'' : World} {A B : Ar} {v u : Value} (h : KD w A v B u w') (hb : Below w'.heap.size w' w'') : KD w A v B u w'' :=
  ⟨h.bel.trans (hb.mono h.bel.size), h.b0.next hb, h.b1.next hb, h.rd0.next hb, h.rd1.next hb⟩
theorem KD.new {w : World} {A B : Ar} {v u : Value} (hv : RdI w.heap.size w v A.z) (hu : RdI w.heap.size w u B.z) : KD w A v B u ((w.alloc (.cells #[.int .i64 A.k, .int .i64 A.r, .int .i64 A.a, .int .i64 A.b, v] 27)).alloc (.cells #[.int .i64 B.k, .int .i64 B.r, .int .i64 B.a, .int .i64 B.b, u] 27)) := by
  have hb : Below w.heap.size w ((w.alloc (.cells #[.int .i64 A.k, .int .i64 A.r, .int .i64 A.a, .int .i64 A.b, v] 27)).alloc (.cells #[.int .i64 B.k, .int .i64 B.r, .int .i64 B.a, .int .i64 B.b, u] 27)) := (bel1 _ _).trans ((bel1 _ _).mono (by simp))
  refine ⟨hb, (R5.new w _ _ _ _ _).alloc _, ?_, hv.next hb, hu.next hb⟩
  have : (w.alloc (.cells #[.int .i64 A.k, .int .i64 A.r, .int .i64 A.a, .int .i64 A.b, v] 27)).heap.size = w.heap.size + 1 := by simp
  rw [← this]; exact R5.new _ _ _ _ _ _
set_option maxHeartbeats 2000000 in
theorem rlike_any (A B : Ar) (v u : Value) (w : World) (hv : RdI w.heap.size w v A.z) (hu : RdI w.heap.size w u B.z) :
    Calls Tryd.prog 26 #[A5 A.k A.r A.a A.b v, A5 B.k B.r B.a B.b u] w fun e w' => e = .returned (.bool (likeB A B)) ∧ Below w.heap.size w w' := by
  have HK := Lib.hid (KD.new (A := A) (B := B) hv hu)
  obtain ⟨k, r, a, b, z⟩ := A
  obtain ⟨k', r', a', b', z'⟩ := B
  obtain ⟨p, cap, rfl, hcap, hcap2, hcell⟩ := hv
  obtain ⟨q, cap', rfl, hcap', hcap2', hcell'⟩ := hu
  simp only at HK ⊢
  have HQ := fun W => eq2 a b a' b' W
  clear hcell hcell'
  have x0 := HK.out.b0.c0; have x1 := HK.out.b0.c1; have x2 := HK.out.b0.c2; have x3 := HK.out.b0.c3
  have y0 := HK.out.b1.c0; have y1 := HK.out.b1.c1; have y2 := HK.out.b1.c2; have y3 := HK.out.b1.c3
  by_cases h1 : k = k'
  · subst h1
    by_cases h2 : r = r'
    · subst h2
      have HL : Hid (likeB ⟨k, r, a, b, z⟩ ⟨k, r, a', b', z'⟩ = decide (a = a' ∧ b = b')) := by simp [Hid, likeB]
      rw [HL.out]
      go_enter Tryd.func26, Tryd.ntmps26
      go_wp2
      go_ret
      exact ⟨rfl, HK.out.bel⟩
    · have HL : Hid (likeB ⟨k, r, a, b, z⟩ ⟨k, r', a', b', z'⟩ = false) := by simp [Hid, likeB, h2]
      rw [HL.out]
      have e2 : (r == r') = false := by simpa using h2
      go_enter Tryd.func26, Tryd.ntmps26
      go_wp2
      go_ret
      exact ⟨rfl, HK.out.bel⟩
  · have HL : Hid (likeB ⟨k, r, a, b, z⟩ ⟨k', r', a', b', z'⟩ = false) := by simp [Hid, likeB, h1]
    rw [HL.out]
    have e1 : (k == k') = false := by simpa using h1
    go_enter Tryd.func26, Tryd.ntmps26
    go_wp2
    go_ret
    exact ⟨rfl, HK.out.bel⟩
set_option maxHeartbeats 2000000 in
theorem alike_any (A B : Ar) (v u : Value) (w : World) (hv : RdI w.heap.size w v A.z) (hu : RdI w.heap.size w u B.z) :
    Calls Tryd.prog 22 #[A5 A.k A.r A.a A.b v, A5 B.k B.r B.a B.b u] w fun e w' => e = .returned (.bool (likeB A B)) ∧ Below w.heap.size w w' := by
  have HK := Lib.hid (KD.new (A := A) (B := B) hv hu)
  obtain ⟨k, r, a, b, z⟩ := A
  obtain ⟨k', r', a', b', z'⟩ := B
  obtain ⟨p, cap, rfl, hcap, hcap2, hcell⟩ := hv
  obtain ⟨q, cap', rfl, hcap', hcap2', hcell'⟩ := hu
  simp only at HK ⊢
  have HQ := fun W => eq2 a b a' b' W
  clear hcell hcell'
  have x0 := HK.out.b0.c0; have x1 := HK.out.b0.c1; have x2 := HK.out.b0.c2; have x3 := HK.out.b0.c3
  have y0 := HK.out.b1.c0; have y1 := HK.out.b1.c1; have y2 := HK.out.b1.c2; have y3 := HK.out.b1.c3
  by_cases h1 : k = k'
  · subst h1
    by_cases h2 : r = r'
    · subst h2
      have HL : Hid (likeB ⟨k, r, a, b, z⟩ ⟨k, r, a', b', z'⟩ = decide (a = a' ∧ b = b')) := by simp [Hid, likeB]
      rw [HL.out]
      go_enter Tryd.func22, Tryd.ntmps22
      go_wp2
      go_ret
      exact ⟨rfl, HK.out.bel⟩
    · have HL : Hid (likeB ⟨k, r, a, b, z⟩ ⟨k, r', a', b', z'⟩ = false) := by simp [Hid, likeB, h2]
      rw [HL.out]
      have e2 : (r == r') = false := by simpa using h2
      go_enter Tryd.func22, Tryd.ntmps22
      go_wp2
      go_ret
      exact ⟨rfl, HK.out.bel⟩
  · have HL : Hid (likeB ⟨k, r, a, b, z⟩ ⟨k', r', a', b', z'⟩ = false) := by simp [Hid, likeB, h1]
    rw [HL.out]
    have e1 : (k == k') = false := by simpa using h1
    go_enter Tryd.func22, Tryd.ntmps22
    go_wp2
    go_ret
    exact ⟨rfl, HK.out.bel⟩
set_option maxRecDepth 100000 in
set_option maxHeartbeats 4000000 in
theorem rsame_any (A B : Ar) (v u : Value) (w : World) (hv : RdI w.heap.size w v A.z) (hu : RdI w.heap.size w u B.z) (hl : A.z.length ≤ 1000000) :
    Calls Tryd.prog 8 #[A5 A.k A.r A.a A.b v, A5 B.k B.r B.a B.b u] w fun e w' => e = .returned (.bool (smB A B)) ∧ Below w.heap.size w w' := by
  have HK := Lib.hid (KD.new (A := A) (B := B) hv hu)
  have HL := Lib.hid (fun W h1 h2 => rlike_any A B v u W h1 h2)
  have HE : Hid (smB A B = (likeB A B && decide (A.z = B.z))) := rfl
  rw [HE.out]
  obtain ⟨t, ht⟩ : ∃ t, likeB A B = t := ⟨_, rfl⟩
  rw [ht] at HL ⊢
  clear ht HE
  obtain ⟨k, r, a, b, z⟩ := A
  obtain ⟨k', r', a', b', z'⟩ := B
  obtain ⟨p, cap, rfl, hcap, hcap2, hcell⟩ := hv
  obtain ⟨q, cap', rfl, hcap', hcap2', hcell'⟩ := hu
  simp only at HK HL hcap hcap' hl ⊢
  clear hcell hcell'
  have x0 := HK.out.b0.c0; have x1 := HK.out.b0.c1; have x2 := HK.out.b0.c2; have x3 := HK.out.b0.c3; have x4 := HK.out.b0.c4
  have y0 := HK.out.b1.c0; have y1 := HK.out.b1.c1; have y2 := HK.out.b1.c2; have y3 := HK.out.b1.c3; have y4 := HK.out.b1.c4
  cases t
  · rw [Bool.false_and]
    go_enter Tryd.func8, Tryd.ntmps8
    go_wp2_with (go_at_call 26; refine (HL.out _ HK.out.rd0 HK.out.rd1).mono ?_; rintro e w' ⟨rfl, hb⟩; have HK2 := Lib.hid (HK.out.next hb); clear HK hb x0 x1 x2 x3 x4 y0 y1 y2 y3 y4; have HK := HK2; clear HK2; have x4 := HK.out.b0.c4; have y4 := HK.out.b1.c4)
    go_ret
    exact ⟨rfl, HK.out.bel⟩
  · rw [Bool.true_and]
    by_cases hlen : z.length = z'.length
    · have hb1 : ((z.length : Int) != (z'.length : Int)) = false := by simp [hlen]
      have Hlen := Lib.hid hlen; clear hlen
      go_enter Tryd.func8, Tryd.ntmps8
      go_wp2_with (go_at_call 26; refine (HL.out _ HK.out.rd0 HK.out.rd1).mono ?_; rintro e w' ⟨rfl, hb⟩; have HK2 := Lib.hid (HK.out.next hb); clear HK hb x0 x1 x2 x3 x4 y0 y1 y2 y3 y4; have HK := HK2; clear HK2; have x4 := HK.out.b0.c4; have y4 := HK.out.b1.c4)
      clear x4 y4
      go_loopw [5] (fun i wr => ∃ j : Nat, j ≤ z.length ∧ i = .int .i64 j ∧ KD w ⟨k, r, a, b, z⟩ (.slice p z.length cap) ⟨k', r', a', b', z'⟩ (.slice q z'.length cap') wr ∧ Hid (z.take j = z'.take j)) (fun i _ => z.length - (intOf i).toNat)
      case atStart => exact ⟨0, by omega, rfl, HK.out, rfl⟩
      case round =>
        obtain ⟨j, hj, rfl, hK, hq⟩ := hrel
        have HK := Lib.hid hK
        clear hK
        have x4 := HK.out.b0.c4; have y4 := HK.out.b1.c4
        by_cases hlt : j < z.length
        · have hlt2 : j < z'.length := by have := Hlen.out; omega
          obtain ⟨g, off, rfl, hbb, hc⟩ := HK.out.rd0.cells (by intro e; simp only at e; rw [e] at hlt; simp at hlt)
          obtain ⟨g2, off2, rfl, hbb2, hc2⟩ := HK.out.rd1.cells (by intro e; simp only at e; rw [e] at hlt2; simp at hlt2)
          have d1 : wr.cell? ⟨g, off + j, none⟩ = some (.int .i64 z[j]) := hc j hlt
          have e1 : wr.cell? ⟨g2, off2 + j, none⟩ = some (.int .i64 z'[j]) := hc2 j hlt2
          have hi1 : (j : Int) < (z.length : Int) := by omega
          have hi2 : (j : Int) < (z'.length : Int) := by omega
          clear hc hc2
          go_wp2_with fail
          go_quiet (fail)
          go_wp2
          · have h : (z[j] != z'[j]) = true := by assumption
            have hne : z ≠ z' := by
              intro e; subst e; simp at h
            go_ret
            exact ⟨ret_bool (decide_eq_false hne).symm, below_drewN HK.out.bel _⟩
          · have h : (z[j] != z'[j]) = false := by assumption
            have he : z[j] = z'[j] := by simpa using h
            go_roundw
            case rel => exact ⟨j + 1, by omega, by go_num, HK.out.next (drewN_below _ _), by unfold Hid; rw [List.take_succ_eq_append_getElem hlt, List.take_succ_eq_append_getElem hlt2, hq.out, he]⟩
            case measure => simp [intOf]; try omega
        · have HL2 : Hid (z = z') := by
            unfold Hid; have := hq.out
            rw [List.take_of_length_le (by omega), List.take_of_length_le (by have := Hlen.out; omega)] at this; exact this
          clear hq
          go_wp2
          go_ret
          exact ⟨ret_bool (decide_eq_true HL2.out).symm, HK.out.bel⟩
    · have hb1 : ((z.length : Int) != (z'.length : Int)) = true := by rw [bne_iff_ne]; omega
      have HE : Hid (decide (z = z') = false) := by unfold Hid; rw [decide_eq_false (fun e => hlen (by rw [e]))]
      clear hlen
      go_enter Tryd.func8, Tryd.ntmps8
      go_wp2_with (go_at_call 26; refine (HL.out _ HK.out.rd0 HK.out.rd1).mono ?_; rintro e w' ⟨rfl, hb⟩; have HK2 := Lib.hid (HK.out.next hb); clear HK hb x0 x1 x2 x3 x4 y0 y1 y2 y3 y4; have HK := HK2; clear HK2; have x4 := HK.out.b0.c4; have y4 := HK.out.b1.c4)
      go_ret
      exact ⟨ret_bool HE.out.symm, HK.out.bel⟩
end Go.Proofs.YtdbampgbbghfkaaDoor
