/- The walks of Go's stable merge at places: swapRange, rotate. -/
import Derived.Test.YtpbfbejckhbijaaDoorFiL
import Derived.Sort.WalkA
namespace Go.Proofs.YtpbfbejckhbijaaDoor
open Go.RowKit Go.Sort

/-- So many swaps, one after another. -/
def swN {α : Type} [Inhabited α] (d : Array α) (a b : Nat) : Nat → Array α
  | 0 => d
  | k + 1 => Sort.swp (swN d a b k) (a + k) (b + k)
theorem swN_size {α : Type} [Inhabited α] (d : Array α) (a b : Nat) : ∀ k, (swN d a b k).size = d.size
  | 0 => rfl
  | k + 1 => by unfold swN; rw [size_swp, swN_size d a b k]
set_option maxRecDepth 100000 in
set_option maxHeartbeats 4000000 in
theorem swapRange_any {N : Nat} (d : Array (Fin (N + 1))) (blk a b k : Nat) (c : Value) (w : World) (hH : Holds encF w blk 0 d) (hab : a + k ≤ b ∨ b + k ≤ a) (ha : a + k ≤ d.size) (hb : b + k ≤ d.size) (hs : d.size ≤ 100000) :
    Calls Tryd.prog 61 #[.slice (some ⟨blk, 0, none⟩) d.size d.size, .int .i64 a, .int .i64 b, .int .i64 k, c] w fun e w' => e = .returned (.tuple #[]) ∧ ∃ m, w' = putRow encF (Sort.ahead w m) blk 0 (swN d a b k) := by
  go_enter Tryd.func61, Tryd.ntmps61
  go_wp2
  go_loopw [10] (fun vi wr => ∃ (i m : Nat), vi = .int .i64 i ∧ i ≤ k ∧ wr = putRow encF (Sort.ahead w m) blk 0 (swN d a b i)) (fun vi _ => k - (intOf vi).toNat)
  case atStart => exact ⟨0, 0, rfl, Nat.zero_le _, by show w = putRow encF w blk 0 d; exact (putRow_self _ _ _ _ _ hH).symm⟩
  case round =>
    obtain ⟨i, m, rfl, hik, hw2⟩ := hrel
    by_cases hlt : i < k
    · obtain ⟨dj, hdj⟩ : ∃ dj, swN d a b i = dj := ⟨_, rfl⟩
      have hsj : dj.size = d.size := by rw [← hdj]; exact swN_size _ _ _ _
      have hnx : swN d a b (i + 1) = Sort.swp dj (a + i) (b + i) := by rw [← hdj]; rfl
      rw [hdj] at hw2
      obtain ⟨p, hp⟩ : ∃ p, a + i = p := ⟨_, rfl⟩
      obtain ⟨q, hq⟩ : ∃ q, b + i = q := ⟨_, rfl⟩
      rw [hp, hq] at hnx
      have hpd : p < d.size := by omega
      have hqd : q < d.size := by omega
      have hpq : p ≠ q := by omega
      have hcp : wr.cell? ⟨blk, p, none⟩ = some (.int .i64 (dj[p]!.val : Int)) := by
        have h := cell?_putRow encF (Sort.ahead w m) blk 0 d dj (holds_ahead _ _ _ _ _ _ hH) hsj p (by omega)
        rw [hw2]; rw [Nat.zero_add] at h; exact h
      have hcq : wr.cell? ⟨blk, q, none⟩ = some (.int .i64 (dj[q]!.val : Int)) := by
        have h := cell?_putRow encF (Sort.ahead w m) blk 0 d dj (holds_ahead _ _ _ _ _ _ hH) hsj q (by omega)
        rw [hw2]; rw [Nat.zero_add] at h; exact h
      have hfp : wr.frozen? ⟨blk, p, none⟩ = false := by
        have h := (holds_ahead encF w m blk 0 d hH p hpd).2
        rw [Nat.zero_add] at h
        rw [hw2, frozen?_putRow]; exact h
      have hfq : wr.frozen? ⟨blk, q, none⟩ = false := by
        have h := (holds_ahead encF w m blk 0 d hH q hqd).2
        rw [Nat.zero_add] at h
        rw [hw2, frozen?_putRow]; exact h
      have HE : Hid (∀ n, ((wr.drewN n).setCell ⟨blk, p, none⟩ (.int .i64 (dj[q]!.val : Int))).setCell ⟨blk, q, none⟩ (.int .i64 (dj[p]!.val : Int)) = putRow encF (Sort.ahead w (m + n)) blk 0 (swN d a b (i + 1))) := fun n => by
        have h := swap_worldA (enc := encF) w m n blk 0 dj p q (by omega) (by omega)
        rw [hnx, hw2]
        rw [Nat.zero_add, Nat.zero_add] at h
        exact h
      have k1 : IntKind.i64.wrap ((a : Int) + (i : Int)) = (p : Int) := by rw [IntKind.wrap_i64]; omega
      have k2 : IntKind.i64.wrap ((b : Int) + (i : Int)) = (q : Int) := by rw [IntKind.wrap_i64]; omega
      have k3 : IntKind.i64.wrap ((i : Int) + 1) = (i : Int) + 1 := by rw [IntKind.wrap_i64]; omega
      have k4 : (i : Int) < (k : Int) := by omega
      have k5 : (a : Int) + (i : Int) = (p : Int) := by omega
      have k6 : (b : Int) + (i : Int) = (q : Int) := by omega
      have hpz : (p : Int) < (d.size : Int) := by omega
      have hqz : (q : Int) < (d.size : Int) := by omega
      clear hw2 hnx hdj hH
      generalize (dj[p]!.val : Int) = x at hcp HE
      generalize (dj[q]!.val : Int) = y at hcq HE
      go_wp2
      go_region
      all_goals go_wp2
      go_roundw
      case rel => exact ⟨i + 1, _, by go_num, by omega, HE.out _⟩
      case measure => simp [intOf]; omega
    · have hie : i = k := by omega
      have k4 : ¬ ((i : Int) < (k : Int)) := by omega
      have HE : Hid (wr = putRow encF (Sort.ahead w m) blk 0 (swN d a b k)) := by rw [← hie]; exact hw2
      clear hw2 hH
      go_wp2
      go_end0
      exact ⟨rfl, m, HE.out⟩
theorem swN_get {α : Type} [Inhabited α] (d : Array α) {a b : Nat} : ∀ k, (a + k ≤ b ∨ b + k ≤ a) → a + k ≤ d.size → b + k ≤ d.size → (fun t => (swN d a b k)[t]!) = _root_.Go.Proofs.YtpbfbejckhbijaaDoor.swp (fun t => d[t]!) a b k
  | 0, _, _, _ => by
    funext x
    unfold _root_.Go.Proofs.YtpbfbejckhbijaaDoor.swp swN
    rw [if_neg (by omega), if_neg (by omega)]
  | k + 1, h, ha, hb => by
    have ih := swN_get d (a := a) (b := b) k (by omega) (by omega) (by omega)
    rw [_root_.Go.Proofs.YtpbfbejckhbijaaDoor.swp_succ _ (by omega), ← ih]
    funext x
    show (Sort.swp (swN d a b k) (a + k) (b + k))[x]! = _
    rw [swp_get _ (by rw [swN_size]; omega) (by rw [swN_size]; omega)]
    generalize swN d a b k = e
    unfold _root_.Go.Proofs.YtpbfbejckhbijaaDoor.swp
    by_cases h2 : x = b + k
    · subst h2; rw [if_pos rfl, if_neg (by omega), if_pos (by omega)]; simp
    · rw [if_neg h2]
      by_cases h1 : x = a + k
      · subst h1; rw [if_pos rfl, if_pos (by omega)]; simp
      · rw [if_neg h1, if_neg (by omega), if_neg (by omega)]
set_option maxRecDepth 100000 in
set_option maxHeartbeats 4000000 in
theorem rotate_any {N : Nat} (d : Array (Fin (N + 1))) (blk a m b : Nat) (c : Value) (w : World) (hH : Holds encF w blk 0 d) (ham : a < m) (hmb : m < b) (hb : b ≤ d.size) (hs : d.size ≤ 100000) :
    Calls Tryd.prog 54 #[.slice (some ⟨blk, 0, none⟩) d.size d.size, .int .i64 a, .int .i64 m, .int .i64 b, c] w fun e w' => e = .returned (.tuple #[]) ∧ ∃ n dk, dk.size = d.size ∧ (fun t => dk[t]!) = rtt (fun t => d[t]!) a m b ∧ w' = putRow encF (Sort.ahead w n) blk 0 dk := by
  obtain ⟨G, hG⟩ : ∃ G, rtt (fun t => d[t]!) a m b = G := ⟨_, rfl⟩
  rw [hG]
  have k1 : IntKind.i64.wrap ((m : Int) - (a : Int)) = ((m - a : Nat) : Int) := by rw [IntKind.wrap_i64]; omega
  have k2 : IntKind.i64.wrap ((b : Int) - (m : Int)) = ((b - m : Nat) : Int) := by rw [IntKind.wrap_i64]; omega
  go_enter Tryd.func54, Tryd.ntmps54
  go_wp2
  go_loopw [10, 11] (fun vi vj wr => ∃ (x y n : Nat) (dk : Array (Fin (N + 1))), vi = .int .i64 x ∧ vj = .int .i64 y ∧ 0 < x ∧ 0 < y ∧ x ≤ m ∧ m + y ≤ d.size ∧ dk.size = d.size ∧ wr = putRow encF (Sort.ahead w n) blk 0 dk ∧ rtt (fun t => dk[t]!) (m - x) m (m + y) = G) (fun vi vj _ => (intOf vi).toNat + (intOf vj).toNat)
  case atStart => exact ⟨m - a, b - m, 0, d, by go_num, by go_num, by omega, by omega, by omega, by omega, rfl, (putRow_self _ _ _ _ _ hH).symm, by rw [show m - (m - a) = a by omega, show m + (b - m) = b by omega]; exact hG⟩
  case round =>
    obtain ⟨x, y, n, dk, rfl, rfl, hx, hy, hxm, hyd, hsk, hw2, hR⟩ := hrel
    have hHk : Holds encF wr blk 0 dk := by rw [hw2]; exact holds_putRow encF _ blk 0 d dk (holds_ahead _ _ _ _ _ _ hH) hsk
    have HS := fun (p q k : Nat) (h1 : p + k ≤ q ∨ q + k ≤ p) (h2 : p + k ≤ d.size) (h3 : q + k ≤ d.size) => swapRange_any dk blk p q k c wr hHk h1 (by omega) (by omega) (by omega)
    have HP : Hid (∀ k dk2, dk2.size = d.size → putRow encF (Sort.ahead wr k) blk 0 dk2 = putRow encF (Sort.ahead w (n + k)) blk 0 dk2) := fun k dk2 h2 => by
      rw [hw2]; exact putRow_ahead_putRow encF w n k blk 0 dk dk2 (by omega)
    rw [hsk] at HS
    have HR := Lib.hid hR
    have HK := Lib.hid hsk
    clear hw2 hR hHk hH k1 k2 hG hsk
    have k3 : IntKind.i64.wrap ((m : Int) - (x : Int)) = ((m - x : Nat) : Int) := by rw [IntKind.wrap_i64]; omega
    by_cases hxy : x = y
    · subst hxy
      have HC := Lib.hid (HS (m - x) m x (by omega) (by omega) (by omega))
      have HG : Hid ((fun t => (swN dk (m - x) m x)[t]!) = G) := by
        have h := HR.out
        rw [rtt_same _ (by omega) (by omega) (by omega), show m - (m - x) = x by omega] at h
        unfold Hid
        rw [swN_get dk x (by omega) (by rw [HK.out]; omega) (by rw [HK.out]; omega)]; exact h
      clear HS HR
      go_wp2_with (go_at_call 61; refine HC.out.mono ?_; rintro e w1 ⟨rfl, k, rfl⟩)
      go_end0
      exact ⟨rfl, n + k, swN dk (m - x) m x, by rw [swN_size]; exact HK.out, HG.out, HP.out k _ (by rw [swN_size]; exact HK.out)⟩
    · have k0 : ((x : Int) != (y : Int)) = true := by rw [bne_iff_ne]; omega
      by_cases hlt : y < x
      · have HC := Lib.hid (HS (m - x) m y (by omega) (by omega) (by omega))
        have HG : Hid (rtt (fun t => (swN dk (m - x) m y)[t]!) (m - (x - y)) m (m + y) = G) := by
          have h := HR.out
          rw [rtt_left _ (by omega) (by omega) (by omega), show m + y - m = y by omega, show m - x + y = m - (x - y) by omega] at h
          unfold Hid
          rw [swN_get dk y (by omega) (by rw [HK.out]; omega) (by rw [HK.out]; omega)]; exact h
        have k4 : (y : Int) < (x : Int) := by omega
        have k5 : IntKind.i64.wrap ((x : Int) - (y : Int)) = ((x - y : Nat) : Int) := by rw [IntKind.wrap_i64]; omega
        clear HS HR
        go_wp2_with (go_at_call 61; refine HC.out.mono ?_; rintro e w1 ⟨rfl, k, rfl⟩)
        go_roundw
        case rel => exact ⟨x - y, y, n + k, swN dk (m - x) m y, by go_num, rfl, by omega, hy, by omega, hyd, by rw [swN_size]; exact HK.out, HP.out k _ (by rw [swN_size]; exact HK.out), HG.out⟩
        case measure => simp [intOf]; omega
      · have HC := Lib.hid (HS (m - x) (m + y - x) x (by omega) (by omega) (by omega))
        have HG : Hid (rtt (fun t => (swN dk (m - x) (m + y - x) x)[t]!) (m - x) m (m + (y - x)) = G) := by
          have h := HR.out
          rw [rtt_right _ (by omega) (by omega) (by omega), show m - (m - x) = x by omega, show m + y - x = m + (y - x) by omega] at h
          unfold Hid
          rw [show m + y - x = m + (y - x) by omega, swN_get dk x (by omega) (by rw [HK.out]; omega) (by rw [HK.out]; omega)]; exact h
        have k4 : ¬ ((y : Int) < (x : Int)) := by omega
        have k5 : IntKind.i64.wrap ((y : Int) - (x : Int)) = ((y - x : Nat) : Int) := by rw [IntKind.wrap_i64]; omega
        have k6 : IntKind.i64.wrap ((m : Int) + (y : Int)) = (m : Int) + (y : Int) := by rw [IntKind.wrap_i64]; omega
        have k7 : IntKind.i64.wrap ((m : Int) + (y : Int) - (x : Int)) = ((m + y - x : Nat) : Int) := by rw [IntKind.wrap_i64]; omega
        clear HS HR
        go_wp2_with (go_at_call 61; refine HC.out.mono ?_; rintro e w1 ⟨rfl, k, rfl⟩)
        go_roundw
        case rel => exact ⟨x, y - x, n + k, swN dk (m - x) (m + y - x) x, rfl, by go_num, hx, by omega, hxm, by omega, by rw [swN_size]; exact HK.out, HP.out k _ (by rw [swN_size]; exact HK.out), HG.out⟩
        case measure => simp [intOf]; omega
end Go.Proofs.YtpbfbejckhbijaaDoor
