/- The reference's escaped, Quote. -/
import Derived.Test.YtocmnobcccjenaaDoorQuB
namespace Go.Proofs.YtocmnobcccjenaaDoor
open Go.RowKit

set_option maxRecDepth 100000

theorem hex_any (n : Int) (h0 : 0 ≤ n) (h : n < 16) (w : World) : Calls Tryd.prog 51 #[.int .u8 n] w fun e w' => e = .returned (.int .u8 (hex8 n.toNat).toNat) ∧ w = w' := by
  have a2 := hex16 n.toNat (by omega)
  go_enter Tryd.func51, Tryd.ntmps51
  go_wp2
  go_ret
  exact ⟨by rw [← a2]; rfl, rfl⟩
theorem conv_two (W : World) (a b : UInt8) :
    (convert 56 9 (.slice (some ⟨W.heap.size, 0, none⟩) 2 2)).run Tryd.prog (W.alloc (.cells #[.int .u8 a.toNat, .int .u8 b.toNat] 5)) = .ok (.string ⟨#[a, b]⟩) (W.alloc (.cells #[.int .u8 a.toNat, .int .u8 b.toNat] 5)) :=
  run_convert_bytes_back _ 56 9 5 ⟨W.heap.size, 0, none⟩ 2 [a, b] Tryd.underlying56 Tryd.underlying5 Tryd.underlying9 (fun j hj => by
    refine cells_new W #[.int .u8 a.toNat, .int .u8 b.toNat] 5 (0, 0) j _ ?_
    match j, hj with
    | 0, _ => rfl
    | 1, _ => rfl)
theorem conv_one (W : World) (a : UInt8) :
    (convert 56 9 (.slice (some ⟨W.heap.size, 0, none⟩) 1 1)).run Tryd.prog (W.alloc (.cells #[.int .u8 a.toNat] 5)) = .ok (.string ⟨#[a]⟩) (W.alloc (.cells #[.int .u8 a.toNat] 5)) :=
  run_convert_bytes_back _ 56 9 5 ⟨W.heap.size, 0, none⟩ 1 [a] Tryd.underlying56 Tryd.underlying5 Tryd.underlying9 (fun j hj => by
    refine cells_new W #[.int .u8 a.toNat] 5 (0, 0) j _ ?_
    match j, hj with
    | 0, _ => rfl)
theorem esc_short {c : UInt8} {x y : UInt8} (h : c = x) (e : escF x = [92, y]) : (⟨#[92, y]⟩ : ByteArray) = ⟨(escF c).toArray⟩ := by rw [h, e]
theorem u8_of_beq {c : UInt8} {n : Int} {x : UInt8} (h : ((c.toNat : Int) == n) = true) (hx : (x.toNat : Int) = n) : c = x := by
  rw [beq_iff_eq] at h; rw [← UInt8.toNat_inj]; omega

set_option maxHeartbeats 4000000 in
theorem escaped_any (c : UInt8) (w : World) :
    Calls Tryd.prog 38 #[.int .u8 c.toNat] w fun e w' => e = .returned (.string ⟨(escF c).toArray⟩) ∧ Below w.heap.size w w' := by
  have hu := u8_lt c
  have a0 : (0 : Int) ≤ (c.toNat : Int) / 16 := by omega
  have a1 : (c.toNat : Int) / 16 < 16 := by omega
  have b0 : (0 : Int) ≤ (c.toNat : Int) % 16 := by omega
  have b1 : (c.toNat : Int) % 16 < 16 := by omega
  have hc1 := fun W => conv_one W c
  have hc2 := fun W => conv_two W (hex8 (c.toNat / 16)) (hex8 (c.toNat % 16))
  go_enter Tryd.func38, Tryd.ntmps38
  go_wp2_with (first
    | (go_at_call 37; refine (plain_b _ _).mono ?_; rintro e w' ⟨rfl, rfl⟩)
    | (go_at_call 51; refine (hex_any _ (by assumption) (by assumption) _).mono ?_; rintro e w' ⟨rfl, rfl⟩))
  · have h : pl8 c = true := by assumption
    go_ret
    exact ⟨by unfold escF; rw [if_pos h]; rfl, (Below.refl _ _).alloc (Nat.le_refl _) _⟩
  · have h : ((c.toNat : Int) == 34) = true := by assumption
    go_ret
    exact ⟨by rw [u8_of_beq (x := 34) h rfl]; rfl, Below.refl _ _⟩
  · have h : ((c.toNat : Int) == 92) = true := by assumption
    go_ret
    exact ⟨by rw [u8_of_beq (x := 92) h rfl]; rfl, Below.refl _ _⟩
  · have h : ((c.toNat : Int) == 10) = true := by assumption
    go_ret
    exact ⟨by rw [u8_of_beq (x := 10) h rfl]; rfl, Below.refl _ _⟩
  · have h : ((c.toNat : Int) == 13) = true := by assumption
    go_ret
    exact ⟨by rw [u8_of_beq (x := 13) h rfl]; rfl, Below.refl _ _⟩
  · have h : ((c.toNat : Int) == 9) = true := by assumption
    go_ret
    exact ⟨by rw [u8_of_beq (x := 9) h rfl]; rfl, Below.refl _ _⟩
  · have hE : escF c = [92, 120, hex8 (c.toNat / 16), hex8 (c.toNat % 16)] := by
      unfold escF
      rw [if_neg (by intro h; simp_all), if_neg]
      unfold escB
      simp_all
    go_ret
    exact ⟨by rw [hE]; rfl, (Below.refl _ _).alloc (Nat.le_refl _) _⟩
end Go.Proofs.YtocmnobcccjenaaDoor
