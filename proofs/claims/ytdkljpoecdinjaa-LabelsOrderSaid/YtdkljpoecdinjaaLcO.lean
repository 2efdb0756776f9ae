/- The law LabelsOrder as a walk. -/
import Derived.Test.YtdkljpoecdinjaaLbU
namespace Go.Proofs.Ytdkljpoecdinjaa
open Go.RowKit

set_option maxRecDepth 100000 in
set_option maxHeartbeats 4000000 in
theorem lawOrder_far (v u : Value) (ns : List ByteArray) (up : List UInt8) (zs : List Int) (w : World) (hv : RdL w.heap.size w v ns up) (hz : RdI w.heap.size w u zs) (e0 : farB ns up = true) :
    Calls Try.prog 6 #[v, u] w fun e w' => e = .returned (.bool true) ∧ Below w.heap.size w w' := by
  have HL := Lib.hid hv
  obtain ⟨⟨vn, vu, rfl, hS, hB⟩, hsz⟩ := hv
  obtain ⟨q1, cap, rfl, hc, hc2, h⟩ := hS
  obtain ⟨q, cap', rfl, hc', hc2', h'⟩ := hB
  clear h h' hsz
  have HZ := Lib.hid hz
  obtain ⟨a, c, rfl, hl, hl2, h⟩ := hz
  clear h
  have HI := Lib.hid (Bx.new HL.out)
  go_enter Try.func6, Try.ntmps6
  go_wp2_with (first
    | (go_at_call 8; refine (far_any _ ns up _ HI.out.rd).mono ?_; rintro e w' ⟨rfl, hbn⟩; have HI2 := Lib.hid (HI.out.next hbn); clear HI; have HI := HI2; clear HI2; have hx0 := HI.out.x0; have hx1 := HI.out.x1; clear hbn)
    | (go_at_call 9; refine (awake4_any _).mono ?_; rintro e w' ⟨rfl, hbn⟩; clear hx0 hx1; have HI2 := Lib.hid (HI.out.next hbn); clear HI; have HI := HI2; clear HI2; have hx0 := HI.out.x0; have hx1 := HI.out.x1; clear hbn))
  go_ret
  exact ⟨ret_bool (by first | rfl | simp), HI.out.bel⟩

set_option maxRecDepth 100000 in
set_option maxHeartbeats 4000000 in
theorem lawOrder_long (v u : Value) (ns : List ByteArray) (up : List UInt8) (zs : List Int) (w : World) (hv : RdL w.heap.size w v ns up) (hz : RdI w.heap.size w u zs) (e0 : farB ns up = false) (h8 : (80 : Int) < (zs.length : Int)) :
    Calls Try.prog 6 #[v, u] w fun e w' => e = .returned (.bool true) ∧ Below w.heap.size w w' := by
  have HL := Lib.hid hv
  obtain ⟨⟨vn, vu, rfl, hS, hB⟩, hsz⟩ := hv
  obtain ⟨q1, cap, rfl, hc, hc2, h⟩ := hS
  obtain ⟨q, cap', rfl, hc', hc2', h'⟩ := hB
  clear h h' hsz
  have HZ := Lib.hid hz
  obtain ⟨a, c, rfl, hl, hl2, h⟩ := hz
  clear h
  have HI := Lib.hid (Bx.new HL.out)
  go_enter Try.func6, Try.ntmps6
  go_wp2_with (first
    | (go_at_call 8; refine (far_any _ ns up _ HI.out.rd).mono ?_; rintro e w' ⟨rfl, hbn⟩; have HI2 := Lib.hid (HI.out.next hbn); clear HI; have HI := HI2; clear HI2; have hx0 := HI.out.x0; have hx1 := HI.out.x1; clear hbn)
    | (go_at_call 9; refine (awake4_any _).mono ?_; rintro e w' ⟨rfl, hbn⟩; clear hx0 hx1; have HI2 := Lib.hid (HI.out.next hbn); clear HI; have HI := HI2; clear HI2; have hx0 := HI.out.x0; have hx1 := HI.out.x1; clear hbn))
  go_ret
  exact ⟨ret_bool (by first | rfl | simp), HI.out.bel⟩

set_option maxRecDepth 100000 in
set_option maxHeartbeats 8000000 in
theorem lawOrder_bad (v u : Value) (ns : List ByteArray) (up : List UInt8) (zs : List Int) (w : World) (hv : RdL w.heap.size w v ns up) (hz : RdI w.heap.size w u zs) (e0 : farB ns up = false) (h8 : ¬ (80 : Int) < (zs.length : Int)) (hk : ((lck ns up zs).2 != 0) = true) :
    Calls Try.prog 6 #[v, u] w fun e w' => e = .returned (.bool true) ∧ Below w.heap.size w w' := by
  have HL := Lib.hid hv
  obtain ⟨⟨vn, vu, rfl, hS, hB⟩, hsz⟩ := hv
  obtain ⟨q1, cap, rfl, hc, hc2, h⟩ := hS
  obtain ⟨q, cap', rfl, hc', hc2', h'⟩ := hB
  clear h h' hsz
  have HZ := Lib.hid hz
  obtain ⟨a, c, rfl, hl, hl2, h⟩ := hz
  clear h
  have HI := Lib.hid (Bx.new HL.out)
  go_enter Try.func6, Try.ntmps6
  go_wp2_with (first
    | (go_at_call 8; refine (far_any _ ns up _ HI.out.rd).mono ?_; rintro e w' ⟨rfl, hbn⟩; have HI2 := Lib.hid (HI.out.next hbn); clear HI; have HI := HI2; clear HI2; have hx0 := HI.out.x0; have hx1 := HI.out.x1; clear hbn)
    | (go_at_call 15; refine (lsort_bad _ _ ns up zs _ HI.out.rd (HZ.out.next HI.out.bel) hk).mono ?_; rintro e w' ⟨rfl, hbn⟩; clear hx0 hx1; have HI2 := Lib.hid (HI.out.next hbn); clear HI; have HI := HI2; clear HI2; have hx0 := HI.out.x0; have hx1 := HI.out.x1; clear hbn)
    | (go_at_call 9; refine (awake4_any _).mono ?_; rintro e w' ⟨rfl, hbn⟩; clear hx0 hx1; have HI2 := Lib.hid (HI.out.next hbn); clear HI; have HI := HI2; clear HI2; have hx0 := HI.out.x0; have hx1 := HI.out.x1; clear hbn))
  go_ret
  exact ⟨ret_bool (by first | rfl | simp), HI.out.bel⟩

/-- What the law keeps: its lattice, the list, the two arrays. -/
structure Oz (w w1 : World) (vn vu sv : Value) (ns : List ByteArray) (up : List UInt8) (S : List Nat) (f g : Nat → Value) (W : World) : Prop where
  l : Bx w vn vu ns up W
  s : RdN W.heap.size W sv S
  b : Below w1.heap.size w1 W
  i : W.rowIs w1.heap.size 45 8 f
  o : W.rowIs (w1.heap.size + 1) 45 8 g
theorem Oz.next {w w1 W W' : World} {vn vu sv : Value} {ns : List ByteArray} {up : List UInt8} {S : List Nat} {f g : Nat → Value} (h : Oz w w1 vn vu sv ns up S f g W) (hb : Below W.heap.size W W') : Oz w w1 vn vu sv ns up S f g W' :=
  ⟨h.l.next hb, h.s.next hb, h.b.trans (hb.mono h.b.size), h.i.of_block (hb.block _ h.i.lt), h.o.of_block (hb.block _ h.o.lt)⟩

theorem Oz.of {w w1 W : World} {vn vu sv : Value} {ns : List ByteArray} {up : List UInt8} {S : List Nat} {f g : Nat → Value} (hI : Bx w vn vu ns up w1) (hX : RdN w1.heap.size w1 sv S) (hb : Below w1.heap.size w1 W) (hi : W.rowIs w1.heap.size 45 8 f) (ho : W.rowIs (w1.heap.size + 1) 45 8 g) : Oz w w1 vn vu sv ns up S f g W := ⟨hI.next hb, hX.next hb, hb, hi, ho⟩
theorem rep8 (w : World) (t : TypeId) : (w.alloc (.cells (Array.replicate 8 (Value.bool false)) t)).rowIs w.heap.size t 8 (mB []) :=
  World.rowIs_alloc w (Array.replicate 8 (Value.bool false)) t _ (fun i hi => by rw [mB_nil, Array.getElem?_replicate, if_pos (by simpa using hi)])
theorem oz_0 {w w1 : World} {vn vu sv : Value} {ns : List ByteArray} {up : List UInt8} {S : List Nat} (hI : Bx w vn vu ns up w1) (hX : RdN w1.heap.size w1 sv S) :
    Oz w w1 vn vu sv ns up S (mB []) (mB []) ((w1.alloc (.cells (Array.replicate 8 (Value.bool false)) 45)).alloc (.cells (Array.replicate 8 (Value.bool false)) 45)) := by
  refine Oz.of hI hX (((Below.refl _ _).alloc (Nat.le_refl _) _).alloc (by simp) _) ((rep8 w1 _).alloc _) ?_
  have h := rep8 (w1.alloc (.cells (Array.replicate 8 (Value.bool false)) 45)) 45
  rw [show (w1.alloc (.cells (Array.replicate 8 (Value.bool false)) 45)).heap.size = w1.heap.size + 1 by simp] at h
  exact h
theorem Oz.put {w w1 W : World} {vn vu sv : Value} {ns : List ByteArray} {up : List UInt8} {S ls : List Nat} {g : Nat → Value} {k : Nat} (hI : Bx w vn vu ns up w1) (hX : RdN w1.heap.size w1 sv S) (h : Oz w w1 vn vu sv ns up S (mB (ls.take k)) g W) (hk : k < ls.length) : Oz w w1 vn vu sv ns up S (mB (ls.take (k + 1))) g (W.setCell ⟨w1.heap.size, ls[k], none⟩ (.bool true)) :=
  Oz.of hI hX (h.b.setCell (p := ⟨w1.heap.size, ls[k], none⟩) (Nat.le_refl _) _) (mB_set hk h.i) (h.o.setOther (by show w1.heap.size + 1 ≠ w1.heap.size; omega) _)
theorem Oz.put2 {w w1 W : World} {vn vu sv : Value} {ns : List ByteArray} {up : List UInt8} {S : List Nat} {f : Nat → Value} {k : Nat} (hI : Bx w vn vu ns up w1) (hX : RdN w1.heap.size w1 sv S) (h : Oz w w1 vn vu sv ns up S f (mB (S.take k)) W) (hk : k < S.length) : Oz w w1 vn vu sv ns up S f (mB (S.take (k + 1))) (W.setCell ⟨w1.heap.size + 1, S[k], none⟩ (.bool true)) :=
  Oz.of hI hX (h.b.setCell (p := ⟨w1.heap.size + 1, S[k], none⟩) (Nat.le_succ _) _) (h.i.setOther (by show w1.heap.size ≠ w1.heap.size + 1; omega) _) (mB_set hk h.o)

theorem oz_c {w w1 W : World} {vn vu : Value} {ns : List ByteArray} {up : List UInt8} {S : List Nat} {f g : Nat → Value} {b off c i k x y : Nat} (h : Oz w w1 vn vu (.slice (some ⟨b, off, none⟩) S.length c) ns up S f g W) (hi : i < S.length) (hk : k < S.length) (hx : S[i] = x) (hy : S[k] = y) :
    Oz w w1 vn vu (.slice (some ⟨b, off, none⟩) S.length c) ns up S f g W ∧ W.cell? ⟨w.heap.size, 0, none⟩ = some vn ∧ W.cell? ⟨w.heap.size, 1, none⟩ = some vu ∧ W.cell? ⟨b, off + i, none⟩ = some (.int .i64 (x : Int)) ∧ W.cell? ⟨b, off + k, none⟩ = some (.int .i64 (y : Int)) :=
  ⟨h, h.l.x0, h.l.x1, by rw [← hx]; exact rd_cell h.s i hi, by rw [← hy]; exact rd_cell h.s k hk⟩
theorem oz_cn {w w1 W W' : World} {vn vu : Value} {ns : List ByteArray} {up : List UInt8} {S : List Nat} {f g : Nat → Value} {b off c i k x y : Nat} {p : Prop} (h : Oz w w1 vn vu (.slice (some ⟨b, off, none⟩) S.length c) ns up S f g W ∧ p) (hb : Below W.heap.size W W') (hi : i < S.length) (hk : k < S.length) (hx : S[i] = x) (hy : S[k] = y) :
    Oz w w1 vn vu (.slice (some ⟨b, off, none⟩) S.length c) ns up S f g W' ∧ W'.cell? ⟨w.heap.size, 0, none⟩ = some vn ∧ W'.cell? ⟨w.heap.size, 1, none⟩ = some vu ∧ W'.cell? ⟨b, off + i, none⟩ = some (.int .i64 (x : Int)) ∧ W'.cell? ⟨b, off + k, none⟩ = some (.int .i64 (y : Int)) := oz_c (h.1.next hb) hi hk hx hy
theorem oz_rd {w w1 W : World} {vn vu sv : Value} {ns : List ByteArray} {up : List UInt8} {S : List Nat} {f g : Nat → Value} {p : Prop} (h : Oz w w1 vn vu sv ns up S f g W ∧ p) : RdL W.heap.size W (.agg #[vn, vu]) ns up := h.1.l.rd

set_option maxRecDepth 100000 in
set_option maxHeartbeats 8000000 in
theorem lawOrder_ok (v u : Value) (ns : List ByteArray) (up : List UInt8) (ls : List Nat) (w : World) (hv : RdL w.heap.size w v ns up) (hz : RdN w.heap.size w u ls) (e0 : farB ns up = false) (hg : GL ns up ls) :
    Calls Try.prog 6 #[v, u] w fun e w' => e = .returned (.bool true) ∧ Below w.heap.size w w' := by
  have HL := Lib.hid hv
  obtain ⟨⟨vn, vu, rfl, hS, hB⟩, hsz⟩ := hv
  obtain ⟨q1, cap, rfl, hc, hc2, h⟩ := hS
  obtain ⟨q, cap', rfl, hc', hc2', h'⟩ := hB
  clear h h' hsz
  have HZ := Lib.hid hz
  obtain ⟨a, c, rfl, hl, hl2, h⟩ := hz
  clear h
  have HI := Lib.hid (Bx.new HL.out)
  have h8 : ¬ (80 : Int) < (ls.length : Int) := by have := hg.most; omega
  have HG := Lib.hid hg
  have HSd := Lib.hid (sd_of hg)
  clear hg
  have HS1 : Hid (∀ W, Below w.heap.size w W → RdL W.heap.size W (.agg #[.slice q1 ns.length cap, .slice q up.length cap']) ns up → Calls Try.prog 15 #[.agg #[.slice q1 ns.length cap, .slice q up.length cap'], .slice a ls.length c] W (SoL (srt up (fun b => decide (b ∈ ls))) 0 W)) := fun W hb hW => (lsort_ok _ _ ns up ls W hW (HZ.out.next hb) HG.out).mono fun e w' h => soL_ok h
  have HS2 : Hid (∀ W sa sc, RdL W.heap.size W (.agg #[.slice q1 ns.length cap, .slice q up.length cap']) ns up → RdN W.heap.size W (.slice sa (srt up (fun b => decide (b ∈ ls))).length sc) (srt up (fun b => decide (b ∈ ls))) → Calls Try.prog 15 #[.agg #[.slice q1 ns.length cap, .slice q up.length cap'], .slice sa (srt up (fun b => decide (b ∈ ls))).length sc] W (SoL (srt up (fun b => decide (b ∈ ls))) 0 W)) := fun W sa sc hW hr => by
    have h := lsort_ok _ _ ns up _ W hW hr ⟨HG.out.good, by have := srt_len up (fun b => decide (b ∈ ls)); have := HG.out.good.len; have := HG.out.good.most; omega, HSd.out.all⟩
    unfold SoT at h
    rw [srt_again HG.out.good.ords.1] at h
    exact h
  have HC1 : Hid (∀ W, Below w.heap.size w W → RdL W.heap.size W (.agg #[.slice q1 ns.length cap, .slice q up.length cap']) ns up → Calls Try.prog 17 #[.agg #[.slice q1 ns.length cap, .slice q up.length cap'], .slice a ls.length c] W (fun e w' => e = .returned (.tuple #[.bool (chB up ls), .int .i64 0]) ∧ Below W.heap.size W w')) := fun W hb hW => lchain_ok _ _ ns up ls W hW (HZ.out.next hb) HG.out
  have hS8 := srt_len up (fun b => decide (b ∈ ls))
  generalize srt up (fun b => decide (b ∈ ls)) = S at HS1 HS2 HSd hS8
  generalize chB up ls = C at HC1 HSd
  go_enter Try.func6, Try.ntmps6
  go_wp2_with (first
    | (go_at_call 8; refine (far_any _ ns up _ HI.out.rd).mono ?_; rintro e w' ⟨rfl, hbn⟩; have HI2 := Lib.hid (HI.out.next hbn); clear HI; have HI := HI2; clear HI2; have hx0 := HI.out.x0; have hx1 := HI.out.x1; clear hbn)
    | (go_at_call 15; refine (HS1.out _ HI.out.bel HI.out.rd).mono ?_; rintro e w1 ⟨sa, sc, rfl, hr, hbn⟩; clear hx0 hx1; have HI2 := Lib.hid (HI.out.next hbn); clear HI; have HI := HI2; clear HI2; have hx0 := HI.out.x0; have hx1 := HI.out.x1; have HX := Lib.hid hr; clear hr hbn))
  have HI1 := HI
  have HX1 := HX
  have HO0 := Lib.hid (oz_0 HI.out HX.out)
  clear HI HX hx0 hx1
  go_loopg [9] ls.length (fun g i W => ∃ k : Nat, k + g = ls.length ∧ i = .int .i64 k ∧ Oz w w1 (.slice q1 ns.length cap) (.slice q up.length cap') (.slice sa S.length sc) ns up S (mB (ls.take k)) (mB []) W)
  case atStart => exact ⟨0, by omega, rfl, HO0.out⟩
  case round =>
    clear HO0
    obtain ⟨k, hkg, rfl, hoz⟩ := hrel
    have HO := Lib.hid hoz; clear hoz
    cases gk with
    | zero =>
      have hkz : ¬ ((k : Int) < (ls.length : Int)) := by omega
      have HOl : Hid (Oz w w1 (.slice q1 ns.length cap) (.slice q up.length cap') (.slice sa S.length sc) ns up S (mB ls) (mB []) wr) := by
        have := HO.out
        rw [List.take_of_length_le (by omega)] at this
        exact this
      clear HO
      have hx0 := HOl.out.l.x0
      have hx1 := HOl.out.l.x1
      go_wp2_with (first
        | (go_at_call 17; refine (HC1.out _ HOl.out.l.bel HOl.out.l.rd).mono ?_; rintro e w' ⟨rfl, hbn⟩; clear hx0 hx1; have HO2 := Lib.hid (HOl.out.next hbn); clear HOl; have HOl := HO2; clear HO2; have hx0 := HOl.out.l.x0; have hx1 := HOl.out.l.x1; clear hbn)
        | (go_at_call 15; refine (HS2.out _ _ _ HOl.out.l.rd HOl.out.s).mono ?_; rintro e w' ⟨ra, rc, rfl, hr, hbn⟩; clear hx0 hx1; have HO2 := Lib.hid (HOl.out.next hbn); clear HOl; have HOl := HO2; clear HO2; have hx0 := HOl.out.l.x0; have hx1 := HOl.out.l.x1; have HQ := Lib.hid hr; clear hr hbn)
        | (go_at_call 12; refine (same4_refl _ _ _ _ HQ.out HOl.out.s).mono ?_; rintro e w' ⟨rfl, hbn⟩; clear hx0 hx1; have HO2 := Lib.hid (HOl.out.next hbn); clear HOl; have HOl := HO2; clear HO2; have hx0 := HOl.out.l.x0; have hx1 := HOl.out.l.x1; clear HQ hbn))
      clear hx0 hx1
      go_loopg [13] S.length (fun g i W => ∃ k : Nat, k + g = S.length ∧ i = .int .i64 k ∧ Oz w w1 (.slice q1 ns.length cap) (.slice q up.length cap') (.slice sa S.length sc) ns up S (mB ls) (mB (S.take k)) W)
      case atStart => exact ⟨0, by omega, rfl, HOl.out⟩
      case round =>
        clear HOl
        obtain ⟨i, hig, rfl, hoz⟩ := hrel
        have HO := Lib.hid hoz; clear hoz
        cases gk with
        | zero =>
          have hiz : ¬ ((i : Int) < (S.length : Int)) := by omega
          have HOl : Hid (Oz w w1 (.slice q1 ns.length cap) (.slice q up.length cap') (.slice sa S.length sc) ns up S (mB ls) (mB ls) wr) := by
            have h1 := HO.out
            rw [List.take_of_length_le (by omega)] at h1
            refine ⟨h1.l, h1.s, h1.b, h1.i, h1.o.congr fun j hj => ?_⟩
            unfold mB
            congr 1
            rw [Bool.eq_iff_iff, decide_eq_true_iff, decide_eq_true_iff]
            exact HSd.out.mem j
          clear HO
          have hx0 := HOl.out.l.x0
          have hx1 := HOl.out.l.x1
          obtain ⟨⟨k0, k1, k2, k3⟩, k4, k5, k6, k7⟩ := cs8 HOl.out.i
          obtain ⟨⟨m0, m1, m2, m3⟩, m4, m5, m6, m7⟩ := cs8 HOl.out.o
          have heq : ∀ W, (Op.equalIn 10000 45 (.agg #[.bool (decide (0 ∈ ls)), .bool (decide (1 ∈ ls)), .bool (decide (2 ∈ ls)), .bool (decide (3 ∈ ls)), .bool (decide (4 ∈ ls)), .bool (decide (5 ∈ ls)), .bool (decide (6 ∈ ls)), .bool (decide (7 ∈ ls))]) (.agg #[.bool (decide (0 ∈ ls)), .bool (decide (1 ∈ ls)), .bool (decide (2 ∈ ls)), .bool (decide (3 ∈ ls)), .bool (decide (4 ∈ ls)), .bool (decide (5 ∈ ls)), .bool (decide (6 ∈ ls)), .bool (decide (7 ∈ ls))])).run Try.prog W = .ok true W := fun W => eq8 ls W
          generalize decide (0 ∈ ls) = b0 at k0 m0 heq
          generalize decide (1 ∈ ls) = b1 at k1 m1 heq
          generalize decide (2 ∈ ls) = b2 at k2 m2 heq
          generalize decide (3 ∈ ls) = b3 at k3 m3 heq
          generalize decide (4 ∈ ls) = b4 at k4 m4 heq
          generalize decide (5 ∈ ls) = b5 at k5 m5 heq
          generalize decide (6 ∈ ls) = b6 at k6 m6 heq
          generalize decide (7 ∈ ls) = b7 at k7 m7 heq
          go_wp2_with (go_at_call 9; refine (awake4_any _).mono ?_; rintro e w' ⟨rfl, hbn⟩; clear hx0 hx1 k0 m0 k1 m1 k2 m2 k3 m3 k4 m4 k5 m5 k6 m6 k7 m7; have HO2 := Lib.hid (HOl.out.next hbn); clear HOl; have HOl := HO2; clear HO2; clear hbn)
          go_ret
          exact ⟨ret_bool (by first | rfl | simp), HOl.out.l.bel⟩
        | succ g2 =>
          have hilt : (i : Int) < (S.length : Int) := by omega
          have hi' : i < S.length := by omega
          obtain ⟨b0, off, rfl, hlt0, hx⟩ := HO.out.s.at i hi'
          have HX : Hid (∃ x, S[i] = x) := ⟨_, rfl⟩
          have hlk := HSd.out.all S[i] (List.getElem_mem hi')
          have hl8 : S[i] < 8 := by have := HG.out.good.most; have := HG.out.good.len; omega
          have HP : Hid (∀ W, Oz w w1 (.slice q1 ns.length cap) (.slice q up.length cap') (.slice (some ⟨b0, off, none⟩) S.length sc) ns up S (mB ls) (mB (S.take i)) W → Oz w w1 (.slice q1 ns.length cap) (.slice q up.length cap') (.slice (some ⟨b0, off, none⟩) S.length sc) ns up S (mB ls) (mB (S.take (i + 1))) (W.setCell ⟨w1.heap.size + 1, S[i], none⟩ (.bool true))) := fun W h => h.put2 HI1.out HX1.out hi'
          have HC : Hid (∀ W, Oz w w1 (.slice q1 ns.length cap) (.slice q up.length cap') (.slice (some ⟨b0, off, none⟩) S.length sc) ns up S (mB ls) (mB (S.take i)) W → W.frozen? ⟨w1.heap.size + 1, S[i], none⟩ = false ∧ W.cell? ⟨w1.heap.size + 1, S[i], none⟩ = some (.bool false)) := fun W h => ⟨h.o.frozen _, by rw [h.o.cell hl8, mB_new HSd.out.nodup hi']⟩
          have hxl : S[i] < ns.length := by have := HG.out.good.len; omega
          obtain ⟨x, hxe⟩ : ∃ x, S[i] = x := ⟨_, rfl⟩
          have HXe := Lib.hid hxe
          rw [hxe] at hx hlk hl8 HP HC hxl
          clear hxe HX
          have hx8 : (x : Int) < 8 := by omega
          have hd0 : decide ((x : Int) < 0) = false := decide_eq_false (by omega)
          have hd1 : decide (ns.length ≤ x) = false := decide_eq_false (by omega)
          have hx0 := HO.out.l.x0
          have hx1 := HO.out.l.x1
          have kc := (HC.out _ HO.out).2
          have kf := (HC.out _ HO.out).1
          go_wp2_with fail
          go_quiet (fail)
          have HO1 := Lib.hid (HP.out _ (HO.out.next (drewN_below _ nq)))
          go_wp2_with fail
          clear hx hx0 hx1 kc kf HO hd0 hd1
          go_loopg [14] i (fun g k W => ∃ j : Nat, j + g = i ∧ k = .int .i64 j ∧ Oz w w1 (.slice q1 ns.length cap) (.slice q up.length cap') (.slice (some ⟨b0, off, none⟩) S.length sc) ns up S (mB ls) (mB (S.take (i + 1))) W)
          case atStart => exact ⟨0, by omega, rfl, HO1.out⟩
          case round =>
            clear HO1
            obtain ⟨k, hkg2, rfl, hoz⟩ := hrel
            have HOk := Lib.hid hoz; clear hoz
            cases gk with
            | zero =>
              have hkz2 : ¬ ((k : Int) < (i : Int)) := by omega
              go_wp2_with fail
              go_roundg g2
              case measure => omega
              case rel => exact ⟨i + 1, by omega, by go_num, HOk.out⟩
            | succ g4 =>
              have hklt2 : (k : Int) < (i : Int) := by omega
              have hkS : (k : Int) < (S.length : Int) := by omega
              have hk' : k < S.length := by omega
              have HF : Hid (le up S[i] S[k] = false) := HSd.out.fore i k (by omega) hi' hk'
              have HT : Hid (C = true → le up S[k] S[i] = true) := fun h => HSd.out.chain h i k (by omega) hi' hk'
              have hyl := HSd.out.all S[k] (List.getElem_mem hk')
              obtain ⟨y, hye⟩ : ∃ y, S[k] = y := ⟨_, rfl⟩
              have HYe := Lib.hid hye
              rw [HXe.out, hye] at HF HT
              rw [hye] at hyl
              clear hye
              have hyl8 : y < 8 := by have := HG.out.good.most; have := HG.out.good.len; omega
              cases C with
              | true =>
                  have HB1 : Hid (∀ W, RdL W.heap.size W (.agg #[.slice q1 ns.length cap, .slice q up.length cap']) ns up → Calls Try.prog 28 #[.agg #[.slice q1 ns.length cap, .slice q up.length cap'], .int .i64 (x : Nat), .int .i64 (y : Nat)] W fun e w' => e = .returned (.bool false) ∧ Below W.heap.size W w') := fun W hW => by have := rbel_any _ ns up x y W hW (by omega) (by omega); rwa [HF.out] at this
                  have HB2 : Hid (∀ W, RdL W.heap.size W (.agg #[.slice q1 ns.length cap, .slice q up.length cap']) ns up → Calls Try.prog 28 #[.agg #[.slice q1 ns.length cap, .slice q up.length cap'], .int .i64 (y : Nat), .int .i64 (x : Nat)] W fun e w' => e = .returned (.bool true) ∧ Below W.heap.size W w') := fun W hW => by have := rbel_any _ ns up y x W hW (by omega) (by omega); rwa [HT.out rfl] at this
                  go_wp2_with fail
                  refine wp_region_held_drew (S := (fun W => Oz w w1 (.slice q1 ns.length cap) (.slice q up.length cap') (.slice (some ⟨b0, off, none⟩) S.length sc) ns up S (mB ls) (mB (S.take (i + 1))) W ∧ W.cell? ⟨w.heap.size, 0, none⟩ = some (.slice q1 ns.length cap) ∧ W.cell? ⟨w.heap.size, 1, none⟩ = some (.slice q up.length cap') ∧ W.cell? ⟨b0, off + i, none⟩ = some (.int .i64 (x : Int)) ∧ W.cell? ⟨b0, off + k, none⟩ = some (.int .i64 (y : Int)))) (by kernel_rfl) ?_ (fun hHeld => ?_)
                  · exact oz_cn ⟨HOk.out, trivial⟩ (Below.refl _ _).drew hi' hk' HXe.out HYe.out
                  refine wpAnyH_take (i := 0) (v := ?_) rfl (by kernel_rfl) (by kernel_rfl) (by kernel_rfl) (fun _ _ _ h => h) (Or.inl ⟨by rfl, ?_⟩) (by assumption) ?_
                  rotate_left
                  · ((intro w0 hSw); (try dsimp only at hSw); go_simp; (try with_reducible rfl))
                  change wpAnyH _ _ _ _ _ _ _ (Act.put _ (some 123) _) _
                  try simp only [Act.put, List.setIfInBounds_toArray, List.set_cons_zero, List.set_cons_succ]
                  refine wpAnyH_take (i := 1) (v := ?_) rfl (by kernel_rfl) (by kernel_rfl) (by kernel_rfl) (fun _ _ _ h => h) (Or.inl ⟨by rfl, ?_⟩) (by assumption) ?_
                  rotate_left
                  · ((intro w0 hSw); (try dsimp only at hSw); go_simp; (try with_reducible rfl))
                  change wpAnyH _ _ _ _ _ _ _ (Act.put _ (some 124) _) _
                  try simp only [Act.put, List.setIfInBounds_toArray, List.set_cons_zero, List.set_cons_succ]
                  refine wpAnyH_take (i := 2) (v := ?_) rfl (by kernel_rfl) (by kernel_rfl) (by kernel_rfl) (fun _ _ _ h => h) (Or.inl ⟨by rfl, ?_⟩) (by assumption) ?_
                  rotate_left
                  · ((intro w0 hSw); (try dsimp only at hSw); go_simp; (try with_reducible rfl))
                  change wpAnyH _ _ _ _ _ _ _ (Act.put _ (some 125) _) _
                  try simp only [Act.put, List.setIfInBounds_toArray, List.set_cons_zero, List.set_cons_succ]
                  refine wpAnyH_take (i := 3) (v := ?_) rfl (by kernel_rfl) (by kernel_rfl) (by kernel_rfl) (fun _ _ _ h => h) (Or.inl ⟨by rfl, ?_⟩) (by assumption) ?_
                  rotate_left
                  · ((intro w0 hSw); (try dsimp only at hSw); go_simp; (try with_reducible rfl))
                  change wpAnyH _ _ _ _ _ _ _ (Act.put _ (some 126) _) _
                  try simp only [Act.put, List.setIfInBounds_toArray, List.set_cons_zero, List.set_cons_succ]
                  refine wpAnyH_take (i := 4) (v := ?_) rfl (by kernel_rfl) (by kernel_rfl) (by kernel_rfl) (fun _ _ _ h => h) (Or.inl ⟨by rfl, ?_⟩) (by assumption) ?_
                  rotate_left
                  · ((intro w0 hSw); (try dsimp only at hSw); go_simp; (try with_reducible rfl))
                  change wpAnyH _ _ _ _ _ _ _ (Act.put _ (some 127) _) _
                  try simp only [Act.put, List.setIfInBounds_toArray, List.set_cons_zero, List.set_cons_succ]
                  refine wpAnyH_take (i := 5) (v := ?_) rfl (by kernel_rfl) (by kernel_rfl) (by kernel_rfl) (fun _ _ _ h => h) (Or.inl ⟨by rfl, ?_⟩) (by assumption) ?_
                  rotate_left
                  · ((intro w0 hSw); (try dsimp only at hSw); go_simp; (try with_reducible rfl))
                  change wpAnyH _ _ _ _ _ _ _ (Act.put _ (some 128) _) _
                  try simp only [Act.put, List.setIfInBounds_toArray, List.set_cons_zero, List.set_cons_succ]
                  refine wpAnyH_take (i := 6) (v := ?_) rfl (by kernel_rfl) (by kernel_rfl) (by kernel_rfl) (fun _ _ _ h => h) (Or.inl ⟨by rfl, ?_⟩) (by assumption) ?_
                  rotate_left
                  · ((intro w0 hSw); (try dsimp only at hSw); go_simp; (try with_reducible rfl))
                  change wpAnyH _ _ _ _ _ _ _ (Act.put _ (some 129) _) _
                  try simp only [Act.put, List.setIfInBounds_toArray, List.set_cons_zero, List.set_cons_succ]
                  refine wpAnyH_take (i := 7) (v := ?_) rfl (by kernel_rfl) (by kernel_rfl) (by kernel_rfl) (fun _ _ _ h => h) (Or.inl ⟨by rfl, ?_⟩) (by assumption) ?_
                  rotate_left
                  · ((intro w0 hSw); (try dsimp only at hSw); go_simp; (try with_reducible rfl))
                  change wpAnyH _ _ _ _ _ _ _ (Act.put _ (some 130) _) _
                  try simp only [Act.put, List.setIfInBounds_toArray, List.set_cons_zero, List.set_cons_succ]
                  refine wpAnyH_take (i := 8) (v := ?_) rfl (by kernel_rfl) (by kernel_rfl) (by kernel_rfl) (fun _ _ _ h => h) (Or.inl ⟨by rfl, ?_⟩) (by assumption) ?_
                  rotate_left
                  · ((intro w0 hSw); (try dsimp only at hSw); go_simp; (try with_reducible rfl))
                  change wpAnyH _ _ _ _ _ _ _ (Act.put _ (some 131) _) _
                  try simp only [Act.put, List.setIfInBounds_toArray, List.set_cons_zero, List.set_cons_succ]
                  refine wpAnyH_ready (rs := [9]) (by kernel_rfl) (by simp) ?_
                  refine AllReadyH.cons rfl (fun K hK => ?_) AllReadyH.nil
                  go_simp
                  go_at_call 28; (with_reducible refine (HB1.out _ (oz_rd (by assumption))).mono ?_); rintro e wn ⟨rfl, hbn⟩
                  refine hK.out _ _ ?_ (fun hHeld2 => ?_)
                  · exact oz_cn (by assumption) hbn hi' hk' HXe.out HYe.out
                  clear hK K hHeld
                  have hHeld := hHeld2; clear hHeld2
                  try change wpAnyH _ _ _ _ _ _ _ (Act.put _ (some 132) _) _
                  try simp only [Act.put, List.setIfInBounds_toArray, List.set_cons_zero, List.set_cons_succ]
                  refine wpAnyH_take (i := 10) (v := ?_) rfl (by kernel_rfl) (by kernel_rfl) (by kernel_rfl) (fun _ _ _ h => h) (Or.inl ⟨by rfl, ?_⟩) (by assumption) ?_
                  rotate_left
                  · ((intro w0 hSw); (try dsimp only at hSw); go_simp; (try with_reducible rfl))
                  change wpAnyH _ _ _ _ _ _ _ (Act.put _ (some 133) _) _
                  try simp only [Act.put, List.setIfInBounds_toArray, List.set_cons_zero, List.set_cons_succ]
                  refine wpAnyH_take (i := 11) (v := ?_) rfl (by kernel_rfl) (by kernel_rfl) (by kernel_rfl) (fun _ _ _ h => h) (Or.inl ⟨by rfl, ?_⟩) (by assumption) ?_
                  rotate_left
                  · ((intro w0 hSw); (try dsimp only at hSw); go_simp; (try with_reducible rfl))
                  change wpAnyH _ _ _ _ _ _ _ (Act.put _ (some 134) _) _
                  try simp only [Act.put, List.setIfInBounds_toArray, List.set_cons_zero, List.set_cons_succ]
                  refine wpAnyH_take (i := 12) (v := ?_) rfl (by kernel_rfl) (by kernel_rfl) (by kernel_rfl) (fun _ _ _ h => h) (Or.inl ⟨by rfl, ?_⟩) (by assumption) ?_
                  rotate_left
                  · ((intro w0 hSw); (try dsimp only at hSw); go_simp; (try with_reducible rfl))
                  change wpAnyH _ _ _ _ _ _ _ (Act.put _ (some 135) _) _
                  try simp only [Act.put, List.setIfInBounds_toArray, List.set_cons_zero, List.set_cons_succ]
                  refine wpAnyH_take (i := 13) (v := ?_) rfl (by kernel_rfl) (by kernel_rfl) (by kernel_rfl) (fun _ _ _ h => h) (Or.inl ⟨by rfl, ?_⟩) (by assumption) ?_
                  rotate_left
                  · ((intro w0 hSw); (try dsimp only at hSw); go_simp; (try with_reducible rfl))
                  change wpAnyH _ _ _ _ _ _ _ (Act.put _ (some 136) _) _
                  try simp only [Act.put, List.setIfInBounds_toArray, List.set_cons_zero, List.set_cons_succ]
                  refine wpAnyH_take (i := 14) (v := ?_) rfl (by kernel_rfl) (by kernel_rfl) (by kernel_rfl) (fun _ _ _ h => h) (Or.inl ⟨by rfl, ?_⟩) (by assumption) ?_
                  rotate_left
                  · ((intro w0 hSw); (try dsimp only at hSw); go_simp; (try with_reducible rfl))
                  change wpAnyH _ _ _ _ _ _ _ (Act.put _ (some 137) _) _
                  try simp only [Act.put, List.setIfInBounds_toArray, List.set_cons_zero, List.set_cons_succ]
                  refine wpAnyH_take (i := 15) (v := ?_) rfl (by kernel_rfl) (by kernel_rfl) (by kernel_rfl) (fun _ _ _ h => h) (Or.inl ⟨by rfl, ?_⟩) (by assumption) ?_
                  rotate_left
                  · ((intro w0 hSw); (try dsimp only at hSw); go_simp; (try with_reducible rfl))
                  change wpAnyH _ _ _ _ _ _ _ (Act.put _ (some 138) _) _
                  try simp only [Act.put, List.setIfInBounds_toArray, List.set_cons_zero, List.set_cons_succ]
                  refine wpAnyH_take (i := 16) (v := ?_) rfl (by kernel_rfl) (by kernel_rfl) (by kernel_rfl) (fun _ _ _ h => h) (Or.inl ⟨by rfl, ?_⟩) (by assumption) ?_
                  rotate_left
                  · ((intro w0 hSw); (try dsimp only at hSw); go_simp; (try with_reducible rfl))
                  change wpAnyH _ _ _ _ _ _ _ (Act.put _ (some 139) _) _
                  try simp only [Act.put, List.setIfInBounds_toArray, List.set_cons_zero, List.set_cons_succ]
                  refine wpAnyH_take (i := 17) (v := ?_) rfl (by kernel_rfl) (by kernel_rfl) (by kernel_rfl) (fun _ _ _ h => h) (Or.inl ⟨by rfl, ?_⟩) (by assumption) ?_
                  rotate_left
                  · ((intro w0 hSw); (try dsimp only at hSw); go_simp; (try with_reducible rfl))
                  change wpAnyH _ _ _ _ _ _ _ (Act.put _ (some 140) _) _
                  try simp only [Act.put, List.setIfInBounds_toArray, List.set_cons_zero, List.set_cons_succ]
                  refine wpAnyH_take (i := 18) (v := ?_) rfl (by kernel_rfl) (by kernel_rfl) (by kernel_rfl) (fun _ _ _ h => h) (Or.inl ⟨by rfl, ?_⟩) (by assumption) ?_
                  rotate_left
                  · ((intro w0 hSw); (try dsimp only at hSw); go_simp; (try with_reducible rfl))
                  change wpAnyH _ _ _ _ _ _ _ (Act.put _ (some 141) _) _
                  try simp only [Act.put, List.setIfInBounds_toArray, List.set_cons_zero, List.set_cons_succ]
                  refine wpAnyH_take (i := 19) (v := ?_) rfl (by kernel_rfl) (by kernel_rfl) (by kernel_rfl) (fun _ _ _ h => h) (Or.inl ⟨by rfl, ?_⟩) (by assumption) ?_
                  rotate_left
                  · ((intro w0 hSw); (try dsimp only at hSw); go_simp; (try with_reducible rfl))
                  change wpAnyH _ _ _ _ _ _ _ (Act.put _ (some 142) _) _
                  try simp only [Act.put, List.setIfInBounds_toArray, List.set_cons_zero, List.set_cons_succ]
                  refine wpAnyH_take (i := 20) (v := ?_) rfl (by kernel_rfl) (by kernel_rfl) (by kernel_rfl) (fun _ _ _ h => h) (Or.inl ⟨by rfl, ?_⟩) (by assumption) ?_
                  rotate_left
                  · ((intro w0 hSw); (try dsimp only at hSw); go_simp; (try with_reducible rfl))
                  change wpAnyH _ _ _ _ _ _ _ (Act.put _ (some 143) _) _
                  try simp only [Act.put, List.setIfInBounds_toArray, List.set_cons_zero, List.set_cons_succ]
                  refine wpAnyH_take (i := 21) (v := ?_) rfl (by kernel_rfl) (by kernel_rfl) (by kernel_rfl) (fun _ _ _ h => h) (Or.inl ⟨by rfl, ?_⟩) (by assumption) ?_
                  rotate_left
                  · ((intro w0 hSw); (try dsimp only at hSw); go_simp; (try with_reducible rfl))
                  change wpAnyH _ _ _ _ _ _ _ (Act.put _ (some 144) _) _
                  try simp only [Act.put, List.setIfInBounds_toArray, List.set_cons_zero, List.set_cons_succ]
                  refine wpAnyH_ready (rs := [22]) (by kernel_rfl) (by simp) ?_
                  refine AllReadyH.cons rfl (fun K hK => ?_) AllReadyH.nil
                  go_simp
                  go_at_call 28; (with_reducible refine (HB2.out _ (oz_rd (by assumption))).mono ?_); rintro e wn ⟨rfl, hbn⟩
                  refine hK.out _ _ ?_ (fun hHeld2 => ?_)
                  · exact oz_cn (by assumption) hbn hi' hk' HXe.out HYe.out
                  clear hK K hHeld
                  have hHeld := hHeld2; clear hHeld2
                  try change wpAnyH _ _ _ _ _ _ _ (Act.put _ (some 145) _) _
                  try simp only [Act.put, List.setIfInBounds_toArray, List.set_cons_zero, List.set_cons_succ]
                  refine wpAnyH_take (i := 23) (v := ?_) rfl (by kernel_rfl) (by kernel_rfl) (by kernel_rfl) (fun _ _ _ h => h) (Or.inl ⟨by rfl, ?_⟩) (by assumption) ?_
                  rotate_left
                  · ((intro w0 hSw); (try dsimp only at hSw); go_simp; (try with_reducible rfl))
                  change wpAnyH _ _ _ _ _ _ _ (Act.put _ (some 146) _) _
                  try simp only [Act.put, List.setIfInBounds_toArray, List.set_cons_zero, List.set_cons_succ]
                  refine wpAnyH_take (i := 24) (v := ?_) rfl (by kernel_rfl) (by kernel_rfl) (by kernel_rfl) (fun _ _ _ h => h) (Or.inl ⟨by rfl, ?_⟩) (by assumption) ?_
                  rotate_left
                  · ((intro w0 hSw); (try dsimp only at hSw); go_simp; (try with_reducible rfl))
                  change wpAnyH _ _ _ _ _ _ _ (Act.put _ (some 147) _) _
                  try simp only [Act.put, List.setIfInBounds_toArray, List.set_cons_zero, List.set_cons_succ]
                  refine wpAnyH_take (i := 25) (v := ?_) rfl (by kernel_rfl) (by kernel_rfl) (by kernel_rfl) (fun _ _ _ h => h) (Or.inl ⟨by rfl, ?_⟩) (by assumption) ?_
                  rotate_left
                  · ((intro w0 hSw); (try dsimp only at hSw); go_simp; (try with_reducible rfl))
                  change wpAnyH _ _ _ _ _ _ _ (Act.put _ (some 148) _) _
                  try simp only [Act.put, List.setIfInBounds_toArray, List.set_cons_zero, List.set_cons_succ]
                  refine wpAnyH_done (by kernel_rfl) ?_ _
                  have HE := Lib.hid (by assumption : Oz _ _ _ _ _ _ _ _ _ _ _ ∧ _).1
                  go_wp2_with fail
                  go_roundg g4
                  case measure => omega
                  case rel => exact ⟨k + 1, by omega, by go_num, HE.out⟩
              | false =>
                  have HB1 : Hid (∀ W, RdL W.heap.size W (.agg #[.slice q1 ns.length cap, .slice q up.length cap']) ns up → Calls Try.prog 28 #[.agg #[.slice q1 ns.length cap, .slice q up.length cap'], .int .i64 (x : Nat), .int .i64 (y : Nat)] W fun e w' => e = .returned (.bool false) ∧ Below W.heap.size W w') := fun W hW => by have := rbel_any _ ns up x y W hW (by omega) (by omega); rwa [HF.out] at this
                  go_wp2_with fail
                  refine wp_region_held_drew (S := (fun W => Oz w w1 (.slice q1 ns.length cap) (.slice q up.length cap') (.slice (some ⟨b0, off, none⟩) S.length sc) ns up S (mB ls) (mB (S.take (i + 1))) W ∧ W.cell? ⟨w.heap.size, 0, none⟩ = some (.slice q1 ns.length cap) ∧ W.cell? ⟨w.heap.size, 1, none⟩ = some (.slice q up.length cap') ∧ W.cell? ⟨b0, off + i, none⟩ = some (.int .i64 (x : Int)) ∧ W.cell? ⟨b0, off + k, none⟩ = some (.int .i64 (y : Int)))) (by kernel_rfl) ?_ (fun hHeld => ?_)
                  · exact oz_cn ⟨HOk.out, trivial⟩ (Below.refl _ _).drew hi' hk' HXe.out HYe.out
                  refine wpAnyH_take (i := 0) (v := ?_) rfl (by kernel_rfl) (by kernel_rfl) (by kernel_rfl) (fun _ _ _ h => h) (Or.inl ⟨by rfl, ?_⟩) (by assumption) ?_
                  rotate_left
                  · ((intro w0 hSw); (try dsimp only at hSw); go_simp; (try with_reducible rfl))
                  change wpAnyH _ _ _ _ _ _ _ (Act.put _ (some 123) _) _
                  try simp only [Act.put, List.setIfInBounds_toArray, List.set_cons_zero, List.set_cons_succ]
                  refine wpAnyH_take (i := 1) (v := ?_) rfl (by kernel_rfl) (by kernel_rfl) (by kernel_rfl) (fun _ _ _ h => h) (Or.inl ⟨by rfl, ?_⟩) (by assumption) ?_
                  rotate_left
                  · ((intro w0 hSw); (try dsimp only at hSw); go_simp; (try with_reducible rfl))
                  change wpAnyH _ _ _ _ _ _ _ (Act.put _ (some 124) _) _
                  try simp only [Act.put, List.setIfInBounds_toArray, List.set_cons_zero, List.set_cons_succ]
                  refine wpAnyH_take (i := 2) (v := ?_) rfl (by kernel_rfl) (by kernel_rfl) (by kernel_rfl) (fun _ _ _ h => h) (Or.inl ⟨by rfl, ?_⟩) (by assumption) ?_
                  rotate_left
                  · ((intro w0 hSw); (try dsimp only at hSw); go_simp; (try with_reducible rfl))
                  change wpAnyH _ _ _ _ _ _ _ (Act.put _ (some 125) _) _
                  try simp only [Act.put, List.setIfInBounds_toArray, List.set_cons_zero, List.set_cons_succ]
                  refine wpAnyH_take (i := 3) (v := ?_) rfl (by kernel_rfl) (by kernel_rfl) (by kernel_rfl) (fun _ _ _ h => h) (Or.inl ⟨by rfl, ?_⟩) (by assumption) ?_
                  rotate_left
                  · ((intro w0 hSw); (try dsimp only at hSw); go_simp; (try with_reducible rfl))
                  change wpAnyH _ _ _ _ _ _ _ (Act.put _ (some 126) _) _
                  try simp only [Act.put, List.setIfInBounds_toArray, List.set_cons_zero, List.set_cons_succ]
                  refine wpAnyH_take (i := 4) (v := ?_) rfl (by kernel_rfl) (by kernel_rfl) (by kernel_rfl) (fun _ _ _ h => h) (Or.inl ⟨by rfl, ?_⟩) (by assumption) ?_
                  rotate_left
                  · ((intro w0 hSw); (try dsimp only at hSw); go_simp; (try with_reducible rfl))
                  change wpAnyH _ _ _ _ _ _ _ (Act.put _ (some 127) _) _
                  try simp only [Act.put, List.setIfInBounds_toArray, List.set_cons_zero, List.set_cons_succ]
                  refine wpAnyH_take (i := 5) (v := ?_) rfl (by kernel_rfl) (by kernel_rfl) (by kernel_rfl) (fun _ _ _ h => h) (Or.inl ⟨by rfl, ?_⟩) (by assumption) ?_
                  rotate_left
                  · ((intro w0 hSw); (try dsimp only at hSw); go_simp; (try with_reducible rfl))
                  change wpAnyH _ _ _ _ _ _ _ (Act.put _ (some 128) _) _
                  try simp only [Act.put, List.setIfInBounds_toArray, List.set_cons_zero, List.set_cons_succ]
                  refine wpAnyH_take (i := 6) (v := ?_) rfl (by kernel_rfl) (by kernel_rfl) (by kernel_rfl) (fun _ _ _ h => h) (Or.inl ⟨by rfl, ?_⟩) (by assumption) ?_
                  rotate_left
                  · ((intro w0 hSw); (try dsimp only at hSw); go_simp; (try with_reducible rfl))
                  change wpAnyH _ _ _ _ _ _ _ (Act.put _ (some 129) _) _
                  try simp only [Act.put, List.setIfInBounds_toArray, List.set_cons_zero, List.set_cons_succ]
                  refine wpAnyH_take (i := 7) (v := ?_) rfl (by kernel_rfl) (by kernel_rfl) (by kernel_rfl) (fun _ _ _ h => h) (Or.inl ⟨by rfl, ?_⟩) (by assumption) ?_
                  rotate_left
                  · ((intro w0 hSw); (try dsimp only at hSw); go_simp; (try with_reducible rfl))
                  change wpAnyH _ _ _ _ _ _ _ (Act.put _ (some 130) _) _
                  try simp only [Act.put, List.setIfInBounds_toArray, List.set_cons_zero, List.set_cons_succ]
                  refine wpAnyH_take (i := 8) (v := ?_) rfl (by kernel_rfl) (by kernel_rfl) (by kernel_rfl) (fun _ _ _ h => h) (Or.inl ⟨by rfl, ?_⟩) (by assumption) ?_
                  rotate_left
                  · ((intro w0 hSw); (try dsimp only at hSw); go_simp; (try with_reducible rfl))
                  change wpAnyH _ _ _ _ _ _ _ (Act.put _ (some 131) _) _
                  try simp only [Act.put, List.setIfInBounds_toArray, List.set_cons_zero, List.set_cons_succ]
                  refine wpAnyH_ready (rs := [9]) (by kernel_rfl) (by simp) ?_
                  refine AllReadyH.cons rfl (fun K hK => ?_) AllReadyH.nil
                  go_simp
                  go_at_call 28; (with_reducible refine (HB1.out _ (oz_rd (by assumption))).mono ?_); rintro e wn ⟨rfl, hbn⟩
                  refine hK.out _ _ ?_ (fun hHeld2 => ?_)
                  · exact oz_cn (by assumption) hbn hi' hk' HXe.out HYe.out
                  clear hK K hHeld
                  have hHeld := hHeld2; clear hHeld2
                  try change wpAnyH _ _ _ _ _ _ _ (Act.put _ (some 132) _) _
                  try simp only [Act.put, List.setIfInBounds_toArray, List.set_cons_zero, List.set_cons_succ]
                  refine wpAnyH_take (i := 10) (v := ?_) rfl (by kernel_rfl) (by kernel_rfl) (by kernel_rfl) (fun _ _ _ h => h) (Or.inl ⟨by rfl, ?_⟩) (by assumption) ?_
                  rotate_left
                  · ((intro w0 hSw); (try dsimp only at hSw); go_simp; (try with_reducible rfl))
                  change wpAnyH _ _ _ _ _ _ _ (Act.put _ (some 133) _) _
                  try simp only [Act.put, List.setIfInBounds_toArray, List.set_cons_zero, List.set_cons_succ]
                  refine wpAnyH_take (i := 11) (v := ?_) rfl (by kernel_rfl) (by kernel_rfl) (by kernel_rfl) (fun _ _ _ h => h) (Or.inl ⟨by rfl, ?_⟩) (by assumption) ?_
                  rotate_left
                  · ((intro w0 hSw); (try dsimp only at hSw); go_simp; (try with_reducible rfl))
                  change wpAnyH _ _ _ _ _ _ _ (Act.put _ (some 134) _) _
                  try simp only [Act.put, List.setIfInBounds_toArray, List.set_cons_zero, List.set_cons_succ]
                  refine wpAnyH_take (i := 12) (v := ?_) rfl (by kernel_rfl) (by kernel_rfl) (by kernel_rfl) (fun _ _ _ h => h) (Or.inl ⟨by rfl, ?_⟩) (by assumption) ?_
                  rotate_left
                  · ((intro w0 hSw); (try dsimp only at hSw); go_simp; (try with_reducible rfl))
                  change wpAnyH _ _ _ _ _ _ _ (Act.put _ (some 135) _) _
                  try simp only [Act.put, List.setIfInBounds_toArray, List.set_cons_zero, List.set_cons_succ]
                  refine wpAnyH_take (i := 13) (v := undef) rfl (by kernel_rfl) (by kernel_rfl) (by kernel_rfl) (fun _ _ _ h => h) (Or.inr ⟨by rfl, rfl⟩) (by assumption) ?_
                  change wpAnyH _ _ _ _ _ _ _ (Act.put _ (some 136) _) _
                  try simp only [Act.put, List.setIfInBounds_toArray, List.set_cons_zero, List.set_cons_succ]
                  refine wpAnyH_take (i := 14) (v := undef) rfl (by kernel_rfl) (by kernel_rfl) (by kernel_rfl) (fun _ _ _ h => h) (Or.inr ⟨by rfl, rfl⟩) (by assumption) ?_
                  change wpAnyH _ _ _ _ _ _ _ (Act.put _ (some 137) _) _
                  try simp only [Act.put, List.setIfInBounds_toArray, List.set_cons_zero, List.set_cons_succ]
                  refine wpAnyH_take (i := 15) (v := undef) rfl (by kernel_rfl) (by kernel_rfl) (by kernel_rfl) (fun _ _ _ h => h) (Or.inr ⟨by rfl, rfl⟩) (by assumption) ?_
                  change wpAnyH _ _ _ _ _ _ _ (Act.put _ (some 138) _) _
                  try simp only [Act.put, List.setIfInBounds_toArray, List.set_cons_zero, List.set_cons_succ]
                  refine wpAnyH_take (i := 16) (v := undef) rfl (by kernel_rfl) (by kernel_rfl) (by kernel_rfl) (fun _ _ _ h => h) (Or.inr ⟨by rfl, rfl⟩) (by assumption) ?_
                  change wpAnyH _ _ _ _ _ _ _ (Act.put _ (some 139) _) _
                  try simp only [Act.put, List.setIfInBounds_toArray, List.set_cons_zero, List.set_cons_succ]
                  refine wpAnyH_take (i := 17) (v := undef) rfl (by kernel_rfl) (by kernel_rfl) (by kernel_rfl) (fun _ _ _ h => h) (Or.inr ⟨by rfl, rfl⟩) (by assumption) ?_
                  change wpAnyH _ _ _ _ _ _ _ (Act.put _ (some 140) _) _
                  try simp only [Act.put, List.setIfInBounds_toArray, List.set_cons_zero, List.set_cons_succ]
                  refine wpAnyH_take (i := 18) (v := undef) rfl (by kernel_rfl) (by kernel_rfl) (by kernel_rfl) (fun _ _ _ h => h) (Or.inr ⟨by rfl, rfl⟩) (by assumption) ?_
                  change wpAnyH _ _ _ _ _ _ _ (Act.put _ (some 141) _) _
                  try simp only [Act.put, List.setIfInBounds_toArray, List.set_cons_zero, List.set_cons_succ]
                  refine wpAnyH_take (i := 19) (v := undef) rfl (by kernel_rfl) (by kernel_rfl) (by kernel_rfl) (fun _ _ _ h => h) (Or.inr ⟨by rfl, rfl⟩) (by assumption) ?_
                  change wpAnyH _ _ _ _ _ _ _ (Act.put _ (some 142) _) _
                  try simp only [Act.put, List.setIfInBounds_toArray, List.set_cons_zero, List.set_cons_succ]
                  refine wpAnyH_take (i := 20) (v := undef) rfl (by kernel_rfl) (by kernel_rfl) (by kernel_rfl) (fun _ _ _ h => h) (Or.inr ⟨by rfl, rfl⟩) (by assumption) ?_
                  change wpAnyH _ _ _ _ _ _ _ (Act.put _ (some 143) _) _
                  try simp only [Act.put, List.setIfInBounds_toArray, List.set_cons_zero, List.set_cons_succ]
                  refine wpAnyH_take (i := 21) (v := undef) rfl (by kernel_rfl) (by kernel_rfl) (by kernel_rfl) (fun _ _ _ h => h) (Or.inr ⟨by rfl, rfl⟩) (by assumption) ?_
                  change wpAnyH _ _ _ _ _ _ _ (Act.put _ (some 144) _) _
                  try simp only [Act.put, List.setIfInBounds_toArray, List.set_cons_zero, List.set_cons_succ]
                  refine wpAnyH_take (i := 22) (v := undef) rfl (by kernel_rfl) (by kernel_rfl) (by kernel_rfl) (fun _ _ _ h => h) (Or.inr ⟨by rfl, rfl⟩) (by assumption) ?_
                  change wpAnyH _ _ _ _ _ _ _ (Act.put _ (some 145) _) _
                  try simp only [Act.put, List.setIfInBounds_toArray, List.set_cons_zero, List.set_cons_succ]
                  refine wpAnyH_take (i := 23) (v := undef) rfl (by kernel_rfl) (by kernel_rfl) (by kernel_rfl) (fun _ _ _ h => h) (Or.inr ⟨by rfl, rfl⟩) (by assumption) ?_
                  change wpAnyH _ _ _ _ _ _ _ (Act.put _ (some 146) _) _
                  try simp only [Act.put, List.setIfInBounds_toArray, List.set_cons_zero, List.set_cons_succ]
                  refine wpAnyH_take (i := 24) (v := ?_) rfl (by kernel_rfl) (by kernel_rfl) (by kernel_rfl) (fun _ _ _ h => h) (Or.inl ⟨by rfl, ?_⟩) (by assumption) ?_
                  rotate_left
                  · ((intro w0 hSw); (try dsimp only at hSw); go_simp; (try with_reducible rfl))
                  change wpAnyH _ _ _ _ _ _ _ (Act.put _ (some 147) _) _
                  try simp only [Act.put, List.setIfInBounds_toArray, List.set_cons_zero, List.set_cons_succ]
                  refine wpAnyH_take (i := 25) (v := ?_) rfl (by kernel_rfl) (by kernel_rfl) (by kernel_rfl) (fun _ _ _ h => h) (Or.inl ⟨by rfl, ?_⟩) (by assumption) ?_
                  rotate_left
                  · ((intro w0 hSw); (try dsimp only at hSw); go_simp; (try with_reducible rfl))
                  change wpAnyH _ _ _ _ _ _ _ (Act.put _ (some 148) _) _
                  try simp only [Act.put, List.setIfInBounds_toArray, List.set_cons_zero, List.set_cons_succ]
                  refine wpAnyH_done (by kernel_rfl) ?_ _
                  have HE := Lib.hid (by assumption : Oz _ _ _ _ _ _ _ _ _ _ _ ∧ _).1
                  go_wp2_with fail
                  go_roundg g4
                  case measure => omega
                  case rel => exact ⟨k + 1, by omega, by go_num, HE.out⟩
    | succ g =>
      have hlt : (k : Int) < (ls.length : Int) := by omega
      have hk : k < ls.length := by omega
      obtain ⟨b0, off, rfl, hlt0, hx⟩ := (HZ.out.below HO.out.l.bel).at k hk
      have hlk := HG.out.all ls[k] (List.getElem_mem hk)
      have hl8 := HG.out.all8 ls[k] (List.getElem_mem hk)
      have HP := Lib.hid (HO.out.put HI1.out HX1.out hk)
      have kf : wr.frozen? ⟨w1.heap.size, ls[k], none⟩ = false := HO.out.i.frozen _
      have kc := HO.out.i.cell (i := ls[k]) hl8
      generalize ls[k] = x at hx hlk hl8 HP kf kc
      have hx8 : (x : Int) < 8 := by omega
      go_wp2_with fail
      go_roundg g
      case measure => omega
      case rel => exact ⟨k + 1, by omega, by go_num, HP.out⟩

theorem lawOrder_any (v u : Value) (ns : List ByteArray) (up : List UInt8) (zs : List Int) (w : World) (hv : RdL w.heap.size w v ns up) (hz : RdI w.heap.size w u zs) :
    Calls Try.prog 6 #[v, u] w fun e w' => e = .returned (.bool true) ∧ Below w.heap.size w w' := by
  cases e0 : farB ns up
  · by_cases h8 : (80 : Int) < (zs.length : Int)
    · exact lawOrder_long v u ns up zs w hv hz e0 h8
    · cases e1 : ((lck ns up zs).2 != 0)
      · obtain ⟨ls, rfl, hg⟩ := gl_of e1
        exact lawOrder_ok v u ns up ls w hv (rd_nat hz) e0 hg
      · exact lawOrder_bad v u ns up zs w hv hz e0 h8 e1
  · exact lawOrder_far v u ns up zs w hv hz e0
end Go.Proofs.Ytdkljpoecdinjaa
