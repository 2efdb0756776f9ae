/- The law LatticeAlgebra as a walk. -/
import Derived.Test.YtdgnogkdiakjoaaLtP
import Derived.Deep.RegionHeld3
import Derived.Deep.QuietTactic
import Derived.RegionTactic
namespace Go.Proofs.Ytdgnogkdiakjoaa
open Go.RowKit

/-- The cells of the law's tables. -/
def itb (r : Nat → Nat → Nat) (i : Nat) : Value := .int .i64 ((r (i / 8) (i % 8) : Nat) : Int)
def upd (r : Nat → Nat → Nat) (a b v : Nat) : Nat → Nat → Nat := fun x y => if x = a ∧ y = b then v else r x y
theorem itb_set {w : World} {R : Nat} {t : TypeId} {r : Nat → Nat → Nat} {a b v : Nat} (h : w.rowIs R t 64 (itb r)) (hb : b < 8) : (w.setCell ⟨R, a * 8 + b, none⟩ (.int .i64 (v : Int))).rowIs R t 64 (itb (upd r a b v)) := by
  refine (h.set (a * 8 + b) _).congr fun i hi => ?_
  show (if i = a * 8 + b then Value.int .i64 (v : Int) else itb r i) = itb (upd r a b v) i
  unfold itb upd
  by_cases e : i = a * 8 + b
  · rw [if_pos e, if_pos ⟨by omega, by omega⟩]
  · rw [if_neg e, if_neg (by omega)]
theorem itb_at {w : World} {R : Nat} {t : TypeId} {r : Nat → Nat → Nat} {a b v : Nat} (h : w.rowIs R t 64 (itb r)) (ha : a < 8) (hb : b < 8) (hv : r a b = v) : w.cell? ⟨R, a * 8 + b, none⟩ = some (.int .i64 (v : Int)) := by
  rw [h.cell (by omega)]
  unfold itb
  rw [show (a * 8 + b) / 8 = a by omega, show (a * 8 + b) % 8 = b by omega, hv]
/-- A table is filled, as far as a row and a column. -/
def Tz (n : Nat) (g r : Nat → Nat → Nat) (a b : Nat) : Prop := ∀ x y, x < n → y < n → (x < a ∨ (x = a ∧ y < b)) → r x y = g x y
theorem tz_upd {n : Nat} {g r : Nat → Nat → Nat} {a b : Nat} (h : Tz n g r a b) : Tz n g (upd r a b (g a b)) a (b + 1) := fun x y hx hy hxy => by
  unfold upd
  by_cases e : x = a ∧ y = b
  · rw [if_pos e, e.1, e.2]
  · rw [if_neg e]; exact h x y hx hy (by omega)
theorem tz_row {n : Nat} {g r : Nat → Nat → Nat} {a b : Nat} (h : Tz n g r a b) (hb : n ≤ b) : Tz n g r (a + 1) 0 := fun x y hx hy hxy => h x y hx hy (by omega)
theorem rep64 (w : World) (t : TypeId) : (w.alloc (.cells (Array.replicate 64 (Value.int .i64 0)) t)).rowIs w.heap.size t 64 (itb fun _ _ => 0) :=
  World.rowIs_alloc w (Array.replicate 64 (Value.int .i64 0)) t _ (fun i hi => by rw [Array.getElem?_replicate, if_pos (by simpa using hi)]; rfl)

/-- What the law keeps. -/
structure Az (w w0 : World) (vn vu : Value) (ns : List ByteArray) (up : List UInt8) (r s : Nat → Nat → Nat) (W : World) : Prop where
  l : Bx w vn vu ns up W
  b : Below w0.heap.size w0 W
  j : W.rowIs w0.heap.size 32 64 (itb r)
  m : W.rowIs (w0.heap.size + 1) 32 64 (itb s)
section
variable {w w0 W W' : World} {vn vu : Value} {ns : List ByteArray} {up : List UInt8} {r s : Nat → Nat → Nat}
theorem Az.next (h : Az w w0 vn vu ns up r s W) (hb : Below W.heap.size W W') : Az w w0 vn vu ns up r s W' :=
  ⟨h.l.next hb, h.b.trans (hb.mono h.b.size), h.j.of_block (hb.block _ h.j.lt), h.m.of_block (hb.block _ h.m.lt)⟩
theorem Az.drew (h : Az w w0 vn vu ns up r s W) : Az w w0 vn vu ns up r s W.drew := h.next (Below.refl _ _).drew
theorem az_0 (hI : Bx w vn vu ns up w0) : Az w w0 vn vu ns up (fun _ _ => 0) (fun _ _ => 0) ((w0.alloc (.cells (Array.replicate 64 (Value.int .i64 0)) 32)).alloc (.cells (Array.replicate 64 (Value.int .i64 0)) 32)) := by
  have hb : Below w0.heap.size w0 ((w0.alloc (.cells (Array.replicate 64 (Value.int .i64 0)) 32)).alloc (.cells (Array.replicate 64 (Value.int .i64 0)) 32)) := ((Below.refl _ _).alloc (Nat.le_refl _) _).alloc (by simp) _
  refine ⟨hI.next hb, hb, (rep64 w0 _).alloc _, ?_⟩
  have h := rep64 (w0.alloc (.cells (Array.replicate 64 (Value.int .i64 0)) 32)) 32
  rw [show (w0.alloc (.cells (Array.replicate 64 (Value.int .i64 0)) 32)).heap.size = w0.heap.size + 1 by simp] at h
  exact h
theorem Az.putj {a b v : Nat} (hI : Bx w vn vu ns up w0) (h : Az w w0 vn vu ns up r s W) (hb : b < 8) : Az w w0 vn vu ns up (upd r a b v) s (W.setCell ⟨w0.heap.size, a * 8 + b, none⟩ (.int .i64 (v : Int))) := by
  have hB : Below w0.heap.size w0 (W.setCell ⟨w0.heap.size, a * 8 + b, none⟩ (.int .i64 (v : Int))) := h.b.setCell (p := ⟨w0.heap.size, a * 8 + b, none⟩) (Nat.le_refl _) _
  exact ⟨hI.next hB, hB, itb_set h.j hb, h.m.setOther (by show w0.heap.size + 1 ≠ w0.heap.size; omega) _⟩
theorem Az.putm {a b v : Nat} (hI : Bx w vn vu ns up w0) (h : Az w w0 vn vu ns up r s W) (hb : b < 8) : Az w w0 vn vu ns up r (upd s a b v) (W.setCell ⟨w0.heap.size + 1, a * 8 + b, none⟩ (.int .i64 (v : Int))) := by
  have hB : Below w0.heap.size w0 (W.setCell ⟨w0.heap.size + 1, a * 8 + b, none⟩ (.int .i64 (v : Int))) := h.b.setCell (p := ⟨w0.heap.size + 1, a * 8 + b, none⟩) (Nat.le_succ _) _
  exact ⟨hI.next hB, hB, h.j.setOther (by show w0.heap.size ≠ w0.heap.size + 1; omega) _, itb_set h.m hb⟩
/-- What the great region keeps: six cells. -/
theorem az_6 {a b x y : Nat} (h : Az w w0 vn vu ns up r s W) (ha : a < 8) (hb : b < 8) (hx : x < 8) (hy : y < 8) (h1 : r a b = x) (h2 : r b a = x) (h3 : s a b = y) (h4 : s b a = y) (h5 : r a y = a) (h6 : s a x = a) :
    Az w w0 vn vu ns up r s W ∧ W.cell? ⟨w.heap.size, 0, none⟩ = some vn ∧ W.cell? ⟨w.heap.size, 1, none⟩ = some vu ∧ W.cell? ⟨w0.heap.size, a * 8 + b, none⟩ = some (.int .i64 (x : Int)) ∧ W.cell? ⟨w0.heap.size, b * 8 + a, none⟩ = some (.int .i64 (x : Int)) ∧ W.cell? ⟨w0.heap.size + 1, a * 8 + b, none⟩ = some (.int .i64 (y : Int)) ∧ W.cell? ⟨w0.heap.size + 1, b * 8 + a, none⟩ = some (.int .i64 (y : Int)) ∧ W.cell? ⟨w0.heap.size, a * 8 + y, none⟩ = some (.int .i64 (a : Int)) ∧ W.cell? ⟨w0.heap.size + 1, a * 8 + x, none⟩ = some (.int .i64 (a : Int)) :=
  ⟨h, h.l.x0, h.l.x1, itb_at h.j ha hb h1, itb_at h.j hb ha h2, itb_at h.m ha hb h3, itb_at h.m hb ha h4, itb_at h.j ha hy h5, itb_at h.m ha hx h6⟩
theorem drewN_bl (w : World) (n : Nat) : Below w.heap.size w (w.drewN n) := below_drewN (Below.refl _ _) n
theorem az_rd {P : Prop} (h : Az w w0 vn vu ns up r s W ∧ P) : RdL W.heap.size W (.agg #[vn, vu]) ns up := h.1.l.rd
end

set_option maxRecDepth 100000 in
set_option maxHeartbeats 8000000 in
theorem lawAlgebra_far (v : Value) (ns : List ByteArray) (up : List UInt8) (w : World) (hv : RdL w.heap.size w v ns up) (e0 : farB ns up = true) :
    Calls Try.prog 3 #[v] w fun e w' => e = .returned (.bool true) ∧ Below w.heap.size w w' := by
  have HL := Lib.hid hv
  obtain ⟨⟨vn, vu, rfl, hS, hB⟩, hsz⟩ := hv
  obtain ⟨p, cap, rfl, hc, hc2, h⟩ := hS
  obtain ⟨q, cap', rfl, hc', hc2', h'⟩ := hB
  clear h h' hsz
  have HI := Lib.hid (Bx.new HL.out)
  go_enter Try.func3, Try.ntmps3
  go_wp2_with (first
    | (go_at_call 4; refine (far_any _ ns up _ HI.out.rd).mono ?_; rintro e w' ⟨rfl, hbn⟩; have HI2 := Lib.hid (HI.out.next hbn); clear HI; have HI := HI2; clear HI2; have hx0 := HI.out.x0; have hx1 := HI.out.x1; clear hbn)
    | (go_at_call 5; refine (awake_any _).mono ?_; rintro e w' ⟨rfl, hbn⟩; clear hx0 hx1; have HI2 := Lib.hid (HI.out.next hbn); clear HI; have HI := HI2; clear HI2; have hx0 := HI.out.x0; have hx1 := HI.out.x1; clear hbn))
  go_ret
  exact ⟨ret_bool (by first | rfl | simp), HI.out.bel⟩

set_option maxRecDepth 100000 in
set_option maxHeartbeats 8000000 in
theorem lawAlgebra_bad (v : Value) (ns : List ByteArray) (up : List UInt8) (w : World) (hv : RdL w.heap.size w v ns up) (e0 : farB ns up = false) (hck : ((ck ns up).2 != 0) = true) :
    Calls Try.prog 3 #[v] w fun e w' => e = .returned (.bool true) ∧ Below w.heap.size w w' := by
  have HL := Lib.hid hv
  obtain ⟨⟨vn, vu, rfl, hS, hB⟩, hsz⟩ := hv
  obtain ⟨p, cap, rfl, hc, hc2, h⟩ := hS
  obtain ⟨q, cap', rfl, hc', hc2', h'⟩ := hB
  clear h h' hsz
  have HI := Lib.hid (Bx.new HL.out)
  go_enter Try.func3, Try.ntmps3
  go_wp2_with (first
    | (go_at_call 4; refine (far_any _ ns up _ HI.out.rd).mono ?_; rintro e w' ⟨rfl, hbn⟩; have HI2 := Lib.hid (HI.out.next hbn); clear HI; have HI := HI2; clear HI2; have hx0 := HI.out.x0; have hx1 := HI.out.x1; clear hbn)
    | (go_at_call 6; refine (check_any _ ns up _ HI.out.rd).mono ?_; rintro e wk ⟨rfl, hbn⟩; clear hx0 hx1; have HI2 := Lib.hid (HI.out.next hbn); clear HI; have HI := HI2; clear HI2; have hx0 := HI.out.x0; have hx1 := HI.out.x1; clear hbn)
    | (go_at_call 5; refine (awake_any _).mono ?_; rintro e w' ⟨rfl, hbn⟩; clear hx0 hx1; have HI2 := Lib.hid (HI.out.next hbn); clear HI; have HI := HI2; clear HI2; have hx0 := HI.out.x0; have hx1 := HI.out.x1; clear hbn))
  go_ret
  exact ⟨ret_bool (by first | rfl | simp), HI.out.bel⟩

set_option maxRecDepth 100000 in
set_option maxHeartbeats 8000000 in
theorem lawAlgebra_ok (v : Value) (ns : List ByteArray) (up : List UInt8) (w : World) (hv : RdL w.heap.size w v ns up) (e0 : farB ns up = false) (hg : Good ns up) :
    Calls Try.prog 3 #[v] w fun e w' => e = .returned (.bool true) ∧ Below w.heap.size w w' := by
  have HL := Lib.hid hv
  obtain ⟨⟨vn, vu, rfl, hS, hB⟩, hsz⟩ := hv
  obtain ⟨p, cap, rfl, hc, hc2, h⟩ := hS
  obtain ⟨q, cap', rfl, hc', hc2', h'⟩ := hB
  clear h h' hsz
  have HI := Lib.hid (Bx.new HL.out)
  have HG := Lib.hid hg
  have hn8 : ns.length ≤ 8 := hg.most
  have hck : ((ck ns up).2 != 0) = false := by rw [hg.ck]; rfl
  have HNU : Hid (ns.length = up.length) := hg.len.symm
  obtain ⟨gj, hgj⟩ : ∃ g : Nat → Nat → Nat, g = J (le up) up.length := ⟨_, rfl⟩
  obtain ⟨gm, hgm⟩ : ∃ g : Nat → Nat → Nat, g = J (ge up) up.length := ⟨_, rfl⟩
  have HJ := Lib.hid hgj
  have HM := Lib.hid hgm
  clear hgj hgm hg
  go_enter Try.func3, Try.ntmps3
  go_wp2_with (first
    | (go_at_call 4; refine (far_any _ ns up _ HI.out.rd).mono ?_; rintro e w' ⟨rfl, hbn⟩; have HI2 := Lib.hid (HI.out.next hbn); clear HI; have HI := HI2; clear HI2; have hx0 := HI.out.x0; have hx1 := HI.out.x1; clear hbn)
    | (go_at_call 6; refine (check_any _ ns up _ HI.out.rd).mono ?_; rintro e wk ⟨rfl, hbn⟩; clear hx0 hx1; have HI2 := Lib.hid (HI.out.next hbn); clear HI; have HI := HI2; clear HI2; have hx0 := HI.out.x0; have hx1 := HI.out.x1; clear hbn))
  have HI0 := HI
  have HA := Lib.hid (az_0 HI.out)
  clear HI hx0 hx1
  go_loopg [8] ns.length (fun g i W => ∃ (a : Nat) (r s : Nat → Nat → Nat), a + g = ns.length ∧ i = .int .i64 a ∧ Az w wk (.slice p ns.length cap) (.slice q up.length cap') ns up r s W ∧ Hid (Tz ns.length gj r a 0) ∧ Hid (Tz ns.length gm s a 0))
  case atStart => exact ⟨0, _, _, by omega, rfl, HA.out, fun x y _ _ h => absurd h (by omega), fun x y _ _ h => absurd h (by omega)⟩
  case round =>
    clear HA
    obtain ⟨a, r, s, hag, rfl, haz, hq1, hq2⟩ := hrel
    have HA := Lib.hid haz; clear haz
    cases gk with
    | zero =>
      have haz : ¬ ((a : Int) < (ns.length : Int)) := by omega
      have HR : Hid (∀ x y, x < ns.length → y < ns.length → r x y = gj x y) := fun x y hx hy => hq1.out x y hx hy (by omega)
      have HS : Hid (∀ x y, x < ns.length → y < ns.length → s x y = gm x y) := fun x y hx hy => hq2.out x y hx hy (by omega)
      clear hq1 hq2
      go_wp2_with fail
      go_loopg [14] ns.length (fun g i W => ∃ a : Nat, a + g = ns.length ∧ i = .int .i64 a ∧ Az w wk (.slice p ns.length cap) (.slice q up.length cap') ns up r s W)
      case atStart => exact ⟨0, by omega, rfl, HA.out⟩
      case round =>
        clear HA
        obtain ⟨a, hag, rfl, haz⟩ := hrel
        have HA := Lib.hid haz; clear haz
        cases gk with
        | zero =>
          have haz : ¬ ((a : Int) < (ns.length : Int)) := by omega
          go_wp2_with (go_at_call 5; refine (awake_any _).mono ?_; rintro e w' ⟨rfl, hbn⟩; have HA2 := Lib.hid (HA.out.next hbn); clear HA; have HA := HA2; clear HA2; clear hbn)
          go_ret
          exact ⟨ret_bool (by first | rfl | simp), HA.out.l.bel⟩
        | succ g =>
          have halt : (a : Int) < (ns.length : Int) := by omega
          have hau : a < up.length := by have := HNU.out; omega
          have ha8 : a < 8 := by omega
          have ha8i : (a : Int) < 8 := by omega
          have kj := itb_at (v := a) HA.out.j ha8 ha8 (by rw [HR.out a a (by omega) (by omega), HJ.out]; exact HG.out.ords.1.J_idem hau)
          have km := itb_at (v := a) HA.out.m ha8 ha8 (by rw [HS.out a a (by omega) (by omega), HM.out]; exact HG.out.ords.2.J_idem hau)
          go_wp2_with fail
          clear kj km
          go_loopg [15] ns.length (fun g i W => ∃ b : Nat, b + g = ns.length ∧ i = .int .i64 b ∧ Az w wk (.slice p ns.length cap) (.slice q up.length cap') ns up r s W)
          case atStart => exact ⟨0, by omega, rfl, HA.out⟩
          case round =>
            clear HA
            obtain ⟨b, hbg, rfl, haz⟩ := hrel
            have HA := Lib.hid haz; clear haz
            cases gk with
            | zero =>
              have hbz : ¬ ((b : Int) < (ns.length : Int)) := by omega
              go_wp2_with fail
              go_roundg g
              case measure => omega
              case rel => exact ⟨a + 1, by omega, by go_num, HA.out⟩
            | succ g2 =>
              have hblt : (b : Int) < (ns.length : Int) := by omega
              have hbu : b < up.length := by have := HNU.out; omega
              have hb8 : b < 8 := by omega
              have hb8i : (b : Int) < 8 := by omega
              have ho1 := HG.out.ords.1
              have ho2 := HG.out.ords.2
              have hxl : J (le up) up.length a b < up.length := ho1.J_lt hau hbu
              have hyl : J (ge up) up.length a b < up.length := ho2.J_lt hau hbu
              have k1 : r a b = J (le up) up.length a b := by rw [HR.out a b (by omega) (by omega), HJ.out]
              have k2 : r b a = J (le up) up.length a b := by rw [HR.out b a (by omega) (by omega), HJ.out]; exact ho1.J_comm hbu hau
              have k3 : s a b = J (ge up) up.length a b := by rw [HS.out a b (by omega) (by omega), HM.out]
              have k4 : s b a = J (ge up) up.length a b := by rw [HS.out b a (by omega) (by omega), HM.out]; exact ho2.J_comm hbu hau
              have k5 : r a (J (ge up) up.length a b) = a := by rw [HR.out a _ (by omega) (by have := HNU.out; omega), HJ.out]; exact ho1.absorb ho2 hau hbu
              have k6 : s a (J (le up) up.length a b) = a := by rw [HS.out a _ (by omega) (by have := HNU.out; omega), HM.out]; exact ho2.absorb ho1 hau hbu
              have hle : le up a b = decide (J (le up) up.length a b = b) := ho1.le_iff hau hbu
              have HBe : Hid (∀ W, RdL W.heap.size W (.agg #[.slice p ns.length cap, .slice q up.length cap']) ns up → Calls Try.prog 9 #[.agg #[.slice p ns.length cap, .slice q up.length cap'], .int .i64 (a : Nat), .int .i64 (b : Nat)] W fun e w' => e = .returned (.bool (le up a b)) ∧ Below W.heap.size W w') := fun W hW => below_ok _ ns up a b W hW HG.out hau hbu
              have HC1 : Hid (∀ c, c < ns.length → ∃ z t : Nat, z < 8 ∧ t < 8 ∧ r (J (le up) up.length a b) c = z ∧ r b c = t ∧ r a t = z) := fun c hcl => by
                have hcu : c < up.length := by have := HNU.out; omega
                have h8u : up.length ≤ 8 := by have := HNU.out; omega
                have hjbc : J (le up) up.length b c < up.length := ho1.J_lt hbu hcu
                refine ⟨J (le up) up.length a (J (le up) up.length b c), J (le up) up.length b c, Nat.lt_of_lt_of_le (ho1.J_lt hau hjbc) h8u, by omega, ?_, ?_, ?_⟩
                · rw [HR.out _ _ (by have := HNU.out; omega) hcl, HJ.out]; exact ho1.J_assoc hau hbu hcu
                · rw [HR.out _ _ (by omega) hcl, HJ.out]
                · rw [HR.out _ _ (by omega) (by have := HNU.out; omega), HJ.out]
              have HC2 : Hid (∀ c, c < ns.length → ∃ z t : Nat, z < 8 ∧ t < 8 ∧ s (J (ge up) up.length a b) c = z ∧ s b c = t ∧ s a t = z) := fun c hcl => by
                have hcu : c < up.length := by have := HNU.out; omega
                have h8u : up.length ≤ 8 := by have := HNU.out; omega
                have hjbc : J (ge up) up.length b c < up.length := ho2.J_lt hbu hcu
                refine ⟨J (ge up) up.length a (J (ge up) up.length b c), J (ge up) up.length b c, Nat.lt_of_lt_of_le (ho2.J_lt hau hjbc) h8u, by omega, ?_, ?_, ?_⟩
                · rw [HS.out _ _ (by have := HNU.out; omega) hcl, HM.out]; exact ho2.J_assoc hau hbu hcu
                · rw [HS.out _ _ (by omega) hcl, HM.out]
                · rw [HS.out _ _ (by omega) (by have := HNU.out; omega), HM.out]
              clear ho1 ho2
              generalize J (le up) up.length a b = x at k1 k2 k6 hxl hle HC1
              generalize J (ge up) up.length a b = y at k3 k4 k5 hyl HC2
              have hx8 : x < 8 := by have := HNU.out; omega
              have hy8 : y < 8 := by have := HNU.out; omega
              have hx8i : (x : Int) < 8 := by omega
              have hy8i : (y : Int) < 8 := by omega
              have heq : ((x : Int) == (b : Int)) = le up a b := by rw [hle, Bool.eq_iff_iff, beq_iff_eq, decide_eq_true_iff]; omega
              generalize le up a b = t at HBe heq
              clear hle
              go_wp2_with fail
              refine wp_region_held_drew (S := (fun W => Az w wk (.slice p ns.length cap) (.slice q up.length cap') ns up r s W ∧ W.cell? ⟨w.heap.size, 0, none⟩ = some (.slice p ns.length cap) ∧ W.cell? ⟨w.heap.size, 1, none⟩ = some (.slice q up.length cap') ∧ W.cell? ⟨wk.heap.size, a * 8 + b, none⟩ = some (.int .i64 (x : Int)) ∧ W.cell? ⟨wk.heap.size, b * 8 + a, none⟩ = some (.int .i64 (x : Int)) ∧ W.cell? ⟨wk.heap.size + 1, a * 8 + b, none⟩ = some (.int .i64 (y : Int)) ∧ W.cell? ⟨wk.heap.size + 1, b * 8 + a, none⟩ = some (.int .i64 (y : Int)) ∧ W.cell? ⟨wk.heap.size, a * 8 + y, none⟩ = some (.int .i64 (a : Int)) ∧ W.cell? ⟨wk.heap.size + 1, a * 8 + x, none⟩ = some (.int .i64 (a : Int)))) (by kernel_rfl) ?_ (fun hHeld => ?_)
              · exact az_6 (HA.out.next (Below.refl _ _).drew) ha8 hb8 hx8 hy8 k1 k2 k3 k4 k5 k6
              refine wpAnyH_take (i := 0) (v := ?_) rfl (by kernel_rfl) (by kernel_rfl) (by kernel_rfl) (fun _ _ _ h => h) (Or.inl ⟨by rfl, ?_⟩) (by assumption) ?_
              rotate_left
              · ((intro w0 hSw); (try dsimp only at hSw); go_simp; (try with_reducible rfl))
              change wpAnyH _ _ _ _ _ _ _ (Act.put _ (some 119) _) _
              try simp only [Act.put, List.setIfInBounds_toArray, List.set_cons_zero, List.set_cons_succ]
              refine wpAnyH_take (i := 1) (v := ?_) rfl (by kernel_rfl) (by kernel_rfl) (by kernel_rfl) (fun _ _ _ h => h) (Or.inl ⟨by rfl, ?_⟩) (by assumption) ?_
              rotate_left
              · ((intro w0 hSw); (try dsimp only at hSw); go_simp; (try with_reducible rfl))
              change wpAnyH _ _ _ _ _ _ _ (Act.put _ (some 120) _) _
              try simp only [Act.put, List.setIfInBounds_toArray, List.set_cons_zero, List.set_cons_succ]
              refine wpAnyH_take (i := 2) (v := ?_) rfl (by kernel_rfl) (by kernel_rfl) (by kernel_rfl) (fun _ _ _ h => h) (Or.inl ⟨by rfl, ?_⟩) (by assumption) ?_
              rotate_left
              · ((intro w0 hSw); (try dsimp only at hSw); go_simp; (try with_reducible rfl))
              change wpAnyH _ _ _ _ _ _ _ (Act.put _ (some 121) _) _
              try simp only [Act.put, List.setIfInBounds_toArray, List.set_cons_zero, List.set_cons_succ]
              refine wpAnyH_take (i := 3) (v := ?_) rfl (by kernel_rfl) (by kernel_rfl) (by kernel_rfl) (fun _ _ _ h => h) (Or.inl ⟨by rfl, ?_⟩) (by assumption) ?_
              rotate_left
              · ((intro w0 hSw); (try dsimp only at hSw); go_simp; (try with_reducible rfl))
              change wpAnyH _ _ _ _ _ _ _ (Act.put _ (some 122) _) _
              try simp only [Act.put, List.setIfInBounds_toArray, List.set_cons_zero, List.set_cons_succ]
              refine wpAnyH_take (i := 4) (v := ?_) rfl (by kernel_rfl) (by kernel_rfl) (by kernel_rfl) (fun _ _ _ h => h) (Or.inl ⟨by rfl, ?_⟩) (by assumption) ?_
              rotate_left
              · ((intro w0 hSw); (try dsimp only at hSw); go_simp; (try with_reducible rfl))
              change wpAnyH _ _ _ _ _ _ _ (Act.put _ (some 123) _) _
              try simp only [Act.put, List.setIfInBounds_toArray, List.set_cons_zero, List.set_cons_succ]
              refine wpAnyH_take (i := 5) (v := ?_) rfl (by kernel_rfl) (by kernel_rfl) (by kernel_rfl) (fun _ _ _ h => h) (Or.inl ⟨by rfl, ?_⟩) (by assumption) ?_
              rotate_left
              · ((intro w0 hSw); (try dsimp only at hSw); go_simp; (try with_reducible rfl))
              change wpAnyH _ _ _ _ _ _ _ (Act.put _ (some 124) _) _
              try simp only [Act.put, List.setIfInBounds_toArray, List.set_cons_zero, List.set_cons_succ]
              refine wpAnyH_take (i := 6) (v := ?_) rfl (by kernel_rfl) (by kernel_rfl) (by kernel_rfl) (fun _ _ _ h => h) (Or.inl ⟨by rfl, ?_⟩) (by assumption) ?_
              rotate_left
              · ((intro w0 hSw); (try dsimp only at hSw); go_simp; (try with_reducible rfl))
              change wpAnyH _ _ _ _ _ _ _ (Act.put _ (some 125) _) _
              try simp only [Act.put, List.setIfInBounds_toArray, List.set_cons_zero, List.set_cons_succ]
              refine wpAnyH_take (i := 7) (v := ?_) rfl (by kernel_rfl) (by kernel_rfl) (by kernel_rfl) (fun _ _ _ h => h) (Or.inl ⟨by rfl, ?_⟩) (by assumption) ?_
              rotate_left
              · ((intro w0 hSw); (try dsimp only at hSw); go_simp; (try with_reducible rfl))
              change wpAnyH _ _ _ _ _ _ _ (Act.put _ (some 126) _) _
              try simp only [Act.put, List.setIfInBounds_toArray, List.set_cons_zero, List.set_cons_succ]
              refine wpAnyH_take (i := 8) (v := ?_) rfl (by kernel_rfl) (by kernel_rfl) (by kernel_rfl) (fun _ _ _ h => h) (Or.inl ⟨by rfl, ?_⟩) (by assumption) ?_
              rotate_left
              · ((intro w0 hSw); (try dsimp only at hSw); go_simp; (try with_reducible rfl))
              change wpAnyH _ _ _ _ _ _ _ (Act.put _ (some 127) _) _
              try simp only [Act.put, List.setIfInBounds_toArray, List.set_cons_zero, List.set_cons_succ]
              refine wpAnyH_take (i := 9) (v := ?_) rfl (by kernel_rfl) (by kernel_rfl) (by kernel_rfl) (fun _ _ _ h => h) (Or.inl ⟨by rfl, ?_⟩) (by assumption) ?_
              rotate_left
              · ((intro w0 hSw); (try dsimp only at hSw); go_simp; (try with_reducible rfl))
              change wpAnyH _ _ _ _ _ _ _ (Act.put _ (some 128) _) _
              try simp only [Act.put, List.setIfInBounds_toArray, List.set_cons_zero, List.set_cons_succ]
              refine wpAnyH_take (i := 10) (v := ?_) rfl (by kernel_rfl) (by kernel_rfl) (by kernel_rfl) (fun _ _ _ h => h) (Or.inl ⟨by rfl, ?_⟩) (by assumption) ?_
              rotate_left
              · ((intro w0 hSw); (try dsimp only at hSw); go_simp; (try with_reducible rfl))
              change wpAnyH _ _ _ _ _ _ _ (Act.put _ (some 129) _) _
              try simp only [Act.put, List.setIfInBounds_toArray, List.set_cons_zero, List.set_cons_succ]
              refine wpAnyH_take (i := 11) (v := ?_) rfl (by kernel_rfl) (by kernel_rfl) (by kernel_rfl) (fun _ _ _ h => h) (Or.inl ⟨by rfl, ?_⟩) (by assumption) ?_
              rotate_left
              · ((intro w0 hSw); (try dsimp only at hSw); go_simp; (try with_reducible rfl))
              change wpAnyH _ _ _ _ _ _ _ (Act.put _ (some 130) _) _
              try simp only [Act.put, List.setIfInBounds_toArray, List.set_cons_zero, List.set_cons_succ]
              refine wpAnyH_take (i := 12) (v := ?_) rfl (by kernel_rfl) (by kernel_rfl) (by kernel_rfl) (fun _ _ _ h => h) (Or.inl ⟨by rfl, ?_⟩) (by assumption) ?_
              rotate_left
              · ((intro w0 hSw); (try dsimp only at hSw); go_simp; (try with_reducible rfl))
              change wpAnyH _ _ _ _ _ _ _ (Act.put _ (some 131) _) _
              try simp only [Act.put, List.setIfInBounds_toArray, List.set_cons_zero, List.set_cons_succ]
              refine wpAnyH_take (i := 13) (v := ?_) rfl (by kernel_rfl) (by kernel_rfl) (by kernel_rfl) (fun _ _ _ h => h) (Or.inl ⟨by rfl, ?_⟩) (by assumption) ?_
              rotate_left
              · ((intro w0 hSw); (try dsimp only at hSw); go_simp; (try with_reducible rfl))
              change wpAnyH _ _ _ _ _ _ _ (Act.put _ (some 132) _) _
              try simp only [Act.put, List.setIfInBounds_toArray, List.set_cons_zero, List.set_cons_succ]
              refine wpAnyH_take (i := 14) (v := ?_) rfl (by kernel_rfl) (by kernel_rfl) (by kernel_rfl) (fun _ _ _ h => h) (Or.inl ⟨by rfl, ?_⟩) (by assumption) ?_
              rotate_left
              · ((intro w0 hSw); (try dsimp only at hSw); go_simp; (try with_reducible rfl))
              change wpAnyH _ _ _ _ _ _ _ (Act.put _ (some 133) _) _
              try simp only [Act.put, List.setIfInBounds_toArray, List.set_cons_zero, List.set_cons_succ]
              refine wpAnyH_take (i := 15) (v := ?_) rfl (by kernel_rfl) (by kernel_rfl) (by kernel_rfl) (fun _ _ _ h => h) (Or.inl ⟨by rfl, ?_⟩) (by assumption) ?_
              rotate_left
              · ((intro w0 hSw); (try dsimp only at hSw); go_simp; (try with_reducible rfl))
              change wpAnyH _ _ _ _ _ _ _ (Act.put _ (some 134) _) _
              try simp only [Act.put, List.setIfInBounds_toArray, List.set_cons_zero, List.set_cons_succ]
              refine wpAnyH_take (i := 16) (v := ?_) rfl (by kernel_rfl) (by kernel_rfl) (by kernel_rfl) (fun _ _ _ h => h) (Or.inl ⟨by rfl, ?_⟩) (by assumption) ?_
              rotate_left
              · ((intro w0 hSw); (try dsimp only at hSw); go_simp; (try with_reducible rfl))
              change wpAnyH _ _ _ _ _ _ _ (Act.put _ (some 135) _) _
              try simp only [Act.put, List.setIfInBounds_toArray, List.set_cons_zero, List.set_cons_succ]
              refine wpAnyH_take (i := 17) (v := ?_) rfl (by kernel_rfl) (by kernel_rfl) (by kernel_rfl) (fun _ _ _ h => h) (Or.inl ⟨by rfl, ?_⟩) (by assumption) ?_
              rotate_left
              · ((intro w0 hSw); (try dsimp only at hSw); go_simp; (try with_reducible rfl))
              change wpAnyH _ _ _ _ _ _ _ (Act.put _ (some 136) _) _
              try simp only [Act.put, List.setIfInBounds_toArray, List.set_cons_zero, List.set_cons_succ]
              refine wpAnyH_take (i := 18) (v := ?_) rfl (by kernel_rfl) (by kernel_rfl) (by kernel_rfl) (fun _ _ _ h => h) (Or.inl ⟨by rfl, ?_⟩) (by assumption) ?_
              rotate_left
              · ((intro w0 hSw); (try dsimp only at hSw); go_simp; (try with_reducible rfl))
              change wpAnyH _ _ _ _ _ _ _ (Act.put _ (some 137) _) _
              try simp only [Act.put, List.setIfInBounds_toArray, List.set_cons_zero, List.set_cons_succ]
              refine wpAnyH_take (i := 19) (v := ?_) rfl (by kernel_rfl) (by kernel_rfl) (by kernel_rfl) (fun _ _ _ h => h) (Or.inl ⟨by rfl, ?_⟩) (by assumption) ?_
              rotate_left
              · ((intro w0 hSw); (try dsimp only at hSw); go_simp; (try with_reducible rfl))
              change wpAnyH _ _ _ _ _ _ _ (Act.put _ (some 138) _) _
              try simp only [Act.put, List.setIfInBounds_toArray, List.set_cons_zero, List.set_cons_succ]
              refine wpAnyH_take (i := 20) (v := ?_) rfl (by kernel_rfl) (by kernel_rfl) (by kernel_rfl) (fun _ _ _ h => h) (Or.inl ⟨by rfl, ?_⟩) (by assumption) ?_
              rotate_left
              · ((intro w0 hSw); (try dsimp only at hSw); go_simp; (try with_reducible rfl))
              change wpAnyH _ _ _ _ _ _ _ (Act.put _ (some 139) _) _
              try simp only [Act.put, List.setIfInBounds_toArray, List.set_cons_zero, List.set_cons_succ]
              refine wpAnyH_take (i := 21) (v := ?_) rfl (by kernel_rfl) (by kernel_rfl) (by kernel_rfl) (fun _ _ _ h => h) (Or.inl ⟨by rfl, ?_⟩) (by assumption) ?_
              rotate_left
              · ((intro w0 hSw); (try dsimp only at hSw); go_simp; (try with_reducible rfl))
              change wpAnyH _ _ _ _ _ _ _ (Act.put _ (some 140) _) _
              try simp only [Act.put, List.setIfInBounds_toArray, List.set_cons_zero, List.set_cons_succ]
              refine wpAnyH_take (i := 22) (v := ?_) rfl (by kernel_rfl) (by kernel_rfl) (by kernel_rfl) (fun _ _ _ h => h) (Or.inl ⟨by rfl, ?_⟩) (by assumption) ?_
              rotate_left
              · ((intro w0 hSw); (try dsimp only at hSw); go_simp; (try with_reducible rfl))
              change wpAnyH _ _ _ _ _ _ _ (Act.put _ (some 141) _) _
              try simp only [Act.put, List.setIfInBounds_toArray, List.set_cons_zero, List.set_cons_succ]
              refine wpAnyH_take (i := 23) (v := ?_) rfl (by kernel_rfl) (by kernel_rfl) (by kernel_rfl) (fun _ _ _ h => h) (Or.inl ⟨by rfl, ?_⟩) (by assumption) ?_
              rotate_left
              · ((intro w0 hSw); (try dsimp only at hSw); go_simp; (try with_reducible rfl))
              change wpAnyH _ _ _ _ _ _ _ (Act.put _ (some 142) _) _
              try simp only [Act.put, List.setIfInBounds_toArray, List.set_cons_zero, List.set_cons_succ]
              refine wpAnyH_take (i := 24) (v := ?_) rfl (by kernel_rfl) (by kernel_rfl) (by kernel_rfl) (fun _ _ _ h => h) (Or.inl ⟨by rfl, ?_⟩) (by assumption) ?_
              rotate_left
              · ((intro w0 hSw); (try dsimp only at hSw); go_simp; (try with_reducible rfl))
              change wpAnyH _ _ _ _ _ _ _ (Act.put _ (some 143) _) _
              try simp only [Act.put, List.setIfInBounds_toArray, List.set_cons_zero, List.set_cons_succ]
              refine wpAnyH_take (i := 25) (v := ?_) rfl (by kernel_rfl) (by kernel_rfl) (by kernel_rfl) (fun _ _ _ h => h) (Or.inl ⟨by rfl, ?_⟩) (by assumption) ?_
              rotate_left
              · ((intro w0 hSw); (try dsimp only at hSw); go_simp; (try with_reducible rfl))
              change wpAnyH _ _ _ _ _ _ _ (Act.put _ (some 144) _) _
              try simp only [Act.put, List.setIfInBounds_toArray, List.set_cons_zero, List.set_cons_succ]
              refine wpAnyH_take (i := 26) (v := ?_) rfl (by kernel_rfl) (by kernel_rfl) (by kernel_rfl) (fun _ _ _ h => h) (Or.inl ⟨by rfl, ?_⟩) (by assumption) ?_
              rotate_left
              · ((intro w0 hSw); (try dsimp only at hSw); go_simp; (try with_reducible rfl))
              change wpAnyH _ _ _ _ _ _ _ (Act.put _ (some 145) _) _
              try simp only [Act.put, List.setIfInBounds_toArray, List.set_cons_zero, List.set_cons_succ]
              refine wpAnyH_take (i := 27) (v := ?_) rfl (by kernel_rfl) (by kernel_rfl) (by kernel_rfl) (fun _ _ _ h => h) (Or.inl ⟨by rfl, ?_⟩) (by assumption) ?_
              rotate_left
              · ((intro w0 hSw); (try dsimp only at hSw); go_simp; (try with_reducible rfl))
              change wpAnyH _ _ _ _ _ _ _ (Act.put _ (some 146) _) _
              try simp only [Act.put, List.setIfInBounds_toArray, List.set_cons_zero, List.set_cons_succ]
              refine wpAnyH_take (i := 28) (v := ?_) rfl (by kernel_rfl) (by kernel_rfl) (by kernel_rfl) (fun _ _ _ h => h) (Or.inl ⟨by rfl, ?_⟩) (by assumption) ?_
              rotate_left
              · ((intro w0 hSw); (try dsimp only at hSw); go_simp; (try with_reducible rfl))
              change wpAnyH _ _ _ _ _ _ _ (Act.put _ (some 147) _) _
              try simp only [Act.put, List.setIfInBounds_toArray, List.set_cons_zero, List.set_cons_succ]
              refine wpAnyH_take (i := 29) (v := ?_) rfl (by kernel_rfl) (by kernel_rfl) (by kernel_rfl) (fun _ _ _ h => h) (Or.inl ⟨by rfl, ?_⟩) (by assumption) ?_
              rotate_left
              · ((intro w0 hSw); (try dsimp only at hSw); go_simp; (try with_reducible rfl))
              change wpAnyH _ _ _ _ _ _ _ (Act.put _ (some 148) _) _
              try simp only [Act.put, List.setIfInBounds_toArray, List.set_cons_zero, List.set_cons_succ]
              refine wpAnyH_take (i := 30) (v := ?_) rfl (by kernel_rfl) (by kernel_rfl) (by kernel_rfl) (fun _ _ _ h => h) (Or.inl ⟨by rfl, ?_⟩) (by assumption) ?_
              rotate_left
              · ((intro w0 hSw); (try dsimp only at hSw); go_simp; (try with_reducible rfl))
              change wpAnyH _ _ _ _ _ _ _ (Act.put _ (some 149) _) _
              try simp only [Act.put, List.setIfInBounds_toArray, List.set_cons_zero, List.set_cons_succ]
              refine wpAnyH_take (i := 31) (v := ?_) rfl (by kernel_rfl) (by kernel_rfl) (by kernel_rfl) (fun _ _ _ h => h) (Or.inl ⟨by rfl, ?_⟩) (by assumption) ?_
              rotate_left
              · ((intro w0 hSw); (try dsimp only at hSw); go_simp; (try with_reducible rfl))
              change wpAnyH _ _ _ _ _ _ _ (Act.put _ (some 150) _) _
              try simp only [Act.put, List.setIfInBounds_toArray, List.set_cons_zero, List.set_cons_succ]
              refine wpAnyH_take (i := 32) (v := ?_) rfl (by kernel_rfl) (by kernel_rfl) (by kernel_rfl) (fun _ _ _ h => h) (Or.inl ⟨by rfl, ?_⟩) (by assumption) ?_
              rotate_left
              · ((intro w0 hSw); (try dsimp only at hSw); go_simp; (try with_reducible rfl))
              change wpAnyH _ _ _ _ _ _ _ (Act.put _ (some 151) _) _
              try simp only [Act.put, List.setIfInBounds_toArray, List.set_cons_zero, List.set_cons_succ]
              refine wpAnyH_take (i := 33) (v := ?_) rfl (by kernel_rfl) (by kernel_rfl) (by kernel_rfl) (fun _ _ _ h => h) (Or.inl ⟨by rfl, ?_⟩) (by assumption) ?_
              rotate_left
              · ((intro w0 hSw); (try dsimp only at hSw); go_simp; (try with_reducible rfl))
              change wpAnyH _ _ _ _ _ _ _ (Act.put _ (some 152) _) _
              try simp only [Act.put, List.setIfInBounds_toArray, List.set_cons_zero, List.set_cons_succ]
              refine wpAnyH_take (i := 34) (v := ?_) rfl (by kernel_rfl) (by kernel_rfl) (by kernel_rfl) (fun _ _ _ h => h) (Or.inl ⟨by rfl, ?_⟩) (by assumption) ?_
              rotate_left
              · ((intro w0 hSw); (try dsimp only at hSw); go_simp; (try with_reducible rfl))
              change wpAnyH _ _ _ _ _ _ _ (Act.put _ (some 153) _) _
              try simp only [Act.put, List.setIfInBounds_toArray, List.set_cons_zero, List.set_cons_succ]
              refine wpAnyH_take (i := 35) (v := ?_) rfl (by kernel_rfl) (by kernel_rfl) (by kernel_rfl) (fun _ _ _ h => h) (Or.inl ⟨by rfl, ?_⟩) (by assumption) ?_
              rotate_left
              · ((intro w0 hSw); (try dsimp only at hSw); go_simp; (try with_reducible rfl))
              change wpAnyH _ _ _ _ _ _ _ (Act.put _ (some 154) _) _
              try simp only [Act.put, List.setIfInBounds_toArray, List.set_cons_zero, List.set_cons_succ]
              refine wpAnyH_take (i := 36) (v := ?_) rfl (by kernel_rfl) (by kernel_rfl) (by kernel_rfl) (fun _ _ _ h => h) (Or.inl ⟨by rfl, ?_⟩) (by assumption) ?_
              rotate_left
              · ((intro w0 hSw); (try dsimp only at hSw); go_simp; (try with_reducible rfl))
              change wpAnyH _ _ _ _ _ _ _ (Act.put _ (some 155) _) _
              try simp only [Act.put, List.setIfInBounds_toArray, List.set_cons_zero, List.set_cons_succ]
              refine wpAnyH_take (i := 37) (v := ?_) rfl (by kernel_rfl) (by kernel_rfl) (by kernel_rfl) (fun _ _ _ h => h) (Or.inl ⟨by rfl, ?_⟩) (by assumption) ?_
              rotate_left
              · ((intro w0 hSw); (try dsimp only at hSw); go_simp; (try with_reducible rfl))
              change wpAnyH _ _ _ _ _ _ _ (Act.put _ (some 156) _) _
              try simp only [Act.put, List.setIfInBounds_toArray, List.set_cons_zero, List.set_cons_succ]
              refine wpAnyH_take (i := 38) (v := ?_) rfl (by kernel_rfl) (by kernel_rfl) (by kernel_rfl) (fun _ _ _ h => h) (Or.inl ⟨by rfl, ?_⟩) (by assumption) ?_
              rotate_left
              · ((intro w0 hSw); (try dsimp only at hSw); go_simp; (try with_reducible rfl))
              change wpAnyH _ _ _ _ _ _ _ (Act.put _ (some 157) _) _
              try simp only [Act.put, List.setIfInBounds_toArray, List.set_cons_zero, List.set_cons_succ]
              refine wpAnyH_take (i := 39) (v := ?_) rfl (by kernel_rfl) (by kernel_rfl) (by kernel_rfl) (fun _ _ _ h => h) (Or.inl ⟨by rfl, ?_⟩) (by assumption) ?_
              rotate_left
              · ((intro w0 hSw); (try dsimp only at hSw); go_simp; (try with_reducible rfl))
              change wpAnyH _ _ _ _ _ _ _ (Act.put _ (some 158) _) _
              try simp only [Act.put, List.setIfInBounds_toArray, List.set_cons_zero, List.set_cons_succ]
              refine wpAnyH_take (i := 40) (v := ?_) rfl (by kernel_rfl) (by kernel_rfl) (by kernel_rfl) (fun _ _ _ h => h) (Or.inl ⟨by rfl, ?_⟩) (by assumption) ?_
              rotate_left
              · ((intro w0 hSw); (try dsimp only at hSw); go_simp; (try with_reducible rfl))
              change wpAnyH _ _ _ _ _ _ _ (Act.put _ (some 159) _) _
              try simp only [Act.put, List.setIfInBounds_toArray, List.set_cons_zero, List.set_cons_succ]
              refine wpAnyH_take (i := 41) (v := ?_) rfl (by kernel_rfl) (by kernel_rfl) (by kernel_rfl) (fun _ _ _ h => h) (Or.inl ⟨by rfl, ?_⟩) (by assumption) ?_
              rotate_left
              · ((intro w0 hSw); (try dsimp only at hSw); go_simp; (try with_reducible rfl))
              change wpAnyH _ _ _ _ _ _ _ (Act.put _ (some 160) _) _
              try simp only [Act.put, List.setIfInBounds_toArray, List.set_cons_zero, List.set_cons_succ]
              refine wpAnyH_take (i := 42) (v := ?_) rfl (by kernel_rfl) (by kernel_rfl) (by kernel_rfl) (fun _ _ _ h => h) (Or.inl ⟨by rfl, ?_⟩) (by assumption) ?_
              rotate_left
              · ((intro w0 hSw); (try dsimp only at hSw); go_simp; (try with_reducible rfl))
              change wpAnyH _ _ _ _ _ _ _ (Act.put _ (some 161) _) _
              try simp only [Act.put, List.setIfInBounds_toArray, List.set_cons_zero, List.set_cons_succ]
              refine wpAnyH_take (i := 43) (v := ?_) rfl (by kernel_rfl) (by kernel_rfl) (by kernel_rfl) (fun _ _ _ h => h) (Or.inl ⟨by rfl, ?_⟩) (by assumption) ?_
              rotate_left
              · ((intro w0 hSw); (try dsimp only at hSw); go_simp; (try with_reducible rfl))
              change wpAnyH _ _ _ _ _ _ _ (Act.put _ (some 162) _) _
              try simp only [Act.put, List.setIfInBounds_toArray, List.set_cons_zero, List.set_cons_succ]
              refine wpAnyH_take (i := 44) (v := ?_) rfl (by kernel_rfl) (by kernel_rfl) (by kernel_rfl) (fun _ _ _ h => h) (Or.inl ⟨by rfl, ?_⟩) (by assumption) ?_
              rotate_left
              · ((intro w0 hSw); (try dsimp only at hSw); go_simp; (try with_reducible rfl))
              change wpAnyH _ _ _ _ _ _ _ (Act.put _ (some 163) _) _
              try simp only [Act.put, List.setIfInBounds_toArray, List.set_cons_zero, List.set_cons_succ]
              refine wpAnyH_take (i := 45) (v := ?_) rfl (by kernel_rfl) (by kernel_rfl) (by kernel_rfl) (fun _ _ _ h => h) (Or.inl ⟨by rfl, ?_⟩) (by assumption) ?_
              rotate_left
              · ((intro w0 hSw); (try dsimp only at hSw); go_simp; (try with_reducible rfl))
              change wpAnyH _ _ _ _ _ _ _ (Act.put _ (some 164) _) _
              try simp only [Act.put, List.setIfInBounds_toArray, List.set_cons_zero, List.set_cons_succ]
              refine wpAnyH_take (i := 46) (v := ?_) rfl (by kernel_rfl) (by kernel_rfl) (by kernel_rfl) (fun _ _ _ h => h) (Or.inl ⟨by rfl, ?_⟩) (by assumption) ?_
              rotate_left
              · ((intro w0 hSw); (try dsimp only at hSw); go_simp; (try with_reducible rfl))
              change wpAnyH _ _ _ _ _ _ _ (Act.put _ (some 165) _) _
              try simp only [Act.put, List.setIfInBounds_toArray, List.set_cons_zero, List.set_cons_succ]
              refine wpAnyH_take (i := 47) (v := ?_) rfl (by kernel_rfl) (by kernel_rfl) (by kernel_rfl) (fun _ _ _ h => h) (Or.inl ⟨by rfl, ?_⟩) (by assumption) ?_
              rotate_left
              · ((intro w0 hSw); (try dsimp only at hSw); go_simp; (try with_reducible rfl))
              change wpAnyH _ _ _ _ _ _ _ (Act.put _ (some 166) _) _
              try simp only [Act.put, List.setIfInBounds_toArray, List.set_cons_zero, List.set_cons_succ]
              refine wpAnyH_take (i := 48) (v := ?_) rfl (by kernel_rfl) (by kernel_rfl) (by kernel_rfl) (fun _ _ _ h => h) (Or.inl ⟨by rfl, ?_⟩) (by assumption) ?_
              rotate_left
              · ((intro w0 hSw); (try dsimp only at hSw); go_simp; (try with_reducible rfl))
              change wpAnyH _ _ _ _ _ _ _ (Act.put _ (some 167) _) _
              try simp only [Act.put, List.setIfInBounds_toArray, List.set_cons_zero, List.set_cons_succ]
              refine wpAnyH_take (i := 49) (v := ?_) rfl (by kernel_rfl) (by kernel_rfl) (by kernel_rfl) (fun _ _ _ h => h) (Or.inl ⟨by rfl, ?_⟩) (by assumption) ?_
              rotate_left
              · ((intro w0 hSw); (try dsimp only at hSw); go_simp; (try with_reducible rfl))
              change wpAnyH _ _ _ _ _ _ _ (Act.put _ (some 168) _) _
              try simp only [Act.put, List.setIfInBounds_toArray, List.set_cons_zero, List.set_cons_succ]
              refine wpAnyH_take (i := 50) (v := ?_) rfl (by kernel_rfl) (by kernel_rfl) (by kernel_rfl) (fun _ _ _ h => h) (Or.inl ⟨by rfl, ?_⟩) (by assumption) ?_
              rotate_left
              · ((intro w0 hSw); (try dsimp only at hSw); go_simp; (try with_reducible rfl))
              change wpAnyH _ _ _ _ _ _ _ (Act.put _ (some 169) _) _
              try simp only [Act.put, List.setIfInBounds_toArray, List.set_cons_zero, List.set_cons_succ]
              refine wpAnyH_take (i := 51) (v := ?_) rfl (by kernel_rfl) (by kernel_rfl) (by kernel_rfl) (fun _ _ _ h => h) (Or.inl ⟨by rfl, ?_⟩) (by assumption) ?_
              rotate_left
              · ((intro w0 hSw); (try dsimp only at hSw); go_simp; (try with_reducible rfl))
              change wpAnyH _ _ _ _ _ _ _ (Act.put _ (some 170) _) _
              try simp only [Act.put, List.setIfInBounds_toArray, List.set_cons_zero, List.set_cons_succ]
              refine wpAnyH_take (i := 52) (v := ?_) rfl (by kernel_rfl) (by kernel_rfl) (by kernel_rfl) (fun _ _ _ h => h) (Or.inl ⟨by rfl, ?_⟩) (by assumption) ?_
              rotate_left
              · ((intro w0 hSw); (try dsimp only at hSw); go_simp; (try with_reducible rfl))
              change wpAnyH _ _ _ _ _ _ _ (Act.put _ (some 171) _) _
              try simp only [Act.put, List.setIfInBounds_toArray, List.set_cons_zero, List.set_cons_succ]
              refine wpAnyH_take (i := 53) (v := ?_) rfl (by kernel_rfl) (by kernel_rfl) (by kernel_rfl) (fun _ _ _ h => h) (Or.inl ⟨by rfl, ?_⟩) (by assumption) ?_
              rotate_left
              · ((intro w0 hSw); (try dsimp only at hSw); go_simp; (try with_reducible rfl))
              change wpAnyH _ _ _ _ _ _ _ (Act.put _ (some 172) _) _
              try simp only [Act.put, List.setIfInBounds_toArray, List.set_cons_zero, List.set_cons_succ]
              refine wpAnyH_take (i := 55) (v := ?_) rfl (by kernel_rfl) (by kernel_rfl) (by kernel_rfl) (fun _ _ _ h => h) (Or.inl ⟨by rfl, ?_⟩) (by assumption) ?_
              rotate_left
              · ((intro w0 hSw); (try dsimp only at hSw); go_simp; (try with_reducible rfl))
              change wpAnyH _ _ _ _ _ _ _ (Act.put _ (some 174) _) _
              try simp only [Act.put, List.setIfInBounds_toArray, List.set_cons_zero, List.set_cons_succ]
              refine wpAnyH_take (i := 56) (v := ?_) rfl (by kernel_rfl) (by kernel_rfl) (by kernel_rfl) (fun _ _ _ h => h) (Or.inl ⟨by rfl, ?_⟩) (by assumption) ?_
              rotate_left
              · ((intro w0 hSw); (try dsimp only at hSw); go_simp; (try with_reducible rfl))
              change wpAnyH _ _ _ _ _ _ _ (Act.put _ (some 175) _) _
              try simp only [Act.put, List.setIfInBounds_toArray, List.set_cons_zero, List.set_cons_succ]
              refine wpAnyH_take (i := 57) (v := ?_) rfl (by kernel_rfl) (by kernel_rfl) (by kernel_rfl) (fun _ _ _ h => h) (Or.inl ⟨by rfl, ?_⟩) (by assumption) ?_
              rotate_left
              · ((intro w0 hSw); (try dsimp only at hSw); go_simp; (try with_reducible rfl))
              change wpAnyH _ _ _ _ _ _ _ (Act.put _ (some 176) _) _
              try simp only [Act.put, List.setIfInBounds_toArray, List.set_cons_zero, List.set_cons_succ]
              refine wpAnyH_take (i := 58) (v := ?_) rfl (by kernel_rfl) (by kernel_rfl) (by kernel_rfl) (fun _ _ _ h => h) (Or.inl ⟨by rfl, ?_⟩) (by assumption) ?_
              rotate_left
              · ((intro w0 hSw); (try dsimp only at hSw); go_simp; (try with_reducible rfl))
              change wpAnyH _ _ _ _ _ _ _ (Act.put _ (some 177) _) _
              try simp only [Act.put, List.setIfInBounds_toArray, List.set_cons_zero, List.set_cons_succ]
              refine wpAnyH_take (i := 59) (v := ?_) rfl (by kernel_rfl) (by kernel_rfl) (by kernel_rfl) (fun _ _ _ h => h) (Or.inl ⟨by rfl, ?_⟩) (by assumption) ?_
              rotate_left
              · ((intro w0 hSw); (try dsimp only at hSw); go_simp; (try with_reducible rfl))
              change wpAnyH _ _ _ _ _ _ _ (Act.put _ (some 178) _) _
              try simp only [Act.put, List.setIfInBounds_toArray, List.set_cons_zero, List.set_cons_succ]
              refine wpAnyH_take (i := 60) (v := ?_) rfl (by kernel_rfl) (by kernel_rfl) (by kernel_rfl) (fun _ _ _ h => h) (Or.inl ⟨by rfl, ?_⟩) (by assumption) ?_
              rotate_left
              · ((intro w0 hSw); (try dsimp only at hSw); go_simp; (try with_reducible rfl))
              change wpAnyH _ _ _ _ _ _ _ (Act.put _ (some 179) _) _
              try simp only [Act.put, List.setIfInBounds_toArray, List.set_cons_zero, List.set_cons_succ]
              refine wpAnyH_take (i := 61) (v := ?_) rfl (by kernel_rfl) (by kernel_rfl) (by kernel_rfl) (fun _ _ _ h => h) (Or.inl ⟨by rfl, ?_⟩) (by assumption) ?_
              rotate_left
              · ((intro w0 hSw); (try dsimp only at hSw); go_simp; (try with_reducible rfl))
              change wpAnyH _ _ _ _ _ _ _ (Act.put _ (some 180) _) _
              try simp only [Act.put, List.setIfInBounds_toArray, List.set_cons_zero, List.set_cons_succ]
              refine wpAnyH_ready (rs := [54]) (by kernel_rfl) (by simp) ?_
              refine AllReadyH.cons rfl (fun K hK => ?_) AllReadyH.nil
              go_simp
              go_at_call 9; (with_reducible refine (HBe.out _ (az_rd (by assumption))).mono ?_); rintro e wn ⟨rfl, hbn⟩
              refine hK.out _ _ ?_ (fun hHeld2 => ?_)
              · exact az_6 ((by assumption : Az _ _ _ _ _ _ _ _ _ ∧ _).1.next hbn) ha8 hb8 hx8 hy8 k1 k2 k3 k4 k5 k6
              clear hK K hHeld
              have hHeld := hHeld2; clear hHeld2
              try change wpAnyH _ _ _ _ _ _ _ (Act.put _ (some 173) _) _
              try simp only [Act.put, List.setIfInBounds_toArray, List.set_cons_zero, List.set_cons_succ]
              refine wpAnyH_take (i := 62) (v := ?_) rfl (by kernel_rfl) (by kernel_rfl) (by kernel_rfl) (fun _ _ _ h => h) (Or.inl ⟨by rfl, ?_⟩) (by assumption) ?_
              rotate_left
              · ((intro w0 hSw); (try dsimp only at hSw); go_simp; (try with_reducible rfl))
              change wpAnyH _ _ _ _ _ _ _ (Act.put _ (some 181) _) _
              try simp only [Act.put, List.setIfInBounds_toArray, List.set_cons_zero, List.set_cons_succ]
              refine wpAnyH_take (i := 63) (v := ?_) rfl (by kernel_rfl) (by kernel_rfl) (by kernel_rfl) (fun _ _ _ h => h) (Or.inl ⟨by rfl, ?_⟩) (by assumption) ?_
              rotate_left
              · ((intro w0 hSw); (try dsimp only at hSw); go_simp; (try with_reducible rfl))
              change wpAnyH _ _ _ _ _ _ _ (Act.put _ (some 182) _) _
              try simp only [Act.put, List.setIfInBounds_toArray, List.set_cons_zero, List.set_cons_succ]
              refine wpAnyH_done (by kernel_rfl) ?_ _
              have HA2 := Lib.hid (by assumption : Az _ _ _ _ _ _ _ _ _ ∧ _).1
              clear HA
              have HA := HA2
              clear HA2
              go_wp2_with fail
              go_loopg [16] ns.length (fun g i W => ∃ c : Nat, c + g = ns.length ∧ i = .int .i64 c ∧ Az w wk (.slice p ns.length cap) (.slice q up.length cap') ns up r s W)
              case atStart => exact ⟨0, by omega, rfl, HA.out⟩
              case round =>
                clear HA
                obtain ⟨c, hcg, rfl, haz⟩ := hrel
                have HA := Lib.hid haz; clear haz
                cases gk with
                | zero =>
                  have hcz : ¬ ((c : Int) < (ns.length : Int)) := by omega
                  go_wp2_with fail
                  go_roundg g2
                  case measure => omega
                  case rel => exact ⟨b + 1, by omega, by go_num, HA.out⟩
                | succ g3 =>
                  have hclt : (c : Int) < (ns.length : Int) := by omega
                  have hc8 : c < 8 := by omega
                  have hc8i : (c : Int) < 8 := by omega
                  obtain ⟨z, u, hz8, hu8, d1, d2, d3⟩ := HC1.out c (by omega)
                  obtain ⟨z', u', hz8', hu8', d1', d2', d3'⟩ := HC2.out c (by omega)
                  have hu8i : (u : Int) < 8 := by omega
                  have hu8i' : (u' : Int) < 8 := by omega
                  have e1 := itb_at HA.out.j ha8 hb8 k1
                  have e2 := itb_at HA.out.j hx8 hc8 d1
                  have e3 := itb_at HA.out.j hb8 hc8 d2
                  have e4 := itb_at HA.out.j ha8 hu8 d3
                  have e1' := itb_at HA.out.m ha8 hb8 k3
                  have e2' := itb_at HA.out.m hy8 hc8 d1'
                  have e3' := itb_at HA.out.m hb8 hc8 d2'
                  have e4' := itb_at HA.out.m ha8 hu8' d3'
                  clear d1 d2 d3 d1' d2' d3'
                  go_wp2_with fail
                  go_quiet (fail)
                  clear e1 e2 e3 e4 e1' e2' e3' e4'
                  have HA2 := Lib.hid (HA.out.next (drewN_bl _ nq))
                  clear HA
                  go_wp2_with fail
                  go_roundg g3
                  case measure => omega
                  case rel => exact ⟨c + 1, by omega, by go_num, HA2.out⟩
    | succ g =>
      have halt : (a : Int) < (ns.length : Int) := by omega
      go_wp2_with fail
      go_loopg [9] ns.length (fun g i W => ∃ (b : Nat) (r s : Nat → Nat → Nat), b + g = ns.length ∧ i = .int .i64 b ∧ Az w wk (.slice p ns.length cap) (.slice q up.length cap') ns up r s W ∧ Hid (Tz ns.length gj r a b) ∧ Hid (Tz ns.length gm s a b))
      case atStart => exact ⟨0, _, _, by omega, rfl, HA.out, hq1, hq2⟩
      case round =>
        clear HA hq1 hq2
        obtain ⟨b, r, s, hbg, rfl, haz, hq1, hq2⟩ := hrel
        have HA := Lib.hid haz; clear haz
        cases gk with
        | zero =>
          have hbz : ¬ ((b : Int) < (ns.length : Int)) := by omega
          have HQ1 := Lib.hid (tz_row hq1.out (by omega))
          have HQ2 := Lib.hid (tz_row hq2.out (by omega))
          go_wp2_with fail
          go_roundg g
          case measure => omega
          case rel => exact ⟨a + 1, r, s, by omega, by go_num, HA.out, HQ1, HQ2⟩
        | succ g2 =>
          have hblt : (b : Int) < (ns.length : Int) := by omega
          have hau : a < up.length := by have := HNU.out; omega
          have hbu : b < up.length := by have := HNU.out; omega
          have HQ1 := Lib.hid (tz_upd hq1.out)
          have HQ2 := Lib.hid (tz_upd hq2.out)
          have HC1 : Hid (∀ W, RdL W.heap.size W (.agg #[.slice p ns.length cap, .slice q up.length cap']) ns up → Calls Try.prog 7 #[.agg #[.slice p ns.length cap, .slice q up.length cap'], .int .i64 (a : Nat), .int .i64 (b : Nat)] W fun e w' => e = .returned (.tuple #[.int .i64 (gj a b : Nat), .int .i64 0]) ∧ Below W.heap.size W w') := fun W hW => by rw [HJ.out]; exact join_ok _ ns up a b W hW HG.out hau hbu
          have HC2 : Hid (∀ W, RdL W.heap.size W (.agg #[.slice p ns.length cap, .slice q up.length cap']) ns up → Calls Try.prog 8 #[.agg #[.slice p ns.length cap, .slice q up.length cap'], .int .i64 (a : Nat), .int .i64 (b : Nat)] W fun e w' => e = .returned (.tuple #[.int .i64 (gm a b : Nat), .int .i64 0]) ∧ Below W.heap.size W w') := fun W hW => by rw [HM.out]; exact meet_ok _ ns up a b W hW HG.out hau hbu
          have hjl : gj a b < ns.length := by rw [HJ.out, HNU.out]; exact HG.out.ords.1.J_lt hau hbu
          have hml : gm a b < ns.length := by rw [HM.out, HNU.out]; exact HG.out.ords.2.J_lt hau hbu
          generalize gj a b = x at HQ1 HC1 hjl
          generalize gm a b = y at HQ2 HC2 hml
          clear hq1 hq2
          have ha8 : (a : Int) < 8 := by omega
          have hb8 : (b : Int) < 8 := by omega
          have hb8n : b < 8 := by omega
          have hd1 : decide (ns.length ≤ x) = false := decide_eq_false (by omega)
          have hd2 : decide (ns.length ≤ y) = false := decide_eq_false (by omega)
          have hx0 := HA.out.l.x0
          have hx1 := HA.out.l.x1
          go_wp2_with (first
            | (go_at_call 7; refine (HC1.out _ HA.out.l.rd).mono ?_; rintro e w' ⟨rfl, hbn⟩; clear hx0 hx1; have HA2 := Lib.hid (HA.out.next hbn); clear HA; have HA := HA2; clear HA2; have hx0 := HA.out.l.x0; have hx1 := HA.out.l.x1; clear hbn)
            | (go_at_call 8; refine (HC2.out _ HA.out.l.rd).mono ?_; rintro e w8 ⟨rfl, hbn⟩; clear hx0 hx1; have HA2 := Lib.hid (HA.out.next hbn); clear HA; have HA := HA2; clear HA2; clear hbn; have kf1 : w8.frozen? ⟨wk.heap.size, a * 8 + b, none⟩ = false := HA.out.j.frozen _; have kf2 : w8.frozen? ⟨wk.heap.size + 1, a * 8 + b, none⟩ = false := HA.out.m.frozen _; have kc1 := HA.out.j.cell (i := a * 8 + b) (by omega); have kc2 := HA.out.m.cell (i := a * 8 + b) (by omega)))
          have HP1 := Lib.hid (Az.putm HI0.out (Az.putj (a := a) (v := x) HI0.out HA.out hb8n) (a := a) (v := y) hb8n)
          have HP2 := Lib.hid (Az.putj HI0.out (Az.putm (a := a) (v := y) HI0.out HA.out hb8n) (a := a) (v := x) hb8n)
          go_region
          all_goals go_wp2_with fail
          all_goals
            go_roundg g2
            case measure => omega
            case rel => exact ⟨b + 1, _, _, by omega, by go_num, (by first | exact HP1.out.drew | exact HP2.out.drew | exact HP1.out | exact HP2.out), HQ1, HQ2⟩

theorem lawAlgebra_any (v : Value) (ns : List ByteArray) (up : List UInt8) (w : World) (hv : RdL w.heap.size w v ns up) :
    Calls Try.prog 3 #[v] w fun e w' => e = .returned (.bool true) ∧ Below w.heap.size w w' := by
  cases e0 : farB ns up
  · cases e1 : ((ck ns up).2 != 0)
    · exact lawAlgebra_ok v ns up w hv e0 (good_of (by simpa using e1))
    · exact lawAlgebra_bad v ns up w hv e0 e1
  · exact lawAlgebra_far v ns up w hv e0
end Go.Proofs.Ytdgnogkdiakjoaa
