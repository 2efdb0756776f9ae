/- The law LatticeDuals as a walk. -/
import Derived.Test.YtfjnapmhnfjopaaLtRe
import Derived.Test.YtfjnapmhnfjopaaLaF
import Derived.Deep.RegionHeld3
namespace Go.Proofs.Ytfjnapmhnfjopaa
open Go.RowKit

theorem top_d {v : Value} {ns : List ByteArray} {up : List UInt8} {w : World} (hg : Good ns up) (hv : RdL w.heap.size w v ns (dnU up)) :
    Calls Try.prog 27 #[v] w fun e w' => e = .returned (.tuple #[.int .i64 (endF (ge up) up.length up.length), .int .i64 0]) ∧ Below w.heap.size w w' := by
  have h := top_ok v ns (dnU up) w hv hg.dn
  rw [end_dn hg] at h
  exact h
theorem dual_d {v : Value} {ns : List ByteArray} {up : List UInt8} {w : World} (hg : Good ns up) (hv : RdL w.heap.size w v ns (dnU up)) :
    Calls Try.prog 34 #[v] w fun e w' => ∃ x, e = .returned (.tuple #[x, .int .i64 0]) ∧ RdL w'.heap.size w' x ns up ∧ Below w.heap.size w w' := by
  have h := dual_ok v ns (dnU up) w hv hg.dn
  rw [dn_dn hg] at h
  exact h
/-- The cells of the law's table. -/
def rtb (r : Nat → Nat → Bool) (i : Nat) : Value := .bool (r (i / 8) (i % 8))
def dg (a : Nat) : Nat → Nat → Bool := fun x y => decide (x = y ∧ x < a)
theorem rtb_set {w : World} {R : Nat} {t : TypeId} {r s : Nat → Nat → Bool} {a b : Nat} {v : Bool} (h : w.rowIs R t 64 (rtb r)) (hb : b < 8) (h1 : s a b = v) (h2 : ∀ x y, y < 8 → ¬ (x = a ∧ y = b) → s x y = r x y) : (w.setCell ⟨R, a * 8 + b, none⟩ (.bool v)).rowIs R t 64 (rtb s) := by
  refine (h.set (a * 8 + b) _).congr fun i hi => ?_
  show (if i = a * 8 + b then Value.bool v else rtb r i) = rtb s i
  unfold rtb
  by_cases e : i = a * 8 + b
  · rw [if_pos e, show i / 8 = a by omega, show i % 8 = b by omega, h1]
  · rw [if_neg e, h2 _ _ (Nat.mod_lt _ (by decide)) (by omega)]
theorem dg_next {w : World} {R : Nat} {t : TypeId} {a : Nat} (h : w.rowIs R t 64 (rtb (dg a))) (ha : a < 8) : (w.setCell ⟨R, a * 8 + a, none⟩ (.bool true)).rowIs R t 64 (rtb (dg (a + 1))) := by
  refine rtb_set h ha (decide_eq_true ⟨rfl, Nat.lt_succ_self a⟩) fun x y _ hne => ?_
  unfold dg
  rw [Bool.eq_iff_iff, decide_eq_true_iff, decide_eq_true_iff]
  omega
def agr (n : Nat) (r s : Nat → Nat → Bool) : Prop := ∀ a b, a < n → b < n → r a b = s a b
/-- A pair, for the labels before k. -/
def rpt (r : Nat → Nat → Bool) (x : Nat × Nat) (k : Nat) : Nat → Nat → Bool := fun a b => if a < k then rstp r x a b else r a b
theorem agr_rpt {n : Nat} {r s : Nat → Nat → Bool} {x : Nat × Nat} (h : agr n r s) (hx : x.1 < n) : agr n (rpt r x n) (rstp s x) := fun a b ha hb => by
  unfold rpt rstp
  rw [if_pos ha, h a b ha hb, h a x.1 ha hx]
theorem rpt_next {w : World} {R : Nat} {t : TypeId} {r : Nat → Nat → Bool} {x : Nat × Nat} {a : Nat} {v : Bool} (h : w.rowIs R t 64 (rtb (rpt r x a))) (hy : x.2 < 8) (hv : (r a x.2 || r a x.1) = v) : (w.setCell ⟨R, a * 8 + x.2, none⟩ (.bool v)).rowIs R t 64 (rtb (rpt r x (a + 1))) := by
  refine rtb_set h hy ?_ fun c d _ hne => ?_
  · unfold rpt rstp; rw [if_pos (Nat.lt_succ_self a), if_pos rfl, hv]
  · unfold rpt
    by_cases e : c < a
    · rw [if_pos e, if_pos (by omega)]
    · rw [if_neg e]
      by_cases e2 : c = a
      · subst e2
        rw [if_pos (Nat.lt_succ_self c)]
        unfold rstp
        rw [if_neg (fun e3 => hne ⟨rfl, e3⟩)]
      · rw [if_neg (by omega)]
theorem rpt_0 (r : Nat → Nat → Bool) (x : Nat × Nat) : rpt r x 0 = r := by funext a b; unfold rpt; rw [if_neg (by omega)]
theorem rrnd_take {l : List (Nat × Nat)} {i : Nat} (r : Nat → Nat → Bool) (h : i < l.length) : rrnd (l.take (i + 1)) r = rstp (rrnd (l.take i) r) l[i] := by
  unfold rrnd; rw [List.take_succ_eq_append_getElem h, List.foldl_append]; rfl
theorem below_d {v : Value} {ns : List ByteArray} {up : List UInt8} {a b : Nat} {w : World} (hv : RdL w.heap.size w v ns (dnU up)) (hg : Good ns up) (ha : a < up.length) (hb : b < up.length) :
    Calls Try.prog 40 #[v, .int .i64 b, .int .i64 a] w fun e w' => e = .returned (.bool (le up a b)) ∧ Below w.heap.size w w' := by
  have h := below_ok v ns (dnU up) b a w hv hg.dn (by rw [dnU_len]; exact hb) (by rw [dnU_len]; exact ha)
  rw [le_dn up b a hb ha hg.n8'] at h
  exact h
theorem meet_d {v : Value} {ns : List ByteArray} {up : List UInt8} {a b : Nat} {w : World} (hv : RdL w.heap.size w v ns (dnU up)) (hg : Good ns up) (ha : a < up.length) (hb : b < up.length) :
    Calls Try.prog 23 #[v, .int .i64 a, .int .i64 b] w fun e w' => e = .returned (.tuple #[.int .i64 (J (le up) up.length a b), .int .i64 0]) ∧ Below w.heap.size w w' := by
  have h := meet_ok v ns (dnU up) a b w hv hg.dn (by rw [dnU_len]; exact ha) (by rw [dnU_len]; exact hb)
  rw [J_dn hg ha hb] at h
  exact h
/-- What the last region keeps. -/
structure Dz (w wc w0 : World) (vn vu cn cu : Value) (ns : List ByteArray) (up : List UInt8) (r : Nat → Nat → Bool) (W : World) : Prop where
  l : Bx w vn vu ns up W
  d : Bx wc cn cu ns (dnU up) W
  b : Below w0.heap.size w0 W
  t : W.rowIs w0.heap.size 54 64 (rtb r)
theorem dz_all {w wc w0 W : World} {vn vu cn cu : Value} {ns : List ByteArray} {up : List UInt8} {r : Nat → Nat → Bool} {o : Nat} {v : Bool} (h : Dz w wc w0 vn vu cn cu ns up r W) (ho : o < 64) (hv : rtb r o = .bool v) :
    Dz w wc w0 vn vu cn cu ns up r W ∧ W.cell? ⟨w.heap.size, 0, none⟩ = some vn ∧ W.cell? ⟨w.heap.size, 1, none⟩ = some vu ∧ W.cell? ⟨wc.heap.size, 0, none⟩ = some cn ∧ W.cell? ⟨wc.heap.size, 1, none⟩ = some cu ∧ W.cell? ⟨w0.heap.size, o, none⟩ = some (.bool v) :=
  ⟨h, h.l.x0, h.l.x1, h.d.x0, h.d.x1, (h.t.cell ho).trans (congrArg some hv)⟩
theorem dz_n {w wc w0 W W' : World} {vn vu cn cu : Value} {ns : List ByteArray} {up : List UInt8} {r : Nat → Nat → Bool} {o : Nat} {v : Bool} {p : Prop} (h : Dz w wc w0 vn vu cn cu ns up r W ∧ p) (hb : Below W.heap.size W W') (ho : o < 64) (hv : rtb r o = .bool v) :
    Dz w wc w0 vn vu cn cu ns up r W' ∧ W'.cell? ⟨w.heap.size, 0, none⟩ = some vn ∧ W'.cell? ⟨w.heap.size, 1, none⟩ = some vu ∧ W'.cell? ⟨wc.heap.size, 0, none⟩ = some cn ∧ W'.cell? ⟨wc.heap.size, 1, none⟩ = some cu ∧ W'.cell? ⟨w0.heap.size, o, none⟩ = some (.bool v) :=
  dz_all ⟨h.1.l.next hb, h.1.d.next hb, h.1.b.trans (hb.mono h.1.b.size), h.1.t.of_block (hb.block _ h.1.t.lt)⟩ ho hv
theorem dz_bl {w wc w0 W : World} {vn vu cn cu : Value} {ns : List ByteArray} {up : List UInt8} {r : Nat → Nat → Bool} {p : Prop} {a b : Nat} (h : Dz w wc w0 vn vu cn cu ns up r W ∧ p) (hg : Good ns up) (ha : a < up.length) (hb : b < up.length) :
    Calls Try.prog 40 #[.agg #[vn, vu], .int .i64 a, .int .i64 b] W fun e w' => e = .returned (.bool (le up a b)) ∧ Below W.heap.size W w' := below_ok _ ns up a b W h.1.l.rd hg ha hb
theorem dz_bd {w wc w0 W : World} {vn vu cn cu : Value} {ns : List ByteArray} {up : List UInt8} {r : Nat → Nat → Bool} {p : Prop} {a b : Nat} (h : Dz w wc w0 vn vu cn cu ns up r W ∧ p) (hg : Good ns up) (ha : a < up.length) (hb : b < up.length) :
    Calls Try.prog 40 #[.agg #[cn, cu], .int .i64 b, .int .i64 a] W fun e w' => e = .returned (.bool (le up a b)) ∧ Below W.heap.size W w' := below_d h.1.d.rd hg ha hb
theorem dnU_8 (up : List UInt8) : (dnU up).length = up.length := dnU_len up
set_option maxRecDepth 100000 in
set_option maxHeartbeats 8000000 in
theorem lawDuals_far (v : Value) (ns : List ByteArray) (up : List UInt8) (w : World) (hv : RdL w.heap.size w v ns up) (e0 : farB ns up = true) :
    Calls Try.prog 9 #[v] w fun e w' => e = .returned (.bool true) ∧ Below w.heap.size w w' := by
  have HL := Lib.hid hv
  obtain ⟨⟨vn, vu, rfl, hS, hB⟩, hsz⟩ := hv
  obtain ⟨p, cap, rfl, hc, hc2, h⟩ := hS
  obtain ⟨q, cap', rfl, hc', hc2', h'⟩ := hB
  clear h h' hsz
  have HI := Lib.hid (Bx.new HL.out)
  go_enter Try.func9, Try.ntmps9
  go_wp2_with (first
      | (go_at_call 11; refine (far_any _ ns up _ HI.out.rd).mono ?_; rintro e w' ⟨rfl, hbn⟩; have HI2 := Lib.hid (HI.out.next hbn); clear HI; have HI := HI2; clear HI2; have hx0 := HI.out.x0; have hx1 := HI.out.x1; clear hbn)
      | (go_at_call 13; refine (awake_any _).mono ?_; rintro e w' ⟨rfl, hbn⟩; clear hx0 hx1; have HI2 := Lib.hid (HI.out.next hbn); clear HI; have HI := HI2; clear HI2; have hx0 := HI.out.x0; have hx1 := HI.out.x1; clear hbn))
  go_ret
  exact ⟨ret_bool (by first | rfl | simp), HI.out.bel⟩

set_option maxRecDepth 100000 in
set_option maxHeartbeats 8000000 in
theorem lawDuals_bad (v : Value) (ns : List ByteArray) (up : List UInt8) (w : World) (hv : RdL w.heap.size w v ns up) (e0 : farB ns up = false) (hck : ((ck ns up).2 != 0) = true) :
    Calls Try.prog 9 #[v] w fun e w' => e = .returned (.bool true) ∧ Below w.heap.size w w' := by
  have HL := Lib.hid hv
  obtain ⟨⟨vn, vu, rfl, hS, hB⟩, hsz⟩ := hv
  obtain ⟨p, cap, rfl, hc, hc2, h⟩ := hS
  obtain ⟨q, cap', rfl, hc', hc2', h'⟩ := hB
  clear h h' hsz
  have HI := Lib.hid (Bx.new HL.out)
  go_enter Try.func9, Try.ntmps9
  go_wp2_with (first
      | (go_at_call 11; refine (far_any _ ns up _ HI.out.rd).mono ?_; rintro e w' ⟨rfl, hbn⟩; have HI2 := Lib.hid (HI.out.next hbn); clear HI; have HI := HI2; clear HI2; have hx0 := HI.out.x0; have hx1 := HI.out.x1; clear hbn)
      | (go_at_call 13; refine (awake_any _).mono ?_; rintro e w' ⟨rfl, hbn⟩; clear hx0 hx1; have HI2 := Lib.hid (HI.out.next hbn); clear HI; have HI := HI2; clear HI2; have hx0 := HI.out.x0; have hx1 := HI.out.x1; clear hbn)
      | (go_at_call 34; refine (dual_bad _ ns up _ HI.out.rd hck).mono ?_; rintro e wc ⟨rfl, hbn⟩; have hbn0 := hbn; have hbn := hbn0.trans ((bel1 wc (.cells #[Value.slice none 0 0, Value.slice none 0 0] 25)).mono hbn0.size); clear hbn0; clear hx0 hx1; have HI2 := Lib.hid (HI.out.next hbn); clear HI; have HI := HI2; clear HI2; have hx0 := HI.out.x0; have hx1 := HI.out.x1; have HC := Lib.hid (Bx.new (rdl_nil wc.heap.size wc)); have hc0 := HC.out.x0; have hc1 := HC.out.x1; clear hbn))
  go_ret
  exact ⟨ret_bool (by first | rfl | simp), HI.out.bel⟩

set_option maxRecDepth 100000 in
set_option maxHeartbeats 8000000 in
theorem lawDuals_ok (v : Value) (ns : List ByteArray) (up : List UInt8) (w : World) (hv : RdL w.heap.size w v ns up) (e0 : farB ns up = false) (hg : Good ns up) :
    Calls Try.prog 9 #[v] w fun e w' => e = .returned (.bool true) ∧ Below w.heap.size w w' := by
  have HL := Lib.hid hv
  obtain ⟨⟨vn, vu, rfl, hS, hB⟩, hsz⟩ := hv
  obtain ⟨p, cap, rfl, hc, hc2, h⟩ := hS
  obtain ⟨q, cap', rfl, hc', hc2', h'⟩ := hB
  clear h h' hsz
  have HI := Lib.hid (Bx.new HL.out)
  have HG := Lib.hid hg
  clear hg
  go_enter Try.func9, Try.ntmps9
  go_wp2_with (first
      | (go_at_call 11; refine (far_any _ ns up _ HI.out.rd).mono ?_; rintro e w' ⟨rfl, hbn⟩; have HI2 := Lib.hid (HI.out.next hbn); clear HI; have HI := HI2; clear HI2; have hx0 := HI.out.x0; have hx1 := HI.out.x1; clear hbn)
      | (go_at_call 13; refine (awake_any _).mono ?_; rintro e w' ⟨rfl, hbn⟩; clear hx0 hx1; have HI2 := Lib.hid (HI.out.next hbn); clear HI; have HI := HI2; clear HI2; have hx0 := HI.out.x0; have hx1 := HI.out.x1; clear hbn)
      | (go_at_call 34; refine (dual_ok _ ns up _ (by exact HI.out.rd) HG.out).mono ?_; rintro e wc ⟨dv, rfl, hP, hbn⟩; have HP7 := Lib.hid hP; obtain ⟨⟨V1, V2, rfl, ⟨da, dc, rfl, V5⟩, ⟨db, dd, rfl, V8⟩⟩, V9⟩ := hP; clear V5 V8 V9; have HC := Lib.hid (Bx.new HP7.out); clear HP7; have hbn0 := hbn; have hbn := hbn0.trans ((bel1 wc (.cells #[.slice da ns.length dc, .slice db (dnU up).length dd] 25)).mono hbn0.size); clear hbn0; clear hx0 hx1; have HI2 := Lib.hid (HI.out.next hbn); clear HI; have HI := HI2; clear HI2; have hx0 := HI.out.x0; have hx1 := HI.out.x1; have hc0 := HC.out.x0; have hc1 := HC.out.x1; clear hbn)
      | (go_at_call 34; refine (dual_d HG.out (by exact HC.out.rd)).mono ?_; rintro e wd ⟨dv, rfl, hP, hbn⟩; have HP7 := Lib.hid hP; obtain ⟨⟨V1, V2, rfl, ⟨ea, ec, rfl, V5⟩, ⟨eb, ed, rfl, V8⟩⟩, V9⟩ := hP; clear V5 V8 V9; have HD := Lib.hid (Bx.new HP7.out); clear HP7; have hbn0 := hbn; have hbn := hbn0.trans ((bel1 wd (.cells #[.slice ea ns.length ec, .slice eb up.length ed] 25)).mono hbn0.size); clear hbn0; clear hx0 hx1; clear hc0 hc1; have HI2 := Lib.hid (HI.out.next hbn); clear HI; have HI := HI2; clear HI2; have HC2 := Lib.hid (HC.out.next hbn); clear HC; have HC := HC2; clear HC2; have hx0 := HI.out.x0; have hx1 := HI.out.x1; have hc0 := HC.out.x0; have hc1 := HC.out.x1; have hd0 := HD.out.x0; have hd1 := HD.out.x1; clear hbn)
      | (go_at_call 25; refine (bottom_ok _ ns up _ HI.out.rd HG.out).mono ?_; rintro e w' ⟨rfl, hbn⟩; clear hx0 hx1; clear hc0 hc1; clear hd0 hd1; have HI2 := Lib.hid (HI.out.next hbn); clear HI; have HI := HI2; clear HI2; have HC2 := Lib.hid (HC.out.next hbn); clear HC; have HC := HC2; clear HC2; have HD2 := Lib.hid (HD.out.next hbn); clear HD; have HD := HD2; clear HD2; have hx0 := HI.out.x0; have hx1 := HI.out.x1; have hc0 := HC.out.x0; have hc1 := HC.out.x1; have hd0 := HD.out.x0; have hd1 := HD.out.x1; clear hbn)
      | (go_at_call 27; refine (top_d HG.out HC.out.rd).mono ?_; rintro e w' ⟨rfl, hbn⟩; clear hx0 hx1; clear hc0 hc1; clear hd0 hd1; have HI2 := Lib.hid (HI.out.next hbn); clear HI; have HI := HI2; clear HI2; have HC2 := Lib.hid (HC.out.next hbn); clear HC; have HC := HC2; clear HC2; have HD2 := Lib.hid (HD.out.next hbn); clear HD; have HD := HD2; clear HD2; have hx0 := HI.out.x0; have hx1 := HI.out.x1; have hc0 := HC.out.x0; have hc1 := HC.out.x1; have hd0 := HD.out.x0; have hd1 := HD.out.x1; clear hbn)
      | (go_at_call 31; refine (covers_ok _ ns up _ HI.out.rd HG.out).mono ?_; rintro e w' ⟨pv, rfl, hP, hbn⟩; clear hx0 hx1; clear hc0 hc1; clear hd0 hd1; have HI2 := Lib.hid (HI.out.next hbn); clear HI; have HI := HI2; clear HI2; have HC2 := Lib.hid (HC.out.next hbn); clear HC; have HC := HC2; clear HC2; have HD2 := Lib.hid (HD.out.next hbn); clear HD; have HD := HD2; clear HD2; have hx0 := HI.out.x0; have hx1 := HI.out.x1; have hc0 := HC.out.x0; have hc1 := HC.out.x1; have hd0 := HD.out.x0; have hd1 := HD.out.x1; have HP := Lib.hid hP; obtain ⟨pa, pc, rfl, V3⟩ := hP; clear V3; clear hbn)
      | (go_at_call 18; refine (same_refl _ _ ns up _ HD.out.rd HI.out.rd).mono ?_; rintro e w' ⟨rfl, hbn⟩; clear hx0 hx1; clear hc0 hc1; clear hd0 hd1; have HI2 := Lib.hid (HI.out.next hbn); clear HI; have HI := HI2; clear HI2; have HC2 := Lib.hid (HC.out.next hbn); clear HC; have HC := HC2; clear HC2; have HD2 := Lib.hid (HD.out.next hbn); clear HD; have HD := HD2; clear HD2; have HP2 := Lib.hid (HP.out.next hbn); clear HP; have HP := HP2; clear HP2; have hx0 := HI.out.x0; have hx1 := HI.out.x1; have hc0 := HC.out.x0; have hc1 := HC.out.x1; have hd0 := HD.out.x0; have hd1 := HD.out.x1; clear hbn))
  have hn8 : ns.length ≤ 8 := HG.out.most
  have HBr := Lib.hid (bel1 w' (.cells (Array.replicate 64 (Value.bool false)) 54))
  have HR0 : Hid ((w'.alloc (.cells (Array.replicate 64 (Value.bool false)) 54)).rowIs w'.heap.size 54 64 (rtb (dg 0))) :=
    World.rowIs_alloc w' (Array.replicate 64 (Value.bool false)) _ _ (fun i hi => by
      have hi : i < 64 := by simpa using hi
      unfold rtb dg
      rw [decide_eq_false (by omega)]
      simp [hi])
  go_loopg [14] ns.length (fun g i W => ∃ a : Nat, a + g = ns.length ∧ i = .int .i64 a ∧ Below w'.heap.size w' W ∧ W.rowIs w'.heap.size 54 64 (rtb (dg a)))
  case atStart => exact ⟨0, by omega, rfl, HBr.out, HR0.out⟩
  case round =>
    clear HBr HR0
    obtain ⟨a, hag, rfl, hbl, hrow⟩ := hrel
    have HRo := Lib.hid hrow; clear hrow
    cases gk with
    | zero =>
      have haz : ¬ ((a : Int) < (ns.length : Int)) := by omega
      clear hx0 hx1 hc0 hc1 hd0 hd1
      have HN : Hid (ns.length = up.length) := HG.out.len.symm
      have HCl : Hid ((cov up up.length).length ≤ 1000) := by
        have h1 := cov_len up up.length
        have h2 : up.length ≤ 8 := HG.out.n8
        exact Nat.le_trans h1 (Nat.le_trans (Nat.mul_le_mul h2 h2) (by decide))
      have HA0 : Hid (agr ns.length (dg a) (rch (cov up up.length) 0)) := fun x y hx hy => by
        unfold dg
        show decide (x = y ∧ x < a) = decide (x = y)
        rw [Bool.eq_iff_iff, decide_eq_true_iff, decide_eq_true_iff]; omega
      go_wp2_with fail
      go_loopg [15] ns.length (fun g i W => ∃ (k : Nat) (r : Nat → Nat → Bool), k + g = ns.length ∧ i = .int .i64 k ∧ Below w'.heap.size w' W ∧ W.rowIs w'.heap.size 54 64 (rtb r) ∧ Hid (agr ns.length r (rch (cov up up.length) k)))
      case atStart => exact ⟨0, _, by omega, rfl, hbl, HRo.out, HA0⟩
      case round =>
        clear HRo hbl HA0
        obtain ⟨k, r, hkg, rfl, hbl, hrow, hag2⟩ := hrel
        have HRo := Lib.hid hrow; clear hrow
        cases gk with
        | zero =>
          have hkz : ¬ ((k : Int) < (ns.length : Int)) := by omega
          have HA3 : Hid (∀ x y, x < ns.length → y < ns.length → r x y = le up x y) := fun x y hx hy => by
            have h := hag2.out x y hx hy
            rw [show k = up.length by have := HN.out; omega] at h
            rw [h]
            exact rch_eq HG.out.ords.1 (by have := HN.out; omega) (by have := HN.out; omega)
          clear hag2
          go_wp2_with fail
          go_loopg [18] ns.length (fun g i W => ∃ a : Nat, a + g = ns.length ∧ i = .int .i64 a ∧ Below w'.heap.size w' W ∧ W.rowIs w'.heap.size 54 64 (rtb r))
          case atStart => exact ⟨0, by omega, rfl, hbl, HRo.out⟩
          case round =>
            clear HRo hbl
            obtain ⟨a3, hag3, rfl, hbl, hrow⟩ := hrel
            have HRo := Lib.hid hrow; clear hrow
            cases gk with
            | zero =>
              have haz3 : ¬ ((a3 : Int) < (ns.length : Int)) := by omega
              have HI2 := Lib.hid (HI.out.next hbl); clear HI; have HI := HI2; clear HI2
              have hx0 := HI.out.x0
              have hx1 := HI.out.x1
              go_wp2_with (go_at_call 13; refine (awake_any _).mono ?_; rintro e w' ⟨rfl, hbn⟩; clear hx0 hx1; have HI2 := Lib.hid (HI.out.next hbn); clear HI; have HI := HI2; clear HI2; have hx0 := HI.out.x0; have hx1 := HI.out.x1; clear hbn)
              go_ret
              exact ⟨rfl, HI.out.bel⟩
            | succ g5 =>
              have halt3 : (a3 : Int) < (ns.length : Int) := by omega
              go_wp2_with fail
              go_loopg [19] ns.length (fun g i W => ∃ b : Nat, b + g = ns.length ∧ i = .int .i64 b ∧ Below w'.heap.size w' W ∧ W.rowIs w'.heap.size 54 64 (rtb r))
              case atStart => exact ⟨0, by omega, rfl, hbl, HRo.out⟩
              case round =>
                clear HRo hbl
                obtain ⟨b3, hbg3, rfl, hbl, hrow⟩ := hrel
                have HRo := Lib.hid hrow; clear hrow
                cases gk with
                | zero =>
                  have hbz3 : ¬ ((b3 : Int) < (ns.length : Int)) := by omega
                  go_wp2_with fail
                  go_roundg g5
                  case measure => omega
                  case rel => exact ⟨a3 + 1, by omega, by go_num, hbl, HRo.out⟩
                | succ g6 =>
                  have hblt3 : (b3 : Int) < (ns.length : Int) := by omega
                  have hb38 : (b3 : Int) < 8 := by omega
                  have ha38 : (a3 : Int) < 8 := by omega
                  have hau : a3 < up.length := by have := HN.out; omega
                  have hbu : b3 < up.length := by have := HN.out; omega
                  have HK1 : Hid (rtb r (a3 * 8 + b3) = .bool (le up a3 b3)) := by
                    unfold Hid rtb
                    rw [show (a3 * 8 + b3) / 8 = a3 by omega, show (a3 * 8 + b3) % 8 = b3 by omega, HA3.out a3 b3 (by omega) (by omega)]
                  have HI2 := Lib.hid (HI.out.next hbl); clear HI; have HI := HI2; clear HI2
                  have HC2 := Lib.hid (HC.out.next hbl); clear HC; have HC := HC2; clear HC2
                  have HB := Lib.hid hbl; clear hbl
                  have hx0 := HI.out.x0
                  have hx1 := HI.out.x1
                  have hc0 := HC.out.x0
                  have hc1 := HC.out.x1
                  have k1 := (HRo.out.cell (i := a3 * 8 + b3) (by omega)).trans (congrArg some HK1.out)
                  go_wp2_with (first
                    | (go_at_call 21; refine (join_ok _ ns up _ _ _ HI.out.rd HG.out hau hbu).mono ?_; rintro e wn ⟨rfl, hbn⟩; clear hx0 hx1; clear hc0 hc1; have HI2 := Lib.hid (HI.out.next hbn); clear HI; have HI := HI2; clear HI2; have HC2 := Lib.hid (HC.out.next hbn); clear HC; have HC := HC2; clear HC2; have hx0 := HI.out.x0; have hx1 := HI.out.x1; have hc0 := HC.out.x0; have hc1 := HC.out.x1; have HB2 := Lib.hid (HB.out.trans (hbn.mono HB.out.size)); clear HB; have HB := HB2; clear HB2; have HR2 := Lib.hid (HRo.out.of_block (hbn.block _ HRo.out.lt)); clear HRo; have HRo := HR2; clear HR2; clear k1; have k1 := (HRo.out.cell (i := a3 * 8 + b3) (by omega)).trans (congrArg some HK1.out); clear hbn)
                    | (go_at_call 23; refine (meet_d HC.out.rd HG.out hau hbu).mono ?_; rintro e wn ⟨rfl, hbn⟩; clear hx0 hx1; clear hc0 hc1; have HI2 := Lib.hid (HI.out.next hbn); clear HI; have HI := HI2; clear HI2; have HC2 := Lib.hid (HC.out.next hbn); clear HC; have HC := HC2; clear HC2; have hx0 := HI.out.x0; have hx1 := HI.out.x1; have hc0 := HC.out.x0; have hc1 := HC.out.x1; have HB2 := Lib.hid (HB.out.trans (hbn.mono HB.out.size)); clear HB; have HB := HB2; clear HB2; have HR2 := Lib.hid (HRo.out.of_block (hbn.block _ HRo.out.lt)); clear HRo; have HRo := HR2; clear HR2; clear k1; have k1 := (HRo.out.cell (i := a3 * 8 + b3) (by omega)).trans (congrArg some HK1.out); clear hbn)
                    | (fail))
                  have ho64 : a3 * 8 + b3 < 64 := by omega
                  have hS := dz_all (wc := wc) (w0 := w') ⟨HI.out, HC.out, HB.out, HRo.out⟩ ho64 HK1.out
                  clear HI HC HB HRo hx0 hx1 hc0 hc1 k1
                  go_region_held3 (fun W => Dz w wc w' (.slice p ns.length cap) (.slice q up.length cap') (.slice da ns.length dc) (.slice db (dnU up).length dd) ns up r W ∧ W.cell? ⟨w.heap.size, 0, none⟩ = some (.slice p ns.length cap) ∧ W.cell? ⟨w.heap.size, 1, none⟩ = some (.slice q up.length cap') ∧ W.cell? ⟨wc.heap.size, 0, none⟩ = some (.slice da ns.length dc) ∧ W.cell? ⟨wc.heap.size, 1, none⟩ = some (.slice db (dnU up).length dd) ∧ W.cell? ⟨w'.heap.size, a3 * 8 + b3, none⟩ = some (.bool (le up a3 b3)))
                    ((first | exact dz_n (by assumption) hbn ho64 HK1.out | exact dz_n hS (Below.refl _ _).drew ho64 HK1.out))
                    (first
                      | (go_at_call 40; refine (dz_bl (by assumption) HG.out (by assumption) (by assumption)).mono ?_; rintro e wn ⟨rfl, hbn⟩)
                      | (go_at_call 40; refine (dz_bd (by assumption) HG.out (by assumption) (by assumption)).mono ?_; rintro e wn ⟨rfl, hbn⟩))
                  have HE := Lib.hid (by assumption : Dz _ _ _ _ _ _ _ _ _ _ _ ∧ _).1
                  go_wp2_with fail
                  go_roundg g6
                  case measure => omega
                  case rel => exact ⟨b3 + 1, by omega, by go_num, HE.out.b, HE.out.t⟩
        | succ g2 =>
          have hklt : (k : Int) < (ns.length : Int) := by omega
          go_wp2_with fail
          go_loopg [16] (cov up up.length).length (fun g i W => ∃ (i' : Nat) (r : Nat → Nat → Bool), i' + g = (cov up up.length).length ∧ i = .int .i64 i' ∧ Below w'.heap.size w' W ∧ W.rowIs w'.heap.size 54 64 (rtb r) ∧ Hid (agr ns.length r (rrnd ((cov up up.length).take i') (rch (cov up up.length) k))))
          case atStart => exact ⟨0, r, by omega, rfl, hbl, HRo.out, hag2⟩
          case round =>
            clear HRo hbl hag2
            obtain ⟨i, r, hig, rfl, hbl, hrow, hag2⟩ := hrel
            have HRo := Lib.hid hrow; clear hrow
            cases gk with
            | zero =>
              have hiz : ¬ ((i : Int) < ((cov up up.length).length : Int)) := by omega
              have HA2 : Hid (agr ns.length r (rch (cov up up.length) (k + 1))) := by
                have := hag2.out
                rw [List.take_of_length_le (by omega)] at this
                exact this
              go_wp2_with fail
              go_roundg g2
              case measure => omega
              case rel => exact ⟨k + 1, r, by omega, by go_num, hbl, HRo.out, HA2⟩
            | succ g3 =>
              have hilt : (i : Int) < ((cov up up.length).length : Int) := by omega
              have hin : i < (cov up up.length).length := by omega
              have hcl := HCl.out
              have HAg : Hid (agr ns.length (rpt r (cov up up.length)[i] ns.length) (rrnd ((cov up up.length).take (i + 1)) (rch (cov up up.length) k))) := by
                unfold Hid; rw [rrnd_take _ hin]
                exact agr_rpt hag2.out (by rw [HN.out]; exact (mem_cov.1 (List.getElem_mem hin)).1)
              have hm := mem_cov.1 (List.getElem_mem hin : (((cov up up.length)[i]).1, ((cov up up.length)[i]).2) ∈ _)
              have hmx : ((cov up up.length)[i]).1 < 8 := Nat.lt_of_lt_of_le hm.1 HG.out.n8
              have hmy : ((cov up up.length)[i]).2 < 8 := Nat.lt_of_lt_of_le hm.2.1 HG.out.n8
              obtain ⟨a', c', hpe, hpc, hPc⟩ := HP.out
              injection hpe with hpe hpe2 hpe3
              subst hpe hpe3
              obtain ⟨pb, po, rfl, hpb, hcells⟩ := hPc (by intro e; rw [e] at hin; simp at hin)
              obtain ⟨hx, hy⟩ := hcells i hin
              have HX := Lib.hid hx
              have HY := Lib.hid hy
              generalize (cov up up.length)[i] = pr at HX HY HAg hmx hmy
              clear hx hy hcells hPc hm hpe2
              go_wp2_with fail
              go_loopg [17] ns.length (fun g i W => ∃ a : Nat, a + g = ns.length ∧ i = .int .i64 a ∧ Below w'.heap.size w' W ∧ W.rowIs w'.heap.size 54 64 (rtb (rpt r pr a)))
              case atStart => exact ⟨0, by omega, rfl, hbl, by rw [rpt_0]; exact HRo.out⟩
              case round =>
                clear HRo hbl
                obtain ⟨a2, hag3, rfl, hbl, hrow⟩ := hrel
                have HRo := Lib.hid hrow; clear hrow
                cases gk with
                | zero =>
                  have haz2 : ¬ ((a2 : Int) < (ns.length : Int)) := by omega
                  have HE : Hid (a2 = ns.length) := by unfold Hid; omega
                  go_wp2_with fail
                  go_roundg g3
                  case measure => omega
                  case rel => exact ⟨i + 1, _, by omega, by go_num, hbl, by have := HRo.out; rw [HE.out] at this; exact this, HAg⟩
                | succ g4 =>
                  have halt2 : (a2 : Int) < (ns.length : Int) := by omega
                  have ha28 : (a2 : Int) < 8 := by omega
                  have hy1 : (pr.2 : Int) < 8 := by omega
                  have hx1' : (pr.1 : Int) < 8 := by omega
                  have kx : wr.cell? ⟨pb, po + i * 2, none⟩ = some (.int .i64 (pr.1 : Int)) := (hbl.cell (p := ⟨pb, po + i * 2, none⟩) hpb).trans HX.out
                  have ky : wr.cell? ⟨pb, po + i * 2 + 1, none⟩ = some (.int .i64 (pr.2 : Int)) := (hbl.cell (p := ⟨pb, po + i * 2 + 1, none⟩) hpb).trans HY.out
                  have kf : wr.frozen? ⟨w'.heap.size, a2 * 8 + pr.2, none⟩ = false := HRo.out.frozen _
                  have k1 : wr.cell? ⟨w'.heap.size, a2 * 8 + pr.2, none⟩ = some (.bool (r a2 pr.2)) := by
                    rw [HRo.out.cell (by omega)]; unfold rtb rpt; rw [show (a2 * 8 + pr.2) / 8 = a2 by omega, show (a2 * 8 + pr.2) % 8 = pr.2 by omega, if_neg (by omega)]
                  have k2 : wr.cell? ⟨w'.heap.size, a2 * 8 + pr.1, none⟩ = some (.bool (r a2 pr.1)) := by
                    rw [HRo.out.cell (by omega)]; unfold rtb rpt; rw [show (a2 * 8 + pr.1) / 8 = a2 by omega, show (a2 * 8 + pr.1) % 8 = pr.1 by omega, if_neg (by omega)]
                  cases c1 : r a2 pr.2 with
                  | true =>
                    rw [c1] at k1
                    go_wp2_with fail
                    go_region
                    all_goals go_wp2_with fail
                    all_goals
                      go_roundg g4
                      case measure => omega
                      case rel => exact ⟨a2 + 1, by omega, by go_num, (hbl.setCell (p := ⟨w'.heap.size, a2 * 8 + pr.2, none⟩) (Nat.le_refl _) _).drew, rpt_next HRo.out hmy (by rw [c1]; rfl)⟩
                  | false =>
                    rw [c1] at k1
                    go_wp2_with fail
                    go_region
                    all_goals go_wp2_with fail
                    all_goals
                      go_roundg g4
                      case measure => omega
                      case rel => exact ⟨a2 + 1, by omega, by go_num, (hbl.setCell (p := ⟨w'.heap.size, a2 * 8 + pr.2, none⟩) (Nat.le_refl _) _).drew, rpt_next HRo.out hmy (by rw [c1]; rfl)⟩
    | succ g =>
      have halt : (a : Int) < (ns.length : Int) := by omega
      have ha8 : (a : Int) < 8 := by omega
      have ha0 : (0 : Int) ≤ (a : Int) := by omega
      have kf : wr.frozen? ⟨w'.heap.size, a * 8 + a, none⟩ = false := HRo.out.frozen _
      have kc := HRo.out.cell (i := a * 8 + a) (by omega)
      go_wp2_with fail
      go_roundg g
      case measure => omega
      case rel => exact ⟨a + 1, by omega, by go_num, hbl.setCell (p := ⟨w'.heap.size, a * 8 + a, none⟩) (Nat.le_refl _) _, dg_next HRo.out (by omega)⟩

theorem lawDuals_any (v : Value) (ns : List ByteArray) (up : List UInt8) (w : World) (hv : RdL w.heap.size w v ns up) :
    Calls Try.prog 9 #[v] w fun e w' => e = .returned (.bool true) ∧ Below w.heap.size w w' := by
  cases e0 : farB ns up
  · cases e1 : ((ck ns up).2 != 0)
    · exact lawDuals_ok v ns up w hv e0 (good_of (by simpa using e1))
    · exact lawDuals_bad v ns up w hv e0 e1
  · exact lawDuals_far v ns up w hv e0
end Go.Proofs.Ytfjnapmhnfjopaa
