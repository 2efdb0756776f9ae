/- labels.Join, Meet, Flows, Down, Up, Sort. -/
import Derived.Test.YtablaacddbkeiaaGreatDoorLbF
import Derived.Deep.RegionHeld3
namespace Go.Proofs.YtablaacddbkeiaaGreatDoor
open Go.RowKit

set_option maxRecDepth 100000 in
set_option maxHeartbeats 2000000 in
theorem ljoin_ok (v u : Value) (ns : List ByteArray) (up : List UInt8) (ls : List Nat) (w : World) (hv : RdL w.heap.size w v ns up) (hz : RdN w.heap.size w u ls) (hg : GL ns up ls) :
    Calls Tryz.prog 13 #[v, u] w fun e w' => e = .returned (.tuple #[.int .i64 (jn (le up) up.length (endF (ge up) up.length up.length) ls), .int .i64 0]) ∧ Below w.heap.size w w' := by
  have HL := Lib.hid hv
  obtain ⟨⟨vn, vu, rfl, hS, hB⟩, hsz⟩ := hv
  obtain ⟨q1, cap, rfl, hc, hc2, h⟩ := hS
  obtain ⟨q, cap', rfl, hc', hc2', h'⟩ := hB
  clear h h' hsz
  have HZ := Lib.hid hz
  obtain ⟨a, c, rfl, hl, hl2, h⟩ := hz
  clear h
  have HI := Lib.hid (Bx.new HL.out)
  have HG := Lib.hid hg
  clear hg
  have eg : ∀ args w, (callFunc 35 args).run Tryz.prog w = .ok (.enter 35 args) w := enters_of Tryz.func35 (by kernel_rfl) rfl
  have hn0 : 0 < up.length := by have := HG.out.good.pos; have := HG.out.good.len; omega
  have hbl : endF (ge up) up.length up.length < up.length := HG.out.good.ords.2.end_lt _ (Nat.le_refl _) hn0
  have HF : Hid (∀ W, Below w.heap.size w W → Calls Tryz.prog 34 #[.slice a ls.length c, .int .i64 (endF (ge up) up.length up.length : Nat), .func (.func 35) #[.agg #[.slice q1 ns.length cap, .slice q up.length cap']] #[]] W fun e w' => e = .returned (.int .i64 (jn (le up) up.length (endF (ge up) up.length up.length) ls)) ∧ Below W.heap.size W w') := fun W hb =>
    fold_any (le up) _ _ _ ns up ls _ W ((HL.out.below hb).mono hb.size) ((HZ.out.below hb).mono hb.size) HG.out.good.ords.1 hbl HG.out.all eg fun a b W hW ha hb => sjoin_any _ ns up a b W hW HG.out.good ha hb
  have HBo : Hid (∀ W, RdL W.heap.size W (.agg #[.slice q1 ns.length cap, .slice q up.length cap']) ns up → Calls Tryz.prog 33 #[.agg #[.slice q1 ns.length cap, .slice q up.length cap']] W fun e w' => e = .returned (.tuple #[.int .i64 (endF (ge up) up.length up.length : Nat), .int .i64 0]) ∧ Below W.heap.size W w') := fun W hW => bottom_ok _ ns up W hW HG.out.good
  generalize endF (ge up) up.length up.length = bo at HF HBo hbl
  generalize jn (le up) up.length bo ls = t at HF
  clear eg
  go_enter Tryz.func13, Tryz.ntmps13
  go_wp2_with (first
    | (go_at_call 22; refine (lcheck_ok _ _ ns up ls _ HI.out.rd (HZ.out.next HI.out.bel) HG.out).mono ?_; rintro e w' ⟨rfl, hbn⟩; have HI2 := Lib.hid (HI.out.next hbn); clear HI hbn; have HI := HI2; clear HI2; have hx0 := HI.out.x0; have hx1 := HI.out.x1)
    | (go_at_call 33; refine (HBo.out _ HI.out.rd).mono ?_; rintro e w' ⟨rfl, hbn⟩; clear hx0 hx1; have HI2 := Lib.hid (HI.out.next hbn); clear HI hbn; have HI := HI2; clear HI2; have hx0 := HI.out.x0; have hx1 := HI.out.x1)
    | (go_at_call 34; refine (HF.out _ HI.out.bel).mono ?_; rintro e w' ⟨rfl, hbn⟩; clear hx0 hx1; have HI2 := Lib.hid (HI.out.next hbn); clear HI hbn; have HI := HI2; clear HI2))
  go_ret2
  exact ⟨rfl, HI.out.bel⟩
set_option maxRecDepth 100000 in
set_option maxHeartbeats 2000000 in
theorem lmeet_ok (v u : Value) (ns : List ByteArray) (up : List UInt8) (ls : List Nat) (w : World) (hv : RdL w.heap.size w v ns up) (hz : RdN w.heap.size w u ls) (hg : GL ns up ls) :
    Calls Tryz.prog 14 #[v, u] w fun e w' => e = .returned (.tuple #[.int .i64 (jn (ge up) up.length (endF (le up) up.length up.length) ls), .int .i64 0]) ∧ Below w.heap.size w w' := by
  have HL := Lib.hid hv
  obtain ⟨⟨vn, vu, rfl, hS, hB⟩, hsz⟩ := hv
  obtain ⟨q1, cap, rfl, hc, hc2, h⟩ := hS
  obtain ⟨q, cap', rfl, hc', hc2', h'⟩ := hB
  clear h h' hsz
  have HZ := Lib.hid hz
  obtain ⟨a, c, rfl, hl, hl2, h⟩ := hz
  clear h
  have HI := Lib.hid (Bx.new HL.out)
  have HG := Lib.hid hg
  clear hg
  have eg : ∀ args w, (callFunc 37 args).run Tryz.prog w = .ok (.enter 37 args) w := enters_of Tryz.func37 (by kernel_rfl) rfl
  have hn0 : 0 < up.length := by have := HG.out.good.pos; have := HG.out.good.len; omega
  have hbl : endF (le up) up.length up.length < up.length := HG.out.good.ords.1.end_lt _ (Nat.le_refl _) hn0
  have HF : Hid (∀ W, Below w.heap.size w W → Calls Tryz.prog 34 #[.slice a ls.length c, .int .i64 (endF (le up) up.length up.length : Nat), .func (.func 37) #[.agg #[.slice q1 ns.length cap, .slice q up.length cap']] #[]] W fun e w' => e = .returned (.int .i64 (jn (ge up) up.length (endF (le up) up.length up.length) ls)) ∧ Below W.heap.size W w') := fun W hb =>
    fold_any (ge up) _ _ _ ns up ls _ W ((HL.out.below hb).mono hb.size) ((HZ.out.below hb).mono hb.size) HG.out.good.ords.2 hbl HG.out.all eg fun a b W hW ha hb => smeet_any _ ns up a b W hW HG.out.good ha hb
  have HBo : Hid (∀ W, RdL W.heap.size W (.agg #[.slice q1 ns.length cap, .slice q up.length cap']) ns up → Calls Tryz.prog 36 #[.agg #[.slice q1 ns.length cap, .slice q up.length cap']] W fun e w' => e = .returned (.tuple #[.int .i64 (endF (le up) up.length up.length : Nat), .int .i64 0]) ∧ Below W.heap.size W w') := fun W hW => top_ok _ ns up W hW HG.out.good
  generalize endF (le up) up.length up.length = bo at HF HBo hbl
  generalize jn (ge up) up.length bo ls = t at HF
  clear eg
  go_enter Tryz.func14, Tryz.ntmps14
  go_wp2_with (first
    | (go_at_call 22; refine (lcheck_ok _ _ ns up ls _ HI.out.rd (HZ.out.next HI.out.bel) HG.out).mono ?_; rintro e w' ⟨rfl, hbn⟩; have HI2 := Lib.hid (HI.out.next hbn); clear HI hbn; have HI := HI2; clear HI2; have hx0 := HI.out.x0; have hx1 := HI.out.x1)
    | (go_at_call 36; refine (HBo.out _ HI.out.rd).mono ?_; rintro e w' ⟨rfl, hbn⟩; clear hx0 hx1; have HI2 := Lib.hid (HI.out.next hbn); clear HI hbn; have HI := HI2; clear HI2; have hx0 := HI.out.x0; have hx1 := HI.out.x1)
    | (go_at_call 34; refine (HF.out _ HI.out.bel).mono ?_; rintro e w' ⟨rfl, hbn⟩; clear hx0 hx1; have HI2 := Lib.hid (HI.out.next hbn); clear HI hbn; have HI := HI2; clear HI2))
  go_ret2
  exact ⟨rfl, HI.out.bel⟩

set_option maxRecDepth 100000 in
set_option maxHeartbeats 1000000 in
theorem ljoin_bad (v u : Value) (ns : List ByteArray) (up : List UInt8) (zs : List Int) (w : World) (hv : RdL w.heap.size w v ns up) (hz : RdI w.heap.size w u zs) (hk : ((lck ns up zs).2 != 0) = true) :
    Calls Tryz.prog 13 #[v, u] w fun e w' => e = .returned (.tuple #[.int .i64 0, .int .i64 (lck ns up zs).2]) ∧ Below w.heap.size w w' := by
  have HL := Lib.hid hv
  obtain ⟨⟨vn, vu, rfl, hS, hB⟩, hsz⟩ := hv
  obtain ⟨q1, cap, rfl, hc, hc2, h⟩ := hS
  obtain ⟨q, cap', rfl, hc', hc2', h'⟩ := hB
  clear h h' hsz
  have HZ := Lib.hid hz
  obtain ⟨a, c, rfl, hl, hl2, h⟩ := hz
  clear h
  have HI := Lib.hid (Bx.new HL.out)
  go_enter Tryz.func13, Tryz.ntmps13
  go_wp2_with (go_at_call 22; refine (lcheck_any _ _ ns up zs _ HI.out.rd (HZ.out.next HI.out.bel)).mono ?_; rintro e w' ⟨rfl, hbn⟩; have HI2 := Lib.hid (HI.out.next hbn); clear HI hbn; have HI := HI2; clear HI2)
  go_ret2
  exact ⟨rfl, HI.out.bel⟩

set_option maxRecDepth 100000 in
set_option maxHeartbeats 1000000 in
theorem lmeet_bad (v u : Value) (ns : List ByteArray) (up : List UInt8) (zs : List Int) (w : World) (hv : RdL w.heap.size w v ns up) (hz : RdI w.heap.size w u zs) (hk : ((lck ns up zs).2 != 0) = true) :
    Calls Tryz.prog 14 #[v, u] w fun e w' => e = .returned (.tuple #[.int .i64 0, .int .i64 (lck ns up zs).2]) ∧ Below w.heap.size w w' := by
  have HL := Lib.hid hv
  obtain ⟨⟨vn, vu, rfl, hS, hB⟩, hsz⟩ := hv
  obtain ⟨q1, cap, rfl, hc, hc2, h⟩ := hS
  obtain ⟨q, cap', rfl, hc', hc2', h'⟩ := hB
  clear h h' hsz
  have HZ := Lib.hid hz
  obtain ⟨a, c, rfl, hl, hl2, h⟩ := hz
  clear h
  have HI := Lib.hid (Bx.new HL.out)
  go_enter Tryz.func14, Tryz.ntmps14
  go_wp2_with (go_at_call 22; refine (lcheck_any _ _ ns up zs _ HI.out.rd (HZ.out.next HI.out.bel)).mono ?_; rintro e w' ⟨rfl, hbn⟩; have HI2 := Lib.hid (HI.out.next hbn); clear HI hbn; have HI := HI2; clear HI2)
  go_ret2
  exact ⟨rfl, HI.out.bel⟩

set_option maxRecDepth 100000 in
set_option maxHeartbeats 1000000 in
theorem lsort_bad (v u : Value) (ns : List ByteArray) (up : List UInt8) (zs : List Int) (w : World) (hv : RdL w.heap.size w v ns up) (hz : RdI w.heap.size w u zs) (hk : ((lck ns up zs).2 != 0) = true) :
    Calls Tryz.prog 20 #[v, u] w fun e w' => e = .returned (.tuple #[.slice none 0 0, .int .i64 (lck ns up zs).2]) ∧ Below w.heap.size w w' := by
  have HL := Lib.hid hv
  obtain ⟨⟨vn, vu, rfl, hS, hB⟩, hsz⟩ := hv
  obtain ⟨q1, cap, rfl, hc, hc2, h⟩ := hS
  obtain ⟨q, cap', rfl, hc', hc2', h'⟩ := hB
  clear h h' hsz
  have HZ := Lib.hid hz
  obtain ⟨a, c, rfl, hl, hl2, h⟩ := hz
  clear h
  have HI := Lib.hid (Bx.new HL.out)
  go_enter Tryz.func20, Tryz.ntmps20
  go_wp2_with (go_at_call 22; refine (lcheck_any _ _ ns up zs _ HI.out.rd (HZ.out.next HI.out.bel)).mono ?_; rintro e w' ⟨rfl, hbn⟩; have HI2 := Lib.hid (HI.out.next hbn); clear HI hbn; have HI := HI2; clear HI2)
  go_ret2
  exact ⟨rfl, HI.out.bel⟩

set_option maxRecDepth 100000 in
set_option maxHeartbeats 1000000 in
theorem lchain_bad (v u : Value) (ns : List ByteArray) (up : List UInt8) (zs : List Int) (w : World) (hv : RdL w.heap.size w v ns up) (hz : RdI w.heap.size w u zs) (hk : ((lck ns up zs).2 != 0) = true) :
    Calls Tryz.prog 17 #[v, u] w fun e w' => e = .returned (.tuple #[.bool false, .int .i64 (lck ns up zs).2]) ∧ Below w.heap.size w w' := by
  have HL := Lib.hid hv
  obtain ⟨⟨vn, vu, rfl, hS, hB⟩, hsz⟩ := hv
  obtain ⟨q1, cap, rfl, hc, hc2, h⟩ := hS
  obtain ⟨q, cap', rfl, hc', hc2', h'⟩ := hB
  clear h h' hsz
  have HZ := Lib.hid hz
  obtain ⟨a, c, rfl, hl, hl2, h⟩ := hz
  clear h
  have HI := Lib.hid (Bx.new HL.out)
  go_enter Tryz.func17, Tryz.ntmps17
  go_wp2_with (go_at_call 22; refine (lcheck_any _ _ ns up zs _ HI.out.rd (HZ.out.next HI.out.bel)).mono ?_; rintro e w' ⟨rfl, hbn⟩; have HI2 := Lib.hid (HI.out.next hbn); clear HI hbn; have HI := HI2; clear HI2)
  go_ret2
  exact ⟨rfl, HI.out.bel⟩

set_option maxRecDepth 100000 in
set_option maxHeartbeats 1000000 in
theorem lleast_bad (v u : Value) (ns : List ByteArray) (up : List UInt8) (zs : List Int) (w : World) (hv : RdL w.heap.size w v ns up) (hz : RdI w.heap.size w u zs) (hk : ((lck ns up zs).2 != 0) = true) :
    Calls Tryz.prog 21 #[v, u] w fun e w' => e = .returned (.tuple #[.slice none 0 0, .int .i64 (lck ns up zs).2]) ∧ Below w.heap.size w w' := by
  have HL := Lib.hid hv
  obtain ⟨⟨vn, vu, rfl, hS, hB⟩, hsz⟩ := hv
  obtain ⟨q1, cap, rfl, hc, hc2, h⟩ := hS
  obtain ⟨q, cap', rfl, hc', hc2', h'⟩ := hB
  clear h h' hsz
  have HZ := Lib.hid hz
  obtain ⟨a, c, rfl, hl, hl2, h⟩ := hz
  clear h
  have HI := Lib.hid (Bx.new HL.out)
  go_enter Tryz.func21, Tryz.ntmps21
  go_wp2_with (go_at_call 22; refine (lcheck_any _ _ ns up zs _ HI.out.rd (HZ.out.next HI.out.bel)).mono ?_; rintro e w' ⟨rfl, hbn⟩; have HI2 := Lib.hid (HI.out.next hbn); clear HI hbn; have HI := HI2; clear HI2)
  go_ret2
  exact ⟨rfl, HI.out.bel⟩

set_option maxRecDepth 100000 in
set_option maxHeartbeats 1000000 in
theorem lshow_bad (v u : Value) (ns : List ByteArray) (up : List UInt8) (zs : List Int) (w : World) (hv : RdL w.heap.size w v ns up) (hz : RdI w.heap.size w u zs) (hk : ((lck ns up zs).2 != 0) = true) :
    Calls Tryz.prog 7 #[v, u] w fun e w' => e = .returned (.tuple #[.string ByteArray.empty, .int .i64 (lck ns up zs).2]) ∧ Below w.heap.size w w' := by
  have HL := Lib.hid hv
  obtain ⟨⟨vn, vu, rfl, hS, hB⟩, hsz⟩ := hv
  obtain ⟨q1, cap, rfl, hc, hc2, h⟩ := hS
  obtain ⟨q, cap', rfl, hc', hc2', h'⟩ := hB
  clear h h' hsz
  have HZ := Lib.hid hz
  obtain ⟨a, c, rfl, hl, hl2, h⟩ := hz
  clear h
  have HI := Lib.hid (Bx.new HL.out)
  go_enter Tryz.func7, Tryz.ntmps7
  go_wp2_with (go_at_call 22; refine (lcheck_any _ _ ns up zs _ HI.out.rd (HZ.out.next HI.out.bel)).mono ?_; rintro e w' ⟨rfl, hbn⟩; have HI2 := Lib.hid (HI.out.next hbn); clear HI hbn; have HI := HI2; clear HI2)
  go_ret2
  exact ⟨rfl, HI.out.bel⟩

/-! What flows. -/
def flV (up : List UInt8) (ls : List Nat) (t : Nat) : Int × Int := match flF up ls t with | some i => ((i : Int), 25) | none => (0, 0)
theorem flV_at {up : List UInt8} {ls : List Nat} {t i : Nat} (h : flF up ls t = some i) : flV up ls t = ((i : Int), 25) := by unfold flV; rw [h]
theorem flV_no {up : List UInt8} {ls : List Nat} {t : Nat} (h : flF up ls t = none) : flV up ls t = (0, 0) := by unfold flV; rw [h]
theorem fl1_get {up : List UInt8} {ls : List Nat} {t k : Nat} (h : k < ls.length) : fl1 up ls t k = !le up ls[k] t := by unfold fl1; rw [List.getD_eq_getElem?_getD, List.getElem?_eq_getElem h]; rfl

set_option maxRecDepth 100000 in
set_option maxHeartbeats 1000000 in
theorem lflows_bad (v u : Value) (ns : List ByteArray) (up : List UInt8) (zs : List Int) (t : Int) (w : World) (hv : RdL w.heap.size w v ns up) (hz : RdI w.heap.size w u zs) (hk : ((lck ns up zs).2 != 0) = true) :
    Calls Tryz.prog 19 #[v, u, .int .i64 t] w fun e w' => e = .returned (.tuple #[.int .i64 (lck ns up zs).1, .int .i64 (lck ns up zs).2]) ∧ Below w.heap.size w w' := by
  have HL := Lib.hid hv
  obtain ⟨⟨vn, vu, rfl, hS, hB⟩, hsz⟩ := hv
  obtain ⟨q1, cap, rfl, hc, hc2, h⟩ := hS
  obtain ⟨q, cap', rfl, hc', hc2', h'⟩ := hB
  clear h h' hsz
  have HZ := Lib.hid hz
  obtain ⟨a, c, rfl, hl, hl2, h⟩ := hz
  clear h
  have HI := Lib.hid (Bx.new HL.out)
  go_enter Tryz.func19, Tryz.ntmps19
  go_wp2_with (go_at_call 22; refine (lcheck_any _ _ ns up zs _ HI.out.rd (HZ.out.next HI.out.bel)).mono ?_; rintro e w' ⟨rfl, hbn⟩; have HI2 := Lib.hid (HI.out.next hbn); clear HI hbn; have HI := HI2; clear HI2)
  go_ret2
  exact ⟨rfl, HI.out.bel⟩

set_option maxRecDepth 100000 in
set_option maxHeartbeats 1000000 in
theorem lflows_rng (v u : Value) (ns : List ByteArray) (up : List UInt8) (ls : List Nat) (t : Int) (w : World) (hv : RdL w.heap.size w v ns up) (hz : RdN w.heap.size w u ls) (hg : GL ns up ls) (ht : isL ns.length t = false) :
    Calls Tryz.prog 19 #[v, u, .int .i64 t] w fun e w' => e = .returned (.tuple #[.int .i64 (-1), .int .i64 7]) ∧ Below w.heap.size w w' := by
  have HL := Lib.hid hv
  obtain ⟨⟨vn, vu, rfl, hS, hB⟩, hsz⟩ := hv
  obtain ⟨q1, cap, rfl, hc, hc2, h⟩ := hS
  obtain ⟨q, cap', rfl, hc', hc2', h'⟩ := hB
  clear h h' hsz
  have HZ := Lib.hid hz
  obtain ⟨a, c, rfl, hl, hl2, h⟩ := hz
  clear h
  have HI := Lib.hid (Bx.new HL.out)
  have HG := Lib.hid hg
  clear hg
  go_enter Tryz.func19, Tryz.ntmps19
  go_wp2_with (first
    | (go_at_call 22; refine (lcheck_ok _ _ ns up ls _ HI.out.rd (HZ.out.next HI.out.bel) HG.out).mono ?_; rintro e w' ⟨rfl, hbn⟩; have HI2 := Lib.hid (HI.out.next hbn); clear HI hbn; have HI := HI2; clear HI2; have hx0 := HI.out.x0; have hx1 := HI.out.x1)
    | (go_at_call 44; refine (isLabel_any _ ns up _ _ HI.out.rd).mono ?_; rintro e w' ⟨rfl, hbn⟩; clear hx0 hx1; have HI2 := Lib.hid (HI.out.next hbn); clear HI hbn; have HI := HI2; clear HI2))
  go_ret2
  exact ⟨rfl, HI.out.bel⟩

set_option maxRecDepth 100000 in
set_option maxHeartbeats 2000000 in
theorem lflows_ok (v u : Value) (ns : List ByteArray) (up : List UInt8) (ls : List Nat) (t : Nat) (w : World) (hv : RdL w.heap.size w v ns up) (hz : RdN w.heap.size w u ls) (hg : GL ns up ls) (ht : t < up.length) :
    Calls Tryz.prog 19 #[v, u, .int .i64 t] w fun e w' => e = .returned (.tuple #[.int .i64 (flV up ls t).1, .int .i64 (flV up ls t).2]) ∧ Below w.heap.size w w' := by
  have HL := Lib.hid hv
  obtain ⟨⟨vn, vu, rfl, hS, hB⟩, hsz⟩ := hv
  obtain ⟨q1, cap, rfl, hc, hc2, h⟩ := hS
  obtain ⟨q, cap', rfl, hc', hc2', h'⟩ := hB
  clear h h' hsz
  have HZ := Lib.hid hz
  obtain ⟨a, c, rfl, hl, hl2, h⟩ := hz
  clear h
  have HI := Lib.hid (Bx.new HL.out)
  have HG := Lib.hid hg
  have ht1 : isL ns.length (t : Int) = true := isL_nat (by have := hg.good.len; omega)
  have hu8 : up.length ≤ 8 := by have := hg.good.most; have := hg.good.len; omega
  have hdl := dnN_lt up t
  clear hg
  go_enter Tryz.func19, Tryz.ntmps19
  go_wp2_with (first
    | (go_at_call 22; refine (lcheck_ok _ _ ns up ls _ HI.out.rd (HZ.out.next HI.out.bel) HG.out).mono ?_; rintro e w' ⟨rfl, hbn⟩; have HI2 := Lib.hid (HI.out.next hbn); clear HI hbn; have HI := HI2; clear HI2; have hx0 := HI.out.x0; have hx1 := HI.out.x1)
    | (go_at_call 44; refine (isLabel_any _ ns up _ _ HI.out.rd).mono ?_; rintro e w' ⟨rfl, hbn⟩; clear hx0 hx1; have HI2 := Lib.hid (HI.out.next hbn); clear HI hbn; have HI := HI2; clear HI2; have hx0 := HI.out.x0; have hx1 := HI.out.x1)
    | (go_at_call 40; refine (downSet_any _ ns up t _ HI.out.rd HG.out.good ht).mono ?_; rintro e w9 ⟨rfl, hbn⟩; clear hx0 hx1; have HI2 := Lib.hid (HI.out.next hbn); clear HI hbn; have HI := HI2; clear HI2))
  have HB : Hid (∀ x, x < up.length → bB (dnN up t) x = le up x t) := fun x hx => dnN_bit ht hx hu8
  generalize dnN up t = d at HB hdl
  clear ht1
  go_loopg [32] ls.length (fun g i wr => ∃ k : Nat, k + g = ls.length ∧ i = .int .i64 k ∧ w9 = wr ∧ Hid ((List.range k).find? (fl1 up ls t) = none))
  case atStart => exact ⟨0, by omega, rfl, rfl, rfl⟩
  case round =>
    obtain ⟨k, hkg, rfl, rfl, hq⟩ := hrel
    cases gk with
    | zero =>
      have hkz : ¬ ((k : Int) < (ls.length : Int)) := by omega
      have HM : Hid (flV up ls t = (0, 0)) := flV_no (by
        have := hq.out
        rwa [show k = ls.length by omega] at this)
      clear hq
      go_wp2_with fail
      go_ret2
      exact ⟨ret_two (by rw [HM.out]; rfl) (by rw [HM.out]; rfl), HI.out.bel⟩
    | succ g =>
      have hlt : (k : Int) < (ls.length : Int) := by omega
      have hk : k < ls.length := by omega
      obtain ⟨b0, off, rfl, hlt0, hx⟩ := (HZ.out.below HI.out.bel).at k hk
      have hlk := HG.out.all ls[k] (List.getElem_mem hk)
      have hlk8 := HG.out.all8 ls[k] (List.getElem_mem hk)
      have HN : Hid (fl1 up ls t k = !bB d ls[k]) := by unfold Hid; rw [fl1_get hk, HB.out _ hlk]
      cases c1 : bB d ls[k] with
      | true =>
        have HQ := Lib.hid (find_succ hq.out (by rw [HN.out, c1]; rfl))
        go_wp2_with (go_at_call 45; refine (has_any _ _ _ hdl hlk8).mono ?_; rintro e w' ⟨rfl, rfl⟩)
        go_roundg g
        case measure => omega
        case rel => exact ⟨k + 1, by omega, by go_num, rfl, HQ⟩
      | false =>
        have HM : Hid (flV up ls t = ((k : Int), 25)) := flV_at (find_at hq.out (by rw [HN.out, c1]; rfl) hk)
        go_wp2_with (go_at_call 45; refine (has_any _ _ _ hdl hlk8).mono ?_; rintro e w' ⟨rfl, rfl⟩)
        go_ret2
        exact ⟨ret_two (by rw [HM.out]; rfl) (by rw [HM.out]; rfl), HI.out.bel⟩
end Go.Proofs.YtablaacddbkeiaaGreatDoor
