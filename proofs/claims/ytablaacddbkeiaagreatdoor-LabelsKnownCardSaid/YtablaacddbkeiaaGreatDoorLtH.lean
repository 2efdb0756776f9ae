/- checkLabels, Leq, Join, Meet, Bottom, Top. -/
import Derived.Test.YtablaacddbkeiaaGreatDoorLtG
namespace Go.Proofs.YtablaacddbkeiaaGreatDoor
open Go.RowKit

/-- The error of a lattice and two numbers. -/
def cl (ns : List ByteArray) (up : List UInt8) (a b : Int) : Int := if (ck ns up).2 ≠ 0 then (ck ns up).2 else if 0 ≤ a ∧ a < ns.length ∧ 0 ≤ b ∧ b < ns.length then 0 else 7
theorem cl_1 {ns : List ByteArray} {up : List UInt8} {a b : Int} (h : ((ck ns up).2 != 0) = true) : cl ns up a b = (ck ns up).2 := if_pos (by simpa using h)
theorem cl_2 {ns : List ByteArray} {up : List UInt8} {a b : Int} (h : ((ck ns up).2 != 0) = false) (h2 : ¬ (0 ≤ a ∧ a < ns.length ∧ 0 ≤ b ∧ b < ns.length)) : cl ns up a b = 7 := by
  unfold cl; rw [if_neg (by simpa using h), if_neg h2]
theorem cl_3 {ns : List ByteArray} {up : List UInt8} {a b : Int} (h : ((ck ns up).2 != 0) = false) (h2 : 0 ≤ a ∧ a < ns.length ∧ 0 ≤ b ∧ b < ns.length) : cl ns up a b = 0 := by
  unfold cl; rw [if_neg (by simpa using h), if_pos h2]

theorem heap_new (w : World) (o : Obj) : (w.alloc o).heap[w.heap.size]? = some o := by
  show (w.heap.push o)[w.heap.size]? = some o
  simp
/-- What a box of the call's own holds, after a call. -/
theorem box_cell {w w' : World} {cs : Array Value} {t : TypeId} {z : Nat × Nat} (hb : Below (w.alloc (.cells cs t z)).heap.size (w.alloc (.cells cs t z)) w') (i : Nat) {x : Value} (h : cs[i]? = some x) : w'.cell? ⟨w.heap.size, i, none⟩ = some x :=
  (hb.cell (p := ⟨w.heap.size, i, none⟩) (by simp)).trans ((cell_of_block (heap_new w _) i).trans h)
theorem bel2 {w w' : World} {o : Obj} (hb : Below (w.alloc o).heap.size (w.alloc o) w') : Below w.heap.size w w' := (bel1 _ _).trans (hb.mono (by simp))

set_option maxRecDepth 100000 in
set_option maxHeartbeats 2000000 in
theorem checkLabels_any (v : Value) (ns : List ByteArray) (up : List UInt8) (a b : Int) (w : World) (hv : RdL w.heap.size w v ns up) :
    Calls Tryz.prog 82 #[v, .int .i64 a, .int .i64 b] w fun e w' => e = .returned (.int .i64 (cl ns up a b)) ∧ Below w.heap.size w w' := by
  have HL := Lib.hid hv
  obtain ⟨⟨vn, vu, rfl, hS, hB⟩, hsz⟩ := hv
  obtain ⟨p, cap, rfl, hc, hc2, h⟩ := hS
  obtain ⟨q, cap', rfl, hc', hc2', h'⟩ := hB
  clear h h' hsz
  cases e0 : ((ck ns up).2 != 0) with
  | true =>
    have HK := Lib.hid (cl_1 (a := a) (b := b) e0)
    go_enter Tryz.func82, Tryz.ntmps82
    go_wp2_with (go_at_call 26; refine (check_any _ ns up _ (HL.out.al _)).mono ?_; rintro e w' ⟨rfl, hb⟩)
    go_ret
    exact ⟨ret_int HK.out.symm, bel2 hb⟩
  | false =>
    go_enter Tryz.func82, Tryz.ntmps82
    go_wp2_with (go_at_call 26; refine (check_any _ ns up _ (HL.out.al _)).mono ?_; rintro e w' ⟨rfl, hb⟩; have hx0 := box_cell hb 0 rfl; have hx1 := box_cell hb 1 rfl)
    all_goals go_ret
    all_goals refine ⟨ret_int ?_, bel2 hb⟩
    all_goals first | exact (cl_2 e0 (by omega)).symm | exact (cl_3 e0 (by omega)).symm

theorem cl_ok {ns : List ByteArray} {up : List UInt8} {a b : Int} (h : cl ns up a b = 0) : (ck ns up).2 = 0 ∧ 0 ≤ a ∧ a < ns.length ∧ 0 ≤ b ∧ b < ns.length := by
  unfold cl at h
  split at h
  · contradiction
  · split at h
    · rename_i h1 h2
      exact ⟨by omega, h2⟩
    · cases h
/-- A lattice that is one. -/
structure Good (ns : List ByteArray) (up : List UInt8) : Prop where
  pos : 1 ≤ ns.length
  most : ns.length ≤ 8
  len : up.length = ns.length
  bad : badF up = none
  unb : unbF up = none
  nms : nmF nameB (ns.map byt) = none
  ck : ck ns up = (0, 0)
theorem good_of {ns : List ByteArray} {up : List UInt8} (h : (ck ns up).2 = 0) : Good ns up := by
  obtain ⟨h1, h2, h3, h4, h5, h6, h7⟩ := chk_ok h
  rw [List.length_map] at h1 h2 h3
  exact ⟨h1, h2, h3, h4, h5, h6, Prod.ext h7 h⟩
theorem Good.ords {ns : List ByteArray} {up : List UInt8} (h : Good ns up) : Ord (le up) up.length ∧ Ord (ge up) up.length := ord_of up h.bad h.unb
theorem Good.cl0 {ns : List ByteArray} {up : List UInt8} (h : Good ns up) {a b : Nat} (ha : a < up.length) (hb : b < up.length) : cl ns up a b = 0 := by
  have := h.len
  exact cl_3 (by rw [h.ck]; rfl) (by omega)


set_option maxRecDepth 100000 in
set_option maxHeartbeats 2000000 in
theorem join_ok (v : Value) (ns : List ByteArray) (up : List UInt8) (a b : Nat) (w : World) (hv : RdL w.heap.size w v ns up) (hg : Good ns up) (ha : a < up.length) (hb : b < up.length) :
    Calls Tryz.prog 65 #[v, .int .i64 a, .int .i64 b] w fun e w' => e = .returned (.tuple #[.int .i64 (J (le up) up.length a b), .int .i64 0]) ∧ Below w.heap.size w w' := by
  have HL := Lib.hid hv
  obtain ⟨⟨vn, vu, rfl, hS, hB⟩, hsz⟩ := hv
  have HB := Lib.hid hB
  obtain ⟨p, cap, rfl, hc, hc2, h⟩ := hS
  obtain ⟨q, cap', rfl, hc', hc2', h'⟩ := hB
  clear h h' hsz
  have hu8 : up.length ≤ 8 := by have := hg.most; have := hg.len; omega
  have H0 := Lib.hid (hg.cl0 ha hb)
  clear hg
  go_enter Tryz.func65, Tryz.ntmps65
  go_wp2_with (first
    | (go_at_call 82; refine (checkLabels_any _ ns up _ _ _ (HL.out.al _)).mono ?_; rw [H0.out]; rintro e w' ⟨rfl, hbw⟩; have hx0 := box_cell hbw 0 rfl; have hx1 := box_cell hbw 1 rfl; have HU := Lib.hid ((HB.out.al _).next hbw))
    | (go_at_call 76; refine (meetU_any _ up _ _ _ HU.out ha hb hu8).mono ?_; rintro e w' ⟨rfl, rfl⟩))
  go_ret2
  exact ⟨rfl, bel2 hbw⟩

set_option maxRecDepth 100000 in
set_option maxHeartbeats 2000000 in
theorem join_bad (v : Value) (ns : List ByteArray) (up : List UInt8) (a b : Int) (w : World) (hv : RdL w.heap.size w v ns up) (hc0 : (cl ns up a b != 0) = true) :
    Calls Tryz.prog 65 #[v, .int .i64 a, .int .i64 b] w fun e w' => e = .returned (.tuple #[.int .i64 0, .int .i64 (cl ns up a b)]) ∧ Below w.heap.size w w' := by
  have HL := Lib.hid hv
  obtain ⟨⟨vn, vu, rfl, hS, hB⟩, hsz⟩ := hv
  have HB := Lib.hid hB
  obtain ⟨p, cap, rfl, hc, hc2, h⟩ := hS
  obtain ⟨q, cap', rfl, hc', hc2', h'⟩ := hB
  clear h h' hsz
  clear HB
  go_enter Tryz.func65, Tryz.ntmps65
  go_wp2_with (first
    | (go_at_call 82; refine (checkLabels_any _ ns up _ _ _ (HL.out.al _)).mono ?_; rintro e w' ⟨rfl, hbw⟩))
  go_ret2
  exact ⟨rfl, bel2 hbw⟩

set_option maxRecDepth 100000 in
set_option maxHeartbeats 2000000 in
theorem meet_ok (v : Value) (ns : List ByteArray) (up : List UInt8) (a b : Nat) (w : World) (hv : RdL w.heap.size w v ns up) (hg : Good ns up) (ha : a < up.length) (hb : b < up.length) :
    Calls Tryz.prog 67 #[v, .int .i64 a, .int .i64 b] w fun e w' => e = .returned (.tuple #[.int .i64 (J (ge up) up.length a b), .int .i64 0]) ∧ Below w.heap.size w w' := by
  have HL := Lib.hid hv
  obtain ⟨⟨vn, vu, rfl, hS, hB⟩, hsz⟩ := hv
  have HB := Lib.hid hB
  obtain ⟨p, cap, rfl, hc, hc2, h⟩ := hS
  obtain ⟨q, cap', rfl, hc', hc2', h'⟩ := hB
  clear h h' hsz
  have hu8 : up.length ≤ 8 := by have := hg.most; have := hg.len; omega
  have H0 := Lib.hid (hg.cl0 ha hb)
  clear hg
  go_enter Tryz.func67, Tryz.ntmps67
  go_wp2_with (first
    | (go_at_call 82; refine (checkLabels_any _ ns up _ _ _ (HL.out.al _)).mono ?_; rw [H0.out]; rintro e w' ⟨rfl, hbw⟩; have hx0 := box_cell hbw 0 rfl; have hx1 := box_cell hbw 1 rfl; have HU := Lib.hid ((HB.out.al _).next hbw))
    | (go_at_call 77; refine (meetD_any _ up _ _ _ HU.out ha hb hu8).mono ?_; rintro e w' ⟨rfl, rfl⟩))
  go_ret2
  exact ⟨rfl, bel2 hbw⟩

set_option maxRecDepth 100000 in
set_option maxHeartbeats 2000000 in
theorem meet_bad (v : Value) (ns : List ByteArray) (up : List UInt8) (a b : Int) (w : World) (hv : RdL w.heap.size w v ns up) (hc0 : (cl ns up a b != 0) = true) :
    Calls Tryz.prog 67 #[v, .int .i64 a, .int .i64 b] w fun e w' => e = .returned (.tuple #[.int .i64 0, .int .i64 (cl ns up a b)]) ∧ Below w.heap.size w w' := by
  have HL := Lib.hid hv
  obtain ⟨⟨vn, vu, rfl, hS, hB⟩, hsz⟩ := hv
  have HB := Lib.hid hB
  obtain ⟨p, cap, rfl, hc, hc2, h⟩ := hS
  obtain ⟨q, cap', rfl, hc', hc2', h'⟩ := hB
  clear h h' hsz
  clear HB
  go_enter Tryz.func67, Tryz.ntmps67
  go_wp2_with (first
    | (go_at_call 82; refine (checkLabels_any _ ns up _ _ _ (HL.out.al _)).mono ?_; rintro e w' ⟨rfl, hbw⟩))
  go_ret2
  exact ⟨rfl, bel2 hbw⟩

set_option maxRecDepth 100000 in
set_option maxHeartbeats 2000000 in
theorem bottom_ok (v : Value) (ns : List ByteArray) (up : List UInt8) (w : World) (hv : RdL w.heap.size w v ns up) (hg : Good ns up) :
    Calls Tryz.prog 33 #[v] w fun e w' => e = .returned (.tuple #[.int .i64 (endF (ge up) up.length up.length), .int .i64 0]) ∧ Below w.heap.size w w' := by
  have HL := Lib.hid hv
  obtain ⟨⟨vn, vu, rfl, hS, hB⟩, hsz⟩ := hv
  have HB := Lib.hid hB
  obtain ⟨p, cap, rfl, hc, hc2, h⟩ := hS
  obtain ⟨q, cap', rfl, hc', hc2', h'⟩ := hB
  clear h h' hsz
  have hu8 : up.length ≤ 8 := by have := hg.most; have := hg.len; omega
  have hu0 : 0 < up.length := by have := hg.pos; have := hg.len; omega
  have HO := Lib.hid hg.ords
  have H0 := Lib.hid hg.ck
  clear hg
  go_enter Tryz.func33, Tryz.ntmps33
  go_wp2_with (first
    | (go_at_call 26; refine (check_any _ ns up _ (HL.out.al _)).mono ?_; rw [H0.out]; rintro e w' ⟨rfl, hbw⟩; have hx0 := box_cell hbw 0 rfl; have hx1 := box_cell hbw 1 rfl; have HU := Lib.hid ((HB.out.al _).next hbw))
    | (go_at_call 64; refine (endD_any _ up _ HU.out hu0 hu8 HO.out.2).mono ?_; rintro e w' ⟨rfl, rfl⟩))
  go_ret2
  exact ⟨rfl, bel2 hbw⟩

set_option maxRecDepth 100000 in
set_option maxHeartbeats 2000000 in
theorem bottom_bad (v : Value) (ns : List ByteArray) (up : List UInt8) (w : World) (hv : RdL w.heap.size w v ns up) (hc0 : ((ck ns up).2 != 0) = true) :
    Calls Tryz.prog 33 #[v] w fun e w' => e = .returned (.tuple #[.int .i64 0, .int .i64 (ck ns up).2]) ∧ Below w.heap.size w w' := by
  have HL := Lib.hid hv
  obtain ⟨⟨vn, vu, rfl, hS, hB⟩, hsz⟩ := hv
  have HB := Lib.hid hB
  obtain ⟨p, cap, rfl, hc, hc2, h⟩ := hS
  obtain ⟨q, cap', rfl, hc', hc2', h'⟩ := hB
  clear h h' hsz
  clear HB
  go_enter Tryz.func33, Tryz.ntmps33
  go_wp2_with (first
    | (go_at_call 26; refine (check_any _ ns up _ (HL.out.al _)).mono ?_; rintro e w' ⟨rfl, hbw⟩))
  go_ret2
  exact ⟨rfl, bel2 hbw⟩

set_option maxRecDepth 100000 in
set_option maxHeartbeats 2000000 in
theorem top_ok (v : Value) (ns : List ByteArray) (up : List UInt8) (w : World) (hv : RdL w.heap.size w v ns up) (hg : Good ns up) :
    Calls Tryz.prog 36 #[v] w fun e w' => e = .returned (.tuple #[.int .i64 (endF (le up) up.length up.length), .int .i64 0]) ∧ Below w.heap.size w w' := by
  have HL := Lib.hid hv
  obtain ⟨⟨vn, vu, rfl, hS, hB⟩, hsz⟩ := hv
  have HB := Lib.hid hB
  obtain ⟨p, cap, rfl, hc, hc2, h⟩ := hS
  obtain ⟨q, cap', rfl, hc', hc2', h'⟩ := hB
  clear h h' hsz
  have hu8 : up.length ≤ 8 := by have := hg.most; have := hg.len; omega
  have hu0 : 0 < up.length := by have := hg.pos; have := hg.len; omega
  have HO := Lib.hid hg.ords
  have H0 := Lib.hid hg.ck
  clear hg
  go_enter Tryz.func36, Tryz.ntmps36
  go_wp2_with (first
    | (go_at_call 26; refine (check_any _ ns up _ (HL.out.al _)).mono ?_; rw [H0.out]; rintro e w' ⟨rfl, hbw⟩; have hx0 := box_cell hbw 0 rfl; have hx1 := box_cell hbw 1 rfl; have HU := Lib.hid ((HB.out.al _).next hbw))
    | (go_at_call 66; refine (endU_any _ up _ HU.out hu0 hu8 HO.out.1).mono ?_; rintro e w' ⟨rfl, rfl⟩))
  go_ret2
  exact ⟨rfl, bel2 hbw⟩

set_option maxRecDepth 100000 in
set_option maxHeartbeats 2000000 in
theorem top_bad (v : Value) (ns : List ByteArray) (up : List UInt8) (w : World) (hv : RdL w.heap.size w v ns up) (hc0 : ((ck ns up).2 != 0) = true) :
    Calls Tryz.prog 36 #[v] w fun e w' => e = .returned (.tuple #[.int .i64 0, .int .i64 (ck ns up).2]) ∧ Below w.heap.size w w' := by
  have HL := Lib.hid hv
  obtain ⟨⟨vn, vu, rfl, hS, hB⟩, hsz⟩ := hv
  have HB := Lib.hid hB
  obtain ⟨p, cap, rfl, hc, hc2, h⟩ := hS
  obtain ⟨q, cap', rfl, hc', hc2', h'⟩ := hB
  clear h h' hsz
  clear HB
  go_enter Tryz.func36, Tryz.ntmps36
  go_wp2_with (first
    | (go_at_call 26; refine (check_any _ ns up _ (HL.out.al _)).mono ?_; rintro e w' ⟨rfl, hbw⟩))
  go_ret2
  exact ⟨rfl, bel2 hbw⟩
end Go.Proofs.YtablaacddbkeiaaGreatDoor
