/- The reference's begins. -/
import Derived.Test.YtomffjaeafcpdaaDoorRfT
namespace Go.Proofs.YtomffjaeafcpdaaDoor
open Go.RowKit

theorem bys_num {w : World} {base : Nat} {v : Value} {l : List UInt8} {n : Nat} (h : Bys w base v l) (hn : l.length = n) : ∃ a c, v = .slice a n c := by
  subst hn; exact bys_len h
theorem bys_z (w : World) : Bys (w.alloc (.cells #[] 5)) w.heap.size (.slice (some ⟨w.heap.size, 0, none⟩) 0 0) [] := World.ownsRow_lit w #[] 0 (Nat.le_refl _) (by decide) rfl
theorem rd_one (w : World) (c : UInt8) (z : Int) (hz : (c.toNat : Int) = z) : RdB (w.alloc (.cells #[.int .u8 z] 5)).heap.size (w.alloc (.cells #[.int .u8 z] 5)) (.slice (some ⟨w.heap.size, 0, none⟩) 1 1) [c] := by
  subst hz; exact rd_new w [c] 5 (by simp)
theorem nil_some (a : Addr) (n c : Nat) : NilC (.slice (some a) n c) := fun _ _ e => by cases e
set_option maxRecDepth 100000 in
set_option maxHeartbeats 2000000 in
theorem begins_lo (ad : Addr) (cap x L : Nat) (w : World) (hx : w.cell? ad = some (.int .u8 (x : Int))) (k : x < 256) (hp : 0 < L) (h : x < 192) :
    Calls Tryd.prog 32 #[.slice (some ad) L cap] w fun e w' => e = .returned (.bool false) ∧ Below w.heap.size w w' := by
  have x9 : (x : Int) ≤ 255 := by omega
  have a2 : decide ((192 : Int) ≤ (x : Int)) = false := decide_eq_false (by omega)
  have a3 : decide ((224 : Int) ≤ (x : Int)) = false := decide_eq_false (by omega)
  have a4 : decide ((240 : Int) ≤ (x : Int)) = false := decide_eq_false (by omega)
  clear k
  go_enter Tryd.func32, Tryd.ntmps32
  go_wp2_with fail
  go_ret
  exact ⟨rfl, Below.refl _ _⟩
set_option maxRecDepth 100000 in
set_option maxHeartbeats 2000000 in
theorem begins_hi (ad : Addr) (cap x L : Nat) (w : World) (hx : w.cell? ad = some (.int .u8 (x : Int))) (k : x < 256) (hp : 0 < L) (h : 248 ≤ x) :
    Calls Tryd.prog 32 #[.slice (some ad) L cap] w fun e w' => e = .returned (.bool false) ∧ Below w.heap.size w w' := by
  have x9 : (x : Int) ≤ 255 := by omega
  have a2 : decide ((192 : Int) ≤ (x : Int)) = true := decide_eq_true (by omega)
  have b2 : decide ((x : Int) < 224) = false := decide_eq_false (by omega)
  have a3 : decide ((224 : Int) ≤ (x : Int)) = true := decide_eq_true (by omega)
  have b3 : decide ((x : Int) < 240) = false := decide_eq_false (by omega)
  have a4 : decide ((240 : Int) ≤ (x : Int)) = true := decide_eq_true (by omega)
  have b4 : decide ((x : Int) < 248) = false := decide_eq_false (by omega)
  clear k
  go_enter Tryd.func32, Tryd.ntmps32
  go_wp2_with fail
  go_ret
  exact ⟨rfl, Below.refl _ _⟩
set_option maxRecDepth 100000 in
set_option maxHeartbeats 2000000 in
theorem begins_two (ad : Addr) (cap x L : Nat) (w : World) (hx : w.cell? ad = some (.int .u8 (x : Int))) (k : x < 256) (h : 192 ≤ x) (h2 : x < 224) (hL : 2 ≤ L) :
    Calls Tryd.prog 32 #[.slice (some ad) L cap] w fun e w' => e = .returned (.bool false) ∧ Below w.heap.size w w' := by
  have x9 : (x : Int) ≤ 255 := by omega
  have a2 : decide ((192 : Int) ≤ (x : Int)) = true := decide_eq_true (by omega)
  have b2 : decide ((x : Int) < 224) = true := decide_eq_true (by omega)
  have d : decide ((2 : Int) ≤ (L : Int)) = true := decide_eq_true (by omega)
  clear k
  go_enter Tryd.func32, Tryd.ntmps32
  go_wp2_with fail
  go_ret
  exact ⟨rfl, Below.refl _ _⟩
set_option maxRecDepth 100000 in
set_option maxHeartbeats 2000000 in
theorem begins_three (ad : Addr) (cap x L : Nat) (w : World) (hx : w.cell? ad = some (.int .u8 (x : Int))) (k : x < 256) (h : 224 ≤ x) (h2 : x < 240) (hL : 3 ≤ L) :
    Calls Tryd.prog 32 #[.slice (some ad) L cap] w fun e w' => e = .returned (.bool false) ∧ Below w.heap.size w w' := by
  have x9 : (x : Int) ≤ 255 := by omega
  have a2 : decide ((192 : Int) ≤ (x : Int)) = true := decide_eq_true (by omega)
  have b2 : decide ((x : Int) < 224) = false := decide_eq_false (by omega)
  have a3 : decide ((224 : Int) ≤ (x : Int)) = true := decide_eq_true (by omega)
  have b3 : decide ((x : Int) < 240) = true := decide_eq_true (by omega)
  have d : decide ((3 : Int) ≤ (L : Int)) = true := decide_eq_true (by omega)
  clear k
  go_enter Tryd.func32, Tryd.ntmps32
  go_wp2_with fail
  go_ret
  exact ⟨rfl, Below.refl _ _⟩
set_option maxRecDepth 100000 in
set_option maxHeartbeats 4000000 in
theorem begins_1_2_1 (ad : Addr) (cap x : Nat) (l : List UInt8) (w : World) (hv : RdB w.heap.size w (.slice (some ad) 1 cap) l) (hl : l.length = 1) (hx : w.cell? ad = some (.int .u8 (x : Int))) (h0 : 192 ≤ x) (h1 : x < 224) (s1 : stB (l ++ [128]) = true) :
    Calls Tryd.prog 32 #[.slice (some ad) 1 cap] w fun e w' => e = .returned (.bool true) ∧ Below w.heap.size w w' := by
  have HV := Lib.hid hv
  have hN := nil_some ad 1 cap
  have a2 : decide ((192 : Int) ≤ (x : Int)) = true := decide_eq_true (by omega)
  have b2 : decide ((x : Int) < 224) = true := decide_eq_true (by omega)
  have HS1 := Lib.hid (fun (v : Value) (W : World) (h : RdB W.heap.size W v (l ++ [128])) => by have := stands_any v (l ++ [128]) W h (by simp) (by simp [hl]); rwa [s1] at this)
  have x9 : (x : Int) ≤ 255 := by omega
  have HLn := Lib.hid hl
  clear hl hv h0 h1 s1
  have HB := Lib.hid (Below.refl w.heap.size w)
  go_enter Tryd.func32, Tryd.ntmps32
  go_wp2_with fail
  refine wp_loop_rounds 4 ?_
  rw [rounds_succ]
  have hz := Lib.hid (bys_z w)
  have hZ := Lib.hid ((Below.refl w.heap.size w).alloc (Nat.le_refl _) (.cells #[] 5))
  have hR := Lib.hid ((HV.out.next HB.out).next hZ.out)
  go_wp2_with (at_builtin; refine wpList_append_bs (by simp [Region.wanted]) _ _ rfl w.heap.size _ _ rfl hz.out _ _ rfl _ hR.out hN ?c1 ?c2 ?_; rotate_left 2; intro v p1_0 hv hg; have hb := Lib.hid (hZ.out.grown hg (by simp) (fun j e => (hz.out.lt j e).1)); obtain ⟨a1_0, c1_0, rfl⟩ := bys_num hv (n := 1) (by simp [HLn.out]); have hy := Lib.hid hv; clear hv hg)
  case c1 => simp [HLn.out]
  case c2 => simp
  clear hz hZ hR
  have hw := Lib.hid (HB.out.trans (hb.out.mono HB.out.size))
  refine wp_loop_rounds 6 ?_
  rw [rounds_succ]
  have hr := Lib.hid (rd_one p1_0 128 128 rfl)
  have hz := Lib.hid (own_below hy.out ((Below.refl p1_0.heap.size p1_0).alloc (Nat.le_refl _) (.cells #[.int .u8 128] 5)))
  have hZ := Lib.hid (hb.out.alloc hb.out.size (.cells #[.int .u8 128] 5))
  go_wp2_with (at_builtin; refine wpList_append_bs (by simp [Region.wanted]) _ _ rfl w.heap.size _ _ rfl hz.out _ _ rfl _ hr.out (nil_some _ _ _) ?c1 ?c2 ?_; rotate_left 2; intro v p1_1 hv hg; have hbn := Lib.hid (hZ.out.grown hg hZ.out.size (fun j e => (hz.out.lt j e).1)); obtain ⟨a1_1, c1_1, rfl⟩ := bys_num hv (n := 2) (by simp [HLn.out]); have hyn := Lib.hid hv; clear hv hg)
  case c1 => simp [HLn.out]
  case c2 => have := hZ.out.size; exact this
  clear hr hz hZ hy hb hw
  have hy := hyn
  have hb := hbn
  have hw := Lib.hid (HB.out.trans (hb.out.mono HB.out.size))
  clear hyn hbn
  rw [rounds_succ]
  go_wp2_with (go_at_call 31; refine (HS1.out _ _ hy.out.rd).mono ?_; rintro e q1 ⟨rfl, hs⟩; have HBn := Lib.hid (hw.out.trans (hs.mono hw.out.size)); clear hs)
  go_ret
  exact ⟨rfl, HBn.out⟩
set_option maxRecDepth 100000 in
set_option maxHeartbeats 4000000 in
theorem begins_1_2_2 (ad : Addr) (cap x : Nat) (l : List UInt8) (w : World) (hv : RdB w.heap.size w (.slice (some ad) 1 cap) l) (hl : l.length = 1) (hx : w.cell? ad = some (.int .u8 (x : Int))) (h0 : 192 ≤ x) (h1 : x < 224) (s1 : stB (l ++ [128]) = false) (s2 : stB (l ++ [191]) = true) :
    Calls Tryd.prog 32 #[.slice (some ad) 1 cap] w fun e w' => e = .returned (.bool true) ∧ Below w.heap.size w w' := by
  have HV := Lib.hid hv
  have hN := nil_some ad 1 cap
  have a2 : decide ((192 : Int) ≤ (x : Int)) = true := decide_eq_true (by omega)
  have b2 : decide ((x : Int) < 224) = true := decide_eq_true (by omega)
  have HS1 := Lib.hid (fun (v : Value) (W : World) (h : RdB W.heap.size W v (l ++ [128])) => by have := stands_any v (l ++ [128]) W h (by simp) (by simp [hl]); rwa [s1] at this)
  have HS2 := Lib.hid (fun (v : Value) (W : World) (h : RdB W.heap.size W v (l ++ [191])) => by have := stands_any v (l ++ [191]) W h (by simp) (by simp [hl]); rwa [s2] at this)
  have x9 : (x : Int) ≤ 255 := by omega
  have HLn := Lib.hid hl
  clear hl hv h0 h1 s1 s2
  have HB := Lib.hid (Below.refl w.heap.size w)
  go_enter Tryd.func32, Tryd.ntmps32
  go_wp2_with fail
  refine wp_loop_rounds 4 ?_
  rw [rounds_succ]
  have hz := Lib.hid (bys_z w)
  have hZ := Lib.hid ((Below.refl w.heap.size w).alloc (Nat.le_refl _) (.cells #[] 5))
  have hR := Lib.hid ((HV.out.next HB.out).next hZ.out)
  go_wp2_with (at_builtin; refine wpList_append_bs (by simp [Region.wanted]) _ _ rfl w.heap.size _ _ rfl hz.out _ _ rfl _ hR.out hN ?c1 ?c2 ?_; rotate_left 2; intro v p1_0 hv hg; have hb := Lib.hid (hZ.out.grown hg (by simp) (fun j e => (hz.out.lt j e).1)); obtain ⟨a1_0, c1_0, rfl⟩ := bys_num hv (n := 1) (by simp [HLn.out]); have hy := Lib.hid hv; clear hv hg)
  case c1 => simp [HLn.out]
  case c2 => simp
  clear hz hZ hR
  have hw := Lib.hid (HB.out.trans (hb.out.mono HB.out.size))
  refine wp_loop_rounds 6 ?_
  rw [rounds_succ]
  have hr := Lib.hid (rd_one p1_0 128 128 rfl)
  have hz := Lib.hid (own_below hy.out ((Below.refl p1_0.heap.size p1_0).alloc (Nat.le_refl _) (.cells #[.int .u8 128] 5)))
  have hZ := Lib.hid (hb.out.alloc hb.out.size (.cells #[.int .u8 128] 5))
  go_wp2_with (at_builtin; refine wpList_append_bs (by simp [Region.wanted]) _ _ rfl w.heap.size _ _ rfl hz.out _ _ rfl _ hr.out (nil_some _ _ _) ?c1 ?c2 ?_; rotate_left 2; intro v p1_1 hv hg; have hbn := Lib.hid (hZ.out.grown hg hZ.out.size (fun j e => (hz.out.lt j e).1)); obtain ⟨a1_1, c1_1, rfl⟩ := bys_num hv (n := 2) (by simp [HLn.out]); have hyn := Lib.hid hv; clear hv hg)
  case c1 => simp [HLn.out]
  case c2 => have := hZ.out.size; exact this
  clear hr hz hZ hy hb hw
  have hy := hyn
  have hb := hbn
  have hw := Lib.hid (HB.out.trans (hb.out.mono HB.out.size))
  clear hyn hbn
  rw [rounds_succ]
  go_wp2_with (go_at_call 31; refine (HS1.out _ _ hy.out.rd).mono ?_; rintro e q1 ⟨rfl, hs⟩; have HBn := Lib.hid (hw.out.trans (hs.mono hw.out.size)); clear hs)
  clear HB hy hb hw
  have HB := HBn
  clear HBn
  rw [rounds_succ]
  have hz := Lib.hid (bys_z q1)
  have hZ := Lib.hid ((Below.refl q1.heap.size q1).alloc (Nat.le_refl _) (.cells #[] 5))
  have hR := Lib.hid ((HV.out.next HB.out).next hZ.out)
  go_wp2_with (at_builtin; refine wpList_append_bs (by simp [Region.wanted]) _ _ rfl q1.heap.size _ _ rfl hz.out _ _ rfl _ hR.out hN ?c1 ?c2 ?_; rotate_left 2; intro v p2_0 hv hg; have hb := Lib.hid (hZ.out.grown hg (by simp) (fun j e => (hz.out.lt j e).1)); obtain ⟨a2_0, c2_0, rfl⟩ := bys_num hv (n := 1) (by simp [HLn.out]); have hy := Lib.hid hv; clear hv hg)
  case c1 => simp [HLn.out]
  case c2 => simp
  clear hz hZ hR
  have hw := Lib.hid (HB.out.trans (hb.out.mono HB.out.size))
  refine wp_loop_rounds 6 ?_
  rw [rounds_succ]
  have hr := Lib.hid (rd_one p2_0 191 191 rfl)
  have hz := Lib.hid (own_below hy.out ((Below.refl p2_0.heap.size p2_0).alloc (Nat.le_refl _) (.cells #[.int .u8 191] 5)))
  have hZ := Lib.hid (hb.out.alloc hb.out.size (.cells #[.int .u8 191] 5))
  go_wp2_with (at_builtin; refine wpList_append_bs (by simp [Region.wanted]) _ _ rfl q1.heap.size _ _ rfl hz.out _ _ rfl _ hr.out (nil_some _ _ _) ?c1 ?c2 ?_; rotate_left 2; intro v p2_1 hv hg; have hbn := Lib.hid (hZ.out.grown hg hZ.out.size (fun j e => (hz.out.lt j e).1)); obtain ⟨a2_1, c2_1, rfl⟩ := bys_num hv (n := 2) (by simp [HLn.out]); have hyn := Lib.hid hv; clear hv hg)
  case c1 => simp [HLn.out]
  case c2 => have := hZ.out.size; exact this
  clear hr hz hZ hy hb hw
  have hy := hyn
  have hb := hbn
  have hw := Lib.hid (HB.out.trans (hb.out.mono HB.out.size))
  clear hyn hbn
  rw [rounds_succ]
  go_wp2_with (go_at_call 31; refine (HS2.out _ _ hy.out.rd).mono ?_; rintro e q2 ⟨rfl, hs⟩; have HBn := Lib.hid (hw.out.trans (hs.mono hw.out.size)); clear hs)
  go_ret
  exact ⟨rfl, HBn.out⟩
set_option maxRecDepth 100000 in
set_option maxHeartbeats 4000000 in
theorem begins_1_2_0 (ad : Addr) (cap x : Nat) (l : List UInt8) (w : World) (hv : RdB w.heap.size w (.slice (some ad) 1 cap) l) (hl : l.length = 1) (hx : w.cell? ad = some (.int .u8 (x : Int))) (h0 : 192 ≤ x) (h1 : x < 224) (s1 : stB (l ++ [128]) = false) (s2 : stB (l ++ [191]) = false) :
    Calls Tryd.prog 32 #[.slice (some ad) 1 cap] w fun e w' => e = .returned (.bool false) ∧ Below w.heap.size w w' := by
  have HV := Lib.hid hv
  have hN := nil_some ad 1 cap
  have a2 : decide ((192 : Int) ≤ (x : Int)) = true := decide_eq_true (by omega)
  have b2 : decide ((x : Int) < 224) = true := decide_eq_true (by omega)
  have HS1 := Lib.hid (fun (v : Value) (W : World) (h : RdB W.heap.size W v (l ++ [128])) => by have := stands_any v (l ++ [128]) W h (by simp) (by simp [hl]); rwa [s1] at this)
  have HS2 := Lib.hid (fun (v : Value) (W : World) (h : RdB W.heap.size W v (l ++ [191])) => by have := stands_any v (l ++ [191]) W h (by simp) (by simp [hl]); rwa [s2] at this)
  have x9 : (x : Int) ≤ 255 := by omega
  have HLn := Lib.hid hl
  clear hl hv h0 h1 s1 s2
  have HB := Lib.hid (Below.refl w.heap.size w)
  go_enter Tryd.func32, Tryd.ntmps32
  go_wp2_with fail
  refine wp_loop_rounds 4 ?_
  rw [rounds_succ]
  have hz := Lib.hid (bys_z w)
  have hZ := Lib.hid ((Below.refl w.heap.size w).alloc (Nat.le_refl _) (.cells #[] 5))
  have hR := Lib.hid ((HV.out.next HB.out).next hZ.out)
  go_wp2_with (at_builtin; refine wpList_append_bs (by simp [Region.wanted]) _ _ rfl w.heap.size _ _ rfl hz.out _ _ rfl _ hR.out hN ?c1 ?c2 ?_; rotate_left 2; intro v p1_0 hv hg; have hb := Lib.hid (hZ.out.grown hg (by simp) (fun j e => (hz.out.lt j e).1)); obtain ⟨a1_0, c1_0, rfl⟩ := bys_num hv (n := 1) (by simp [HLn.out]); have hy := Lib.hid hv; clear hv hg)
  case c1 => simp [HLn.out]
  case c2 => simp
  clear hz hZ hR
  have hw := Lib.hid (HB.out.trans (hb.out.mono HB.out.size))
  refine wp_loop_rounds 6 ?_
  rw [rounds_succ]
  have hr := Lib.hid (rd_one p1_0 128 128 rfl)
  have hz := Lib.hid (own_below hy.out ((Below.refl p1_0.heap.size p1_0).alloc (Nat.le_refl _) (.cells #[.int .u8 128] 5)))
  have hZ := Lib.hid (hb.out.alloc hb.out.size (.cells #[.int .u8 128] 5))
  go_wp2_with (at_builtin; refine wpList_append_bs (by simp [Region.wanted]) _ _ rfl w.heap.size _ _ rfl hz.out _ _ rfl _ hr.out (nil_some _ _ _) ?c1 ?c2 ?_; rotate_left 2; intro v p1_1 hv hg; have hbn := Lib.hid (hZ.out.grown hg hZ.out.size (fun j e => (hz.out.lt j e).1)); obtain ⟨a1_1, c1_1, rfl⟩ := bys_num hv (n := 2) (by simp [HLn.out]); have hyn := Lib.hid hv; clear hv hg)
  case c1 => simp [HLn.out]
  case c2 => have := hZ.out.size; exact this
  clear hr hz hZ hy hb hw
  have hy := hyn
  have hb := hbn
  have hw := Lib.hid (HB.out.trans (hb.out.mono HB.out.size))
  clear hyn hbn
  rw [rounds_succ]
  go_wp2_with (go_at_call 31; refine (HS1.out _ _ hy.out.rd).mono ?_; rintro e q1 ⟨rfl, hs⟩; have HBn := Lib.hid (hw.out.trans (hs.mono hw.out.size)); clear hs)
  clear HB hy hb hw
  have HB := HBn
  clear HBn
  rw [rounds_succ]
  have hz := Lib.hid (bys_z q1)
  have hZ := Lib.hid ((Below.refl q1.heap.size q1).alloc (Nat.le_refl _) (.cells #[] 5))
  have hR := Lib.hid ((HV.out.next HB.out).next hZ.out)
  go_wp2_with (at_builtin; refine wpList_append_bs (by simp [Region.wanted]) _ _ rfl q1.heap.size _ _ rfl hz.out _ _ rfl _ hR.out hN ?c1 ?c2 ?_; rotate_left 2; intro v p2_0 hv hg; have hb := Lib.hid (hZ.out.grown hg (by simp) (fun j e => (hz.out.lt j e).1)); obtain ⟨a2_0, c2_0, rfl⟩ := bys_num hv (n := 1) (by simp [HLn.out]); have hy := Lib.hid hv; clear hv hg)
  case c1 => simp [HLn.out]
  case c2 => simp
  clear hz hZ hR
  have hw := Lib.hid (HB.out.trans (hb.out.mono HB.out.size))
  refine wp_loop_rounds 6 ?_
  rw [rounds_succ]
  have hr := Lib.hid (rd_one p2_0 191 191 rfl)
  have hz := Lib.hid (own_below hy.out ((Below.refl p2_0.heap.size p2_0).alloc (Nat.le_refl _) (.cells #[.int .u8 191] 5)))
  have hZ := Lib.hid (hb.out.alloc hb.out.size (.cells #[.int .u8 191] 5))
  go_wp2_with (at_builtin; refine wpList_append_bs (by simp [Region.wanted]) _ _ rfl q1.heap.size _ _ rfl hz.out _ _ rfl _ hr.out (nil_some _ _ _) ?c1 ?c2 ?_; rotate_left 2; intro v p2_1 hv hg; have hbn := Lib.hid (hZ.out.grown hg hZ.out.size (fun j e => (hz.out.lt j e).1)); obtain ⟨a2_1, c2_1, rfl⟩ := bys_num hv (n := 2) (by simp [HLn.out]); have hyn := Lib.hid hv; clear hv hg)
  case c1 => simp [HLn.out]
  case c2 => have := hZ.out.size; exact this
  clear hr hz hZ hy hb hw
  have hy := hyn
  have hb := hbn
  have hw := Lib.hid (HB.out.trans (hb.out.mono HB.out.size))
  clear hyn hbn
  rw [rounds_succ]
  go_wp2_with (go_at_call 31; refine (HS2.out _ _ hy.out.rd).mono ?_; rintro e q2 ⟨rfl, hs⟩; have HBn := Lib.hid (hw.out.trans (hs.mono hw.out.size)); clear hs)
  clear HB hy hb hw
  have HB := HBn
  clear HBn
  rw [rounds_succ]
  go_wp2_with fail
  go_ret
  exact ⟨rfl, HB.out⟩
set_option maxRecDepth 100000 in
set_option maxHeartbeats 4000000 in
theorem begins_1_3_1 (ad : Addr) (cap x : Nat) (l : List UInt8) (w : World) (hv : RdB w.heap.size w (.slice (some ad) 1 cap) l) (hl : l.length = 1) (hx : w.cell? ad = some (.int .u8 (x : Int))) (h0 : 224 ≤ x) (h1 : x < 240) (s1 : stB ((l ++ [128]) ++ [128]) = true) :
    Calls Tryd.prog 32 #[.slice (some ad) 1 cap] w fun e w' => e = .returned (.bool true) ∧ Below w.heap.size w w' := by
  have HV := Lib.hid hv
  have hN := nil_some ad 1 cap
  have a2 : decide ((192 : Int) ≤ (x : Int)) = true := decide_eq_true (by omega)
  have b2 : decide ((x : Int) < 224) = false := decide_eq_false (by omega)
  have a3 : decide ((224 : Int) ≤ (x : Int)) = true := decide_eq_true (by omega)
  have b3 : decide ((x : Int) < 240) = true := decide_eq_true (by omega)
  have HS1 := Lib.hid (fun (v : Value) (W : World) (h : RdB W.heap.size W v ((l ++ [128]) ++ [128])) => by have := stands_any v ((l ++ [128]) ++ [128]) W h (by simp) (by simp [hl]); rwa [s1] at this)
  have x9 : (x : Int) ≤ 255 := by omega
  have HLn := Lib.hid hl
  clear hl hv h0 h1 s1
  have HB := Lib.hid (Below.refl w.heap.size w)
  go_enter Tryd.func32, Tryd.ntmps32
  go_wp2_with fail
  refine wp_loop_rounds 4 ?_
  rw [rounds_succ]
  have hz := Lib.hid (bys_z w)
  have hZ := Lib.hid ((Below.refl w.heap.size w).alloc (Nat.le_refl _) (.cells #[] 5))
  have hR := Lib.hid ((HV.out.next HB.out).next hZ.out)
  go_wp2_with (at_builtin; refine wpList_append_bs (by simp [Region.wanted]) _ _ rfl w.heap.size _ _ rfl hz.out _ _ rfl _ hR.out hN ?c1 ?c2 ?_; rotate_left 2; intro v p1_0 hv hg; have hb := Lib.hid (hZ.out.grown hg (by simp) (fun j e => (hz.out.lt j e).1)); obtain ⟨a1_0, c1_0, rfl⟩ := bys_num hv (n := 1) (by simp [HLn.out]); have hy := Lib.hid hv; clear hv hg)
  case c1 => simp [HLn.out]
  case c2 => simp
  clear hz hZ hR
  have hw := Lib.hid (HB.out.trans (hb.out.mono HB.out.size))
  refine wp_loop_rounds 6 ?_
  rw [rounds_succ]
  have hr := Lib.hid (rd_one p1_0 128 128 rfl)
  have hz := Lib.hid (own_below hy.out ((Below.refl p1_0.heap.size p1_0).alloc (Nat.le_refl _) (.cells #[.int .u8 128] 5)))
  have hZ := Lib.hid (hb.out.alloc hb.out.size (.cells #[.int .u8 128] 5))
  go_wp2_with (at_builtin; refine wpList_append_bs (by simp [Region.wanted]) _ _ rfl w.heap.size _ _ rfl hz.out _ _ rfl _ hr.out (nil_some _ _ _) ?c1 ?c2 ?_; rotate_left 2; intro v p1_1 hv hg; have hbn := Lib.hid (hZ.out.grown hg hZ.out.size (fun j e => (hz.out.lt j e).1)); obtain ⟨a1_1, c1_1, rfl⟩ := bys_num hv (n := 2) (by simp [HLn.out]); have hyn := Lib.hid hv; clear hv hg)
  case c1 => simp [HLn.out]
  case c2 => have := hZ.out.size; exact this
  clear hr hz hZ hy hb hw
  have hy := hyn
  have hb := hbn
  have hw := Lib.hid (HB.out.trans (hb.out.mono HB.out.size))
  clear hyn hbn
  rw [rounds_succ]
  have hr := Lib.hid (rd_one p1_1 128 128 rfl)
  have hz := Lib.hid (own_below hy.out ((Below.refl p1_1.heap.size p1_1).alloc (Nat.le_refl _) (.cells #[.int .u8 128] 5)))
  have hZ := Lib.hid (hb.out.alloc hb.out.size (.cells #[.int .u8 128] 5))
  go_wp2_with (at_builtin; refine wpList_append_bs (by simp [Region.wanted]) _ _ rfl w.heap.size _ _ rfl hz.out _ _ rfl _ hr.out (nil_some _ _ _) ?c1 ?c2 ?_; rotate_left 2; intro v p1_2 hv hg; have hbn := Lib.hid (hZ.out.grown hg hZ.out.size (fun j e => (hz.out.lt j e).1)); obtain ⟨a1_2, c1_2, rfl⟩ := bys_num hv (n := 3) (by simp [HLn.out]); have hyn := Lib.hid hv; clear hv hg)
  case c1 => simp [HLn.out]
  case c2 => have := hZ.out.size; exact this
  clear hr hz hZ hy hb hw
  have hy := hyn
  have hb := hbn
  have hw := Lib.hid (HB.out.trans (hb.out.mono HB.out.size))
  clear hyn hbn
  rw [rounds_succ]
  go_wp2_with (go_at_call 31; refine (HS1.out _ _ hy.out.rd).mono ?_; rintro e q1 ⟨rfl, hs⟩; have HBn := Lib.hid (hw.out.trans (hs.mono hw.out.size)); clear hs)
  go_ret
  exact ⟨rfl, HBn.out⟩
set_option maxRecDepth 100000 in
set_option maxHeartbeats 4000000 in
theorem begins_1_3_2 (ad : Addr) (cap x : Nat) (l : List UInt8) (w : World) (hv : RdB w.heap.size w (.slice (some ad) 1 cap) l) (hl : l.length = 1) (hx : w.cell? ad = some (.int .u8 (x : Int))) (h0 : 224 ≤ x) (h1 : x < 240) (s1 : stB ((l ++ [128]) ++ [128]) = false) (s2 : stB ((l ++ [191]) ++ [191]) = true) :
    Calls Tryd.prog 32 #[.slice (some ad) 1 cap] w fun e w' => e = .returned (.bool true) ∧ Below w.heap.size w w' := by
  have HV := Lib.hid hv
  have hN := nil_some ad 1 cap
  have a2 : decide ((192 : Int) ≤ (x : Int)) = true := decide_eq_true (by omega)
  have b2 : decide ((x : Int) < 224) = false := decide_eq_false (by omega)
  have a3 : decide ((224 : Int) ≤ (x : Int)) = true := decide_eq_true (by omega)
  have b3 : decide ((x : Int) < 240) = true := decide_eq_true (by omega)
  have HS1 := Lib.hid (fun (v : Value) (W : World) (h : RdB W.heap.size W v ((l ++ [128]) ++ [128])) => by have := stands_any v ((l ++ [128]) ++ [128]) W h (by simp) (by simp [hl]); rwa [s1] at this)
  have HS2 := Lib.hid (fun (v : Value) (W : World) (h : RdB W.heap.size W v ((l ++ [191]) ++ [191])) => by have := stands_any v ((l ++ [191]) ++ [191]) W h (by simp) (by simp [hl]); rwa [s2] at this)
  have x9 : (x : Int) ≤ 255 := by omega
  have HLn := Lib.hid hl
  clear hl hv h0 h1 s1 s2
  have HB := Lib.hid (Below.refl w.heap.size w)
  go_enter Tryd.func32, Tryd.ntmps32
  go_wp2_with fail
  refine wp_loop_rounds 4 ?_
  rw [rounds_succ]
  have hz := Lib.hid (bys_z w)
  have hZ := Lib.hid ((Below.refl w.heap.size w).alloc (Nat.le_refl _) (.cells #[] 5))
  have hR := Lib.hid ((HV.out.next HB.out).next hZ.out)
  go_wp2_with (at_builtin; refine wpList_append_bs (by simp [Region.wanted]) _ _ rfl w.heap.size _ _ rfl hz.out _ _ rfl _ hR.out hN ?c1 ?c2 ?_; rotate_left 2; intro v p1_0 hv hg; have hb := Lib.hid (hZ.out.grown hg (by simp) (fun j e => (hz.out.lt j e).1)); obtain ⟨a1_0, c1_0, rfl⟩ := bys_num hv (n := 1) (by simp [HLn.out]); have hy := Lib.hid hv; clear hv hg)
  case c1 => simp [HLn.out]
  case c2 => simp
  clear hz hZ hR
  have hw := Lib.hid (HB.out.trans (hb.out.mono HB.out.size))
  refine wp_loop_rounds 6 ?_
  rw [rounds_succ]
  have hr := Lib.hid (rd_one p1_0 128 128 rfl)
  have hz := Lib.hid (own_below hy.out ((Below.refl p1_0.heap.size p1_0).alloc (Nat.le_refl _) (.cells #[.int .u8 128] 5)))
  have hZ := Lib.hid (hb.out.alloc hb.out.size (.cells #[.int .u8 128] 5))
  go_wp2_with (at_builtin; refine wpList_append_bs (by simp [Region.wanted]) _ _ rfl w.heap.size _ _ rfl hz.out _ _ rfl _ hr.out (nil_some _ _ _) ?c1 ?c2 ?_; rotate_left 2; intro v p1_1 hv hg; have hbn := Lib.hid (hZ.out.grown hg hZ.out.size (fun j e => (hz.out.lt j e).1)); obtain ⟨a1_1, c1_1, rfl⟩ := bys_num hv (n := 2) (by simp [HLn.out]); have hyn := Lib.hid hv; clear hv hg)
  case c1 => simp [HLn.out]
  case c2 => have := hZ.out.size; exact this
  clear hr hz hZ hy hb hw
  have hy := hyn
  have hb := hbn
  have hw := Lib.hid (HB.out.trans (hb.out.mono HB.out.size))
  clear hyn hbn
  rw [rounds_succ]
  have hr := Lib.hid (rd_one p1_1 128 128 rfl)
  have hz := Lib.hid (own_below hy.out ((Below.refl p1_1.heap.size p1_1).alloc (Nat.le_refl _) (.cells #[.int .u8 128] 5)))
  have hZ := Lib.hid (hb.out.alloc hb.out.size (.cells #[.int .u8 128] 5))
  go_wp2_with (at_builtin; refine wpList_append_bs (by simp [Region.wanted]) _ _ rfl w.heap.size _ _ rfl hz.out _ _ rfl _ hr.out (nil_some _ _ _) ?c1 ?c2 ?_; rotate_left 2; intro v p1_2 hv hg; have hbn := Lib.hid (hZ.out.grown hg hZ.out.size (fun j e => (hz.out.lt j e).1)); obtain ⟨a1_2, c1_2, rfl⟩ := bys_num hv (n := 3) (by simp [HLn.out]); have hyn := Lib.hid hv; clear hv hg)
  case c1 => simp [HLn.out]
  case c2 => have := hZ.out.size; exact this
  clear hr hz hZ hy hb hw
  have hy := hyn
  have hb := hbn
  have hw := Lib.hid (HB.out.trans (hb.out.mono HB.out.size))
  clear hyn hbn
  rw [rounds_succ]
  go_wp2_with (go_at_call 31; refine (HS1.out _ _ hy.out.rd).mono ?_; rintro e q1 ⟨rfl, hs⟩; have HBn := Lib.hid (hw.out.trans (hs.mono hw.out.size)); clear hs)
  clear HB hy hb hw
  have HB := HBn
  clear HBn
  rw [rounds_succ]
  have hz := Lib.hid (bys_z q1)
  have hZ := Lib.hid ((Below.refl q1.heap.size q1).alloc (Nat.le_refl _) (.cells #[] 5))
  have hR := Lib.hid ((HV.out.next HB.out).next hZ.out)
  go_wp2_with (at_builtin; refine wpList_append_bs (by simp [Region.wanted]) _ _ rfl q1.heap.size _ _ rfl hz.out _ _ rfl _ hR.out hN ?c1 ?c2 ?_; rotate_left 2; intro v p2_0 hv hg; have hb := Lib.hid (hZ.out.grown hg (by simp) (fun j e => (hz.out.lt j e).1)); obtain ⟨a2_0, c2_0, rfl⟩ := bys_num hv (n := 1) (by simp [HLn.out]); have hy := Lib.hid hv; clear hv hg)
  case c1 => simp [HLn.out]
  case c2 => simp
  clear hz hZ hR
  have hw := Lib.hid (HB.out.trans (hb.out.mono HB.out.size))
  refine wp_loop_rounds 6 ?_
  rw [rounds_succ]
  have hr := Lib.hid (rd_one p2_0 191 191 rfl)
  have hz := Lib.hid (own_below hy.out ((Below.refl p2_0.heap.size p2_0).alloc (Nat.le_refl _) (.cells #[.int .u8 191] 5)))
  have hZ := Lib.hid (hb.out.alloc hb.out.size (.cells #[.int .u8 191] 5))
  go_wp2_with (at_builtin; refine wpList_append_bs (by simp [Region.wanted]) _ _ rfl q1.heap.size _ _ rfl hz.out _ _ rfl _ hr.out (nil_some _ _ _) ?c1 ?c2 ?_; rotate_left 2; intro v p2_1 hv hg; have hbn := Lib.hid (hZ.out.grown hg hZ.out.size (fun j e => (hz.out.lt j e).1)); obtain ⟨a2_1, c2_1, rfl⟩ := bys_num hv (n := 2) (by simp [HLn.out]); have hyn := Lib.hid hv; clear hv hg)
  case c1 => simp [HLn.out]
  case c2 => have := hZ.out.size; exact this
  clear hr hz hZ hy hb hw
  have hy := hyn
  have hb := hbn
  have hw := Lib.hid (HB.out.trans (hb.out.mono HB.out.size))
  clear hyn hbn
  rw [rounds_succ]
  have hr := Lib.hid (rd_one p2_1 191 191 rfl)
  have hz := Lib.hid (own_below hy.out ((Below.refl p2_1.heap.size p2_1).alloc (Nat.le_refl _) (.cells #[.int .u8 191] 5)))
  have hZ := Lib.hid (hb.out.alloc hb.out.size (.cells #[.int .u8 191] 5))
  go_wp2_with (at_builtin; refine wpList_append_bs (by simp [Region.wanted]) _ _ rfl q1.heap.size _ _ rfl hz.out _ _ rfl _ hr.out (nil_some _ _ _) ?c1 ?c2 ?_; rotate_left 2; intro v p2_2 hv hg; have hbn := Lib.hid (hZ.out.grown hg hZ.out.size (fun j e => (hz.out.lt j e).1)); obtain ⟨a2_2, c2_2, rfl⟩ := bys_num hv (n := 3) (by simp [HLn.out]); have hyn := Lib.hid hv; clear hv hg)
  case c1 => simp [HLn.out]
  case c2 => have := hZ.out.size; exact this
  clear hr hz hZ hy hb hw
  have hy := hyn
  have hb := hbn
  have hw := Lib.hid (HB.out.trans (hb.out.mono HB.out.size))
  clear hyn hbn
  rw [rounds_succ]
  go_wp2_with (go_at_call 31; refine (HS2.out _ _ hy.out.rd).mono ?_; rintro e q2 ⟨rfl, hs⟩; have HBn := Lib.hid (hw.out.trans (hs.mono hw.out.size)); clear hs)
  go_ret
  exact ⟨rfl, HBn.out⟩
set_option maxRecDepth 100000 in
set_option maxHeartbeats 4000000 in
theorem begins_1_3_0 (ad : Addr) (cap x : Nat) (l : List UInt8) (w : World) (hv : RdB w.heap.size w (.slice (some ad) 1 cap) l) (hl : l.length = 1) (hx : w.cell? ad = some (.int .u8 (x : Int))) (h0 : 224 ≤ x) (h1 : x < 240) (s1 : stB ((l ++ [128]) ++ [128]) = false) (s2 : stB ((l ++ [191]) ++ [191]) = false) :
    Calls Tryd.prog 32 #[.slice (some ad) 1 cap] w fun e w' => e = .returned (.bool false) ∧ Below w.heap.size w w' := by
  have HV := Lib.hid hv
  have hN := nil_some ad 1 cap
  have a2 : decide ((192 : Int) ≤ (x : Int)) = true := decide_eq_true (by omega)
  have b2 : decide ((x : Int) < 224) = false := decide_eq_false (by omega)
  have a3 : decide ((224 : Int) ≤ (x : Int)) = true := decide_eq_true (by omega)
  have b3 : decide ((x : Int) < 240) = true := decide_eq_true (by omega)
  have HS1 := Lib.hid (fun (v : Value) (W : World) (h : RdB W.heap.size W v ((l ++ [128]) ++ [128])) => by have := stands_any v ((l ++ [128]) ++ [128]) W h (by simp) (by simp [hl]); rwa [s1] at this)
  have HS2 := Lib.hid (fun (v : Value) (W : World) (h : RdB W.heap.size W v ((l ++ [191]) ++ [191])) => by have := stands_any v ((l ++ [191]) ++ [191]) W h (by simp) (by simp [hl]); rwa [s2] at this)
  have x9 : (x : Int) ≤ 255 := by omega
  have HLn := Lib.hid hl
  clear hl hv h0 h1 s1 s2
  have HB := Lib.hid (Below.refl w.heap.size w)
  go_enter Tryd.func32, Tryd.ntmps32
  go_wp2_with fail
  refine wp_loop_rounds 4 ?_
  rw [rounds_succ]
  have hz := Lib.hid (bys_z w)
  have hZ := Lib.hid ((Below.refl w.heap.size w).alloc (Nat.le_refl _) (.cells #[] 5))
  have hR := Lib.hid ((HV.out.next HB.out).next hZ.out)
  go_wp2_with (at_builtin; refine wpList_append_bs (by simp [Region.wanted]) _ _ rfl w.heap.size _ _ rfl hz.out _ _ rfl _ hR.out hN ?c1 ?c2 ?_; rotate_left 2; intro v p1_0 hv hg; have hb := Lib.hid (hZ.out.grown hg (by simp) (fun j e => (hz.out.lt j e).1)); obtain ⟨a1_0, c1_0, rfl⟩ := bys_num hv (n := 1) (by simp [HLn.out]); have hy := Lib.hid hv; clear hv hg)
  case c1 => simp [HLn.out]
  case c2 => simp
  clear hz hZ hR
  have hw := Lib.hid (HB.out.trans (hb.out.mono HB.out.size))
  refine wp_loop_rounds 6 ?_
  rw [rounds_succ]
  have hr := Lib.hid (rd_one p1_0 128 128 rfl)
  have hz := Lib.hid (own_below hy.out ((Below.refl p1_0.heap.size p1_0).alloc (Nat.le_refl _) (.cells #[.int .u8 128] 5)))
  have hZ := Lib.hid (hb.out.alloc hb.out.size (.cells #[.int .u8 128] 5))
  go_wp2_with (at_builtin; refine wpList_append_bs (by simp [Region.wanted]) _ _ rfl w.heap.size _ _ rfl hz.out _ _ rfl _ hr.out (nil_some _ _ _) ?c1 ?c2 ?_; rotate_left 2; intro v p1_1 hv hg; have hbn := Lib.hid (hZ.out.grown hg hZ.out.size (fun j e => (hz.out.lt j e).1)); obtain ⟨a1_1, c1_1, rfl⟩ := bys_num hv (n := 2) (by simp [HLn.out]); have hyn := Lib.hid hv; clear hv hg)
  case c1 => simp [HLn.out]
  case c2 => have := hZ.out.size; exact this
  clear hr hz hZ hy hb hw
  have hy := hyn
  have hb := hbn
  have hw := Lib.hid (HB.out.trans (hb.out.mono HB.out.size))
  clear hyn hbn
  rw [rounds_succ]
  have hr := Lib.hid (rd_one p1_1 128 128 rfl)
  have hz := Lib.hid (own_below hy.out ((Below.refl p1_1.heap.size p1_1).alloc (Nat.le_refl _) (.cells #[.int .u8 128] 5)))
  have hZ := Lib.hid (hb.out.alloc hb.out.size (.cells #[.int .u8 128] 5))
  go_wp2_with (at_builtin; refine wpList_append_bs (by simp [Region.wanted]) _ _ rfl w.heap.size _ _ rfl hz.out _ _ rfl _ hr.out (nil_some _ _ _) ?c1 ?c2 ?_; rotate_left 2; intro v p1_2 hv hg; have hbn := Lib.hid (hZ.out.grown hg hZ.out.size (fun j e => (hz.out.lt j e).1)); obtain ⟨a1_2, c1_2, rfl⟩ := bys_num hv (n := 3) (by simp [HLn.out]); have hyn := Lib.hid hv; clear hv hg)
  case c1 => simp [HLn.out]
  case c2 => have := hZ.out.size; exact this
  clear hr hz hZ hy hb hw
  have hy := hyn
  have hb := hbn
  have hw := Lib.hid (HB.out.trans (hb.out.mono HB.out.size))
  clear hyn hbn
  rw [rounds_succ]
  go_wp2_with (go_at_call 31; refine (HS1.out _ _ hy.out.rd).mono ?_; rintro e q1 ⟨rfl, hs⟩; have HBn := Lib.hid (hw.out.trans (hs.mono hw.out.size)); clear hs)
  clear HB hy hb hw
  have HB := HBn
  clear HBn
  rw [rounds_succ]
  have hz := Lib.hid (bys_z q1)
  have hZ := Lib.hid ((Below.refl q1.heap.size q1).alloc (Nat.le_refl _) (.cells #[] 5))
  have hR := Lib.hid ((HV.out.next HB.out).next hZ.out)
  go_wp2_with (at_builtin; refine wpList_append_bs (by simp [Region.wanted]) _ _ rfl q1.heap.size _ _ rfl hz.out _ _ rfl _ hR.out hN ?c1 ?c2 ?_; rotate_left 2; intro v p2_0 hv hg; have hb := Lib.hid (hZ.out.grown hg (by simp) (fun j e => (hz.out.lt j e).1)); obtain ⟨a2_0, c2_0, rfl⟩ := bys_num hv (n := 1) (by simp [HLn.out]); have hy := Lib.hid hv; clear hv hg)
  case c1 => simp [HLn.out]
  case c2 => simp
  clear hz hZ hR
  have hw := Lib.hid (HB.out.trans (hb.out.mono HB.out.size))
  refine wp_loop_rounds 6 ?_
  rw [rounds_succ]
  have hr := Lib.hid (rd_one p2_0 191 191 rfl)
  have hz := Lib.hid (own_below hy.out ((Below.refl p2_0.heap.size p2_0).alloc (Nat.le_refl _) (.cells #[.int .u8 191] 5)))
  have hZ := Lib.hid (hb.out.alloc hb.out.size (.cells #[.int .u8 191] 5))
  go_wp2_with (at_builtin; refine wpList_append_bs (by simp [Region.wanted]) _ _ rfl q1.heap.size _ _ rfl hz.out _ _ rfl _ hr.out (nil_some _ _ _) ?c1 ?c2 ?_; rotate_left 2; intro v p2_1 hv hg; have hbn := Lib.hid (hZ.out.grown hg hZ.out.size (fun j e => (hz.out.lt j e).1)); obtain ⟨a2_1, c2_1, rfl⟩ := bys_num hv (n := 2) (by simp [HLn.out]); have hyn := Lib.hid hv; clear hv hg)
  case c1 => simp [HLn.out]
  case c2 => have := hZ.out.size; exact this
  clear hr hz hZ hy hb hw
  have hy := hyn
  have hb := hbn
  have hw := Lib.hid (HB.out.trans (hb.out.mono HB.out.size))
  clear hyn hbn
  rw [rounds_succ]
  have hr := Lib.hid (rd_one p2_1 191 191 rfl)
  have hz := Lib.hid (own_below hy.out ((Below.refl p2_1.heap.size p2_1).alloc (Nat.le_refl _) (.cells #[.int .u8 191] 5)))
  have hZ := Lib.hid (hb.out.alloc hb.out.size (.cells #[.int .u8 191] 5))
  go_wp2_with (at_builtin; refine wpList_append_bs (by simp [Region.wanted]) _ _ rfl q1.heap.size _ _ rfl hz.out _ _ rfl _ hr.out (nil_some _ _ _) ?c1 ?c2 ?_; rotate_left 2; intro v p2_2 hv hg; have hbn := Lib.hid (hZ.out.grown hg hZ.out.size (fun j e => (hz.out.lt j e).1)); obtain ⟨a2_2, c2_2, rfl⟩ := bys_num hv (n := 3) (by simp [HLn.out]); have hyn := Lib.hid hv; clear hv hg)
  case c1 => simp [HLn.out]
  case c2 => have := hZ.out.size; exact this
  clear hr hz hZ hy hb hw
  have hy := hyn
  have hb := hbn
  have hw := Lib.hid (HB.out.trans (hb.out.mono HB.out.size))
  clear hyn hbn
  rw [rounds_succ]
  go_wp2_with (go_at_call 31; refine (HS2.out _ _ hy.out.rd).mono ?_; rintro e q2 ⟨rfl, hs⟩; have HBn := Lib.hid (hw.out.trans (hs.mono hw.out.size)); clear hs)
  clear HB hy hb hw
  have HB := HBn
  clear HBn
  rw [rounds_succ]
  go_wp2_with fail
  go_ret
  exact ⟨rfl, HB.out⟩
set_option maxRecDepth 100000 in
set_option maxHeartbeats 4000000 in
theorem begins_1_4_1 (ad : Addr) (cap x : Nat) (l : List UInt8) (w : World) (hv : RdB w.heap.size w (.slice (some ad) 1 cap) l) (hl : l.length = 1) (hx : w.cell? ad = some (.int .u8 (x : Int))) (h0 : 240 ≤ x) (h1 : x < 248) (s1 : stB (((l ++ [128]) ++ [128]) ++ [128]) = true) :
    Calls Tryd.prog 32 #[.slice (some ad) 1 cap] w fun e w' => e = .returned (.bool true) ∧ Below w.heap.size w w' := by
  have HV := Lib.hid hv
  have hN := nil_some ad 1 cap
  have a2 : decide ((192 : Int) ≤ (x : Int)) = true := decide_eq_true (by omega)
  have b2 : decide ((x : Int) < 224) = false := decide_eq_false (by omega)
  have a3 : decide ((224 : Int) ≤ (x : Int)) = true := decide_eq_true (by omega)
  have b3 : decide ((x : Int) < 240) = false := decide_eq_false (by omega)
  have a4 : decide ((240 : Int) ≤ (x : Int)) = true := decide_eq_true (by omega)
  have b4 : decide ((x : Int) < 248) = true := decide_eq_true (by omega)
  have HS1 := Lib.hid (fun (v : Value) (W : World) (h : RdB W.heap.size W v (((l ++ [128]) ++ [128]) ++ [128])) => by have := stands_any v (((l ++ [128]) ++ [128]) ++ [128]) W h (by simp) (by simp [hl]); rwa [s1] at this)
  have x9 : (x : Int) ≤ 255 := by omega
  have HLn := Lib.hid hl
  clear hl hv h0 h1 s1
  have HB := Lib.hid (Below.refl w.heap.size w)
  go_enter Tryd.func32, Tryd.ntmps32
  go_wp2_with fail
  refine wp_loop_rounds 4 ?_
  rw [rounds_succ]
  have hz := Lib.hid (bys_z w)
  have hZ := Lib.hid ((Below.refl w.heap.size w).alloc (Nat.le_refl _) (.cells #[] 5))
  have hR := Lib.hid ((HV.out.next HB.out).next hZ.out)
  go_wp2_with (at_builtin; refine wpList_append_bs (by simp [Region.wanted]) _ _ rfl w.heap.size _ _ rfl hz.out _ _ rfl _ hR.out hN ?c1 ?c2 ?_; rotate_left 2; intro v p1_0 hv hg; have hb := Lib.hid (hZ.out.grown hg (by simp) (fun j e => (hz.out.lt j e).1)); obtain ⟨a1_0, c1_0, rfl⟩ := bys_num hv (n := 1) (by simp [HLn.out]); have hy := Lib.hid hv; clear hv hg)
  case c1 => simp [HLn.out]
  case c2 => simp
  clear hz hZ hR
  have hw := Lib.hid (HB.out.trans (hb.out.mono HB.out.size))
  refine wp_loop_rounds 6 ?_
  rw [rounds_succ]
  have hr := Lib.hid (rd_one p1_0 128 128 rfl)
  have hz := Lib.hid (own_below hy.out ((Below.refl p1_0.heap.size p1_0).alloc (Nat.le_refl _) (.cells #[.int .u8 128] 5)))
  have hZ := Lib.hid (hb.out.alloc hb.out.size (.cells #[.int .u8 128] 5))
  go_wp2_with (at_builtin; refine wpList_append_bs (by simp [Region.wanted]) _ _ rfl w.heap.size _ _ rfl hz.out _ _ rfl _ hr.out (nil_some _ _ _) ?c1 ?c2 ?_; rotate_left 2; intro v p1_1 hv hg; have hbn := Lib.hid (hZ.out.grown hg hZ.out.size (fun j e => (hz.out.lt j e).1)); obtain ⟨a1_1, c1_1, rfl⟩ := bys_num hv (n := 2) (by simp [HLn.out]); have hyn := Lib.hid hv; clear hv hg)
  case c1 => simp [HLn.out]
  case c2 => have := hZ.out.size; exact this
  clear hr hz hZ hy hb hw
  have hy := hyn
  have hb := hbn
  have hw := Lib.hid (HB.out.trans (hb.out.mono HB.out.size))
  clear hyn hbn
  rw [rounds_succ]
  have hr := Lib.hid (rd_one p1_1 128 128 rfl)
  have hz := Lib.hid (own_below hy.out ((Below.refl p1_1.heap.size p1_1).alloc (Nat.le_refl _) (.cells #[.int .u8 128] 5)))
  have hZ := Lib.hid (hb.out.alloc hb.out.size (.cells #[.int .u8 128] 5))
  go_wp2_with (at_builtin; refine wpList_append_bs (by simp [Region.wanted]) _ _ rfl w.heap.size _ _ rfl hz.out _ _ rfl _ hr.out (nil_some _ _ _) ?c1 ?c2 ?_; rotate_left 2; intro v p1_2 hv hg; have hbn := Lib.hid (hZ.out.grown hg hZ.out.size (fun j e => (hz.out.lt j e).1)); obtain ⟨a1_2, c1_2, rfl⟩ := bys_num hv (n := 3) (by simp [HLn.out]); have hyn := Lib.hid hv; clear hv hg)
  case c1 => simp [HLn.out]
  case c2 => have := hZ.out.size; exact this
  clear hr hz hZ hy hb hw
  have hy := hyn
  have hb := hbn
  have hw := Lib.hid (HB.out.trans (hb.out.mono HB.out.size))
  clear hyn hbn
  rw [rounds_succ]
  have hr := Lib.hid (rd_one p1_2 128 128 rfl)
  have hz := Lib.hid (own_below hy.out ((Below.refl p1_2.heap.size p1_2).alloc (Nat.le_refl _) (.cells #[.int .u8 128] 5)))
  have hZ := Lib.hid (hb.out.alloc hb.out.size (.cells #[.int .u8 128] 5))
  go_wp2_with (at_builtin; refine wpList_append_bs (by simp [Region.wanted]) _ _ rfl w.heap.size _ _ rfl hz.out _ _ rfl _ hr.out (nil_some _ _ _) ?c1 ?c2 ?_; rotate_left 2; intro v p1_3 hv hg; have hbn := Lib.hid (hZ.out.grown hg hZ.out.size (fun j e => (hz.out.lt j e).1)); obtain ⟨a1_3, c1_3, rfl⟩ := bys_num hv (n := 4) (by simp [HLn.out]); have hyn := Lib.hid hv; clear hv hg)
  case c1 => simp [HLn.out]
  case c2 => have := hZ.out.size; exact this
  clear hr hz hZ hy hb hw
  have hy := hyn
  have hb := hbn
  have hw := Lib.hid (HB.out.trans (hb.out.mono HB.out.size))
  clear hyn hbn
  rw [rounds_succ]
  go_wp2_with (go_at_call 31; refine (HS1.out _ _ hy.out.rd).mono ?_; rintro e q1 ⟨rfl, hs⟩; have HBn := Lib.hid (hw.out.trans (hs.mono hw.out.size)); clear hs)
  go_ret
  exact ⟨rfl, HBn.out⟩
set_option maxRecDepth 100000 in
set_option maxHeartbeats 4000000 in
theorem begins_1_4_2 (ad : Addr) (cap x : Nat) (l : List UInt8) (w : World) (hv : RdB w.heap.size w (.slice (some ad) 1 cap) l) (hl : l.length = 1) (hx : w.cell? ad = some (.int .u8 (x : Int))) (h0 : 240 ≤ x) (h1 : x < 248) (s1 : stB (((l ++ [128]) ++ [128]) ++ [128]) = false) (s2 : stB (((l ++ [191]) ++ [191]) ++ [191]) = true) :
    Calls Tryd.prog 32 #[.slice (some ad) 1 cap] w fun e w' => e = .returned (.bool true) ∧ Below w.heap.size w w' := by
  have HV := Lib.hid hv
  have hN := nil_some ad 1 cap
  have a2 : decide ((192 : Int) ≤ (x : Int)) = true := decide_eq_true (by omega)
  have b2 : decide ((x : Int) < 224) = false := decide_eq_false (by omega)
  have a3 : decide ((224 : Int) ≤ (x : Int)) = true := decide_eq_true (by omega)
  have b3 : decide ((x : Int) < 240) = false := decide_eq_false (by omega)
  have a4 : decide ((240 : Int) ≤ (x : Int)) = true := decide_eq_true (by omega)
  have b4 : decide ((x : Int) < 248) = true := decide_eq_true (by omega)
  have HS1 := Lib.hid (fun (v : Value) (W : World) (h : RdB W.heap.size W v (((l ++ [128]) ++ [128]) ++ [128])) => by have := stands_any v (((l ++ [128]) ++ [128]) ++ [128]) W h (by simp) (by simp [hl]); rwa [s1] at this)
  have HS2 := Lib.hid (fun (v : Value) (W : World) (h : RdB W.heap.size W v (((l ++ [191]) ++ [191]) ++ [191])) => by have := stands_any v (((l ++ [191]) ++ [191]) ++ [191]) W h (by simp) (by simp [hl]); rwa [s2] at this)
  have x9 : (x : Int) ≤ 255 := by omega
  have HLn := Lib.hid hl
  clear hl hv h0 h1 s1 s2
  have HB := Lib.hid (Below.refl w.heap.size w)
  go_enter Tryd.func32, Tryd.ntmps32
  go_wp2_with fail
  refine wp_loop_rounds 4 ?_
  rw [rounds_succ]
  have hz := Lib.hid (bys_z w)
  have hZ := Lib.hid ((Below.refl w.heap.size w).alloc (Nat.le_refl _) (.cells #[] 5))
  have hR := Lib.hid ((HV.out.next HB.out).next hZ.out)
  go_wp2_with (at_builtin; refine wpList_append_bs (by simp [Region.wanted]) _ _ rfl w.heap.size _ _ rfl hz.out _ _ rfl _ hR.out hN ?c1 ?c2 ?_; rotate_left 2; intro v p1_0 hv hg; have hb := Lib.hid (hZ.out.grown hg (by simp) (fun j e => (hz.out.lt j e).1)); obtain ⟨a1_0, c1_0, rfl⟩ := bys_num hv (n := 1) (by simp [HLn.out]); have hy := Lib.hid hv; clear hv hg)
  case c1 => simp [HLn.out]
  case c2 => simp
  clear hz hZ hR
  have hw := Lib.hid (HB.out.trans (hb.out.mono HB.out.size))
  refine wp_loop_rounds 6 ?_
  rw [rounds_succ]
  have hr := Lib.hid (rd_one p1_0 128 128 rfl)
  have hz := Lib.hid (own_below hy.out ((Below.refl p1_0.heap.size p1_0).alloc (Nat.le_refl _) (.cells #[.int .u8 128] 5)))
  have hZ := Lib.hid (hb.out.alloc hb.out.size (.cells #[.int .u8 128] 5))
  go_wp2_with (at_builtin; refine wpList_append_bs (by simp [Region.wanted]) _ _ rfl w.heap.size _ _ rfl hz.out _ _ rfl _ hr.out (nil_some _ _ _) ?c1 ?c2 ?_; rotate_left 2; intro v p1_1 hv hg; have hbn := Lib.hid (hZ.out.grown hg hZ.out.size (fun j e => (hz.out.lt j e).1)); obtain ⟨a1_1, c1_1, rfl⟩ := bys_num hv (n := 2) (by simp [HLn.out]); have hyn := Lib.hid hv; clear hv hg)
  case c1 => simp [HLn.out]
  case c2 => have := hZ.out.size; exact this
  clear hr hz hZ hy hb hw
  have hy := hyn
  have hb := hbn
  have hw := Lib.hid (HB.out.trans (hb.out.mono HB.out.size))
  clear hyn hbn
  rw [rounds_succ]
  have hr := Lib.hid (rd_one p1_1 128 128 rfl)
  have hz := Lib.hid (own_below hy.out ((Below.refl p1_1.heap.size p1_1).alloc (Nat.le_refl _) (.cells #[.int .u8 128] 5)))
  have hZ := Lib.hid (hb.out.alloc hb.out.size (.cells #[.int .u8 128] 5))
  go_wp2_with (at_builtin; refine wpList_append_bs (by simp [Region.wanted]) _ _ rfl w.heap.size _ _ rfl hz.out _ _ rfl _ hr.out (nil_some _ _ _) ?c1 ?c2 ?_; rotate_left 2; intro v p1_2 hv hg; have hbn := Lib.hid (hZ.out.grown hg hZ.out.size (fun j e => (hz.out.lt j e).1)); obtain ⟨a1_2, c1_2, rfl⟩ := bys_num hv (n := 3) (by simp [HLn.out]); have hyn := Lib.hid hv; clear hv hg)
  case c1 => simp [HLn.out]
  case c2 => have := hZ.out.size; exact this
  clear hr hz hZ hy hb hw
  have hy := hyn
  have hb := hbn
  have hw := Lib.hid (HB.out.trans (hb.out.mono HB.out.size))
  clear hyn hbn
  rw [rounds_succ]
  have hr := Lib.hid (rd_one p1_2 128 128 rfl)
  have hz := Lib.hid (own_below hy.out ((Below.refl p1_2.heap.size p1_2).alloc (Nat.le_refl _) (.cells #[.int .u8 128] 5)))
  have hZ := Lib.hid (hb.out.alloc hb.out.size (.cells #[.int .u8 128] 5))
  go_wp2_with (at_builtin; refine wpList_append_bs (by simp [Region.wanted]) _ _ rfl w.heap.size _ _ rfl hz.out _ _ rfl _ hr.out (nil_some _ _ _) ?c1 ?c2 ?_; rotate_left 2; intro v p1_3 hv hg; have hbn := Lib.hid (hZ.out.grown hg hZ.out.size (fun j e => (hz.out.lt j e).1)); obtain ⟨a1_3, c1_3, rfl⟩ := bys_num hv (n := 4) (by simp [HLn.out]); have hyn := Lib.hid hv; clear hv hg)
  case c1 => simp [HLn.out]
  case c2 => have := hZ.out.size; exact this
  clear hr hz hZ hy hb hw
  have hy := hyn
  have hb := hbn
  have hw := Lib.hid (HB.out.trans (hb.out.mono HB.out.size))
  clear hyn hbn
  rw [rounds_succ]
  go_wp2_with (go_at_call 31; refine (HS1.out _ _ hy.out.rd).mono ?_; rintro e q1 ⟨rfl, hs⟩; have HBn := Lib.hid (hw.out.trans (hs.mono hw.out.size)); clear hs)
  clear HB hy hb hw
  have HB := HBn
  clear HBn
  rw [rounds_succ]
  have hz := Lib.hid (bys_z q1)
  have hZ := Lib.hid ((Below.refl q1.heap.size q1).alloc (Nat.le_refl _) (.cells #[] 5))
  have hR := Lib.hid ((HV.out.next HB.out).next hZ.out)
  go_wp2_with (at_builtin; refine wpList_append_bs (by simp [Region.wanted]) _ _ rfl q1.heap.size _ _ rfl hz.out _ _ rfl _ hR.out hN ?c1 ?c2 ?_; rotate_left 2; intro v p2_0 hv hg; have hb := Lib.hid (hZ.out.grown hg (by simp) (fun j e => (hz.out.lt j e).1)); obtain ⟨a2_0, c2_0, rfl⟩ := bys_num hv (n := 1) (by simp [HLn.out]); have hy := Lib.hid hv; clear hv hg)
  case c1 => simp [HLn.out]
  case c2 => simp
  clear hz hZ hR
  have hw := Lib.hid (HB.out.trans (hb.out.mono HB.out.size))
  refine wp_loop_rounds 6 ?_
  rw [rounds_succ]
  have hr := Lib.hid (rd_one p2_0 191 191 rfl)
  have hz := Lib.hid (own_below hy.out ((Below.refl p2_0.heap.size p2_0).alloc (Nat.le_refl _) (.cells #[.int .u8 191] 5)))
  have hZ := Lib.hid (hb.out.alloc hb.out.size (.cells #[.int .u8 191] 5))
  go_wp2_with (at_builtin; refine wpList_append_bs (by simp [Region.wanted]) _ _ rfl q1.heap.size _ _ rfl hz.out _ _ rfl _ hr.out (nil_some _ _ _) ?c1 ?c2 ?_; rotate_left 2; intro v p2_1 hv hg; have hbn := Lib.hid (hZ.out.grown hg hZ.out.size (fun j e => (hz.out.lt j e).1)); obtain ⟨a2_1, c2_1, rfl⟩ := bys_num hv (n := 2) (by simp [HLn.out]); have hyn := Lib.hid hv; clear hv hg)
  case c1 => simp [HLn.out]
  case c2 => have := hZ.out.size; exact this
  clear hr hz hZ hy hb hw
  have hy := hyn
  have hb := hbn
  have hw := Lib.hid (HB.out.trans (hb.out.mono HB.out.size))
  clear hyn hbn
  rw [rounds_succ]
  have hr := Lib.hid (rd_one p2_1 191 191 rfl)
  have hz := Lib.hid (own_below hy.out ((Below.refl p2_1.heap.size p2_1).alloc (Nat.le_refl _) (.cells #[.int .u8 191] 5)))
  have hZ := Lib.hid (hb.out.alloc hb.out.size (.cells #[.int .u8 191] 5))
  go_wp2_with (at_builtin; refine wpList_append_bs (by simp [Region.wanted]) _ _ rfl q1.heap.size _ _ rfl hz.out _ _ rfl _ hr.out (nil_some _ _ _) ?c1 ?c2 ?_; rotate_left 2; intro v p2_2 hv hg; have hbn := Lib.hid (hZ.out.grown hg hZ.out.size (fun j e => (hz.out.lt j e).1)); obtain ⟨a2_2, c2_2, rfl⟩ := bys_num hv (n := 3) (by simp [HLn.out]); have hyn := Lib.hid hv; clear hv hg)
  case c1 => simp [HLn.out]
  case c2 => have := hZ.out.size; exact this
  clear hr hz hZ hy hb hw
  have hy := hyn
  have hb := hbn
  have hw := Lib.hid (HB.out.trans (hb.out.mono HB.out.size))
  clear hyn hbn
  rw [rounds_succ]
  have hr := Lib.hid (rd_one p2_2 191 191 rfl)
  have hz := Lib.hid (own_below hy.out ((Below.refl p2_2.heap.size p2_2).alloc (Nat.le_refl _) (.cells #[.int .u8 191] 5)))
  have hZ := Lib.hid (hb.out.alloc hb.out.size (.cells #[.int .u8 191] 5))
  go_wp2_with (at_builtin; refine wpList_append_bs (by simp [Region.wanted]) _ _ rfl q1.heap.size _ _ rfl hz.out _ _ rfl _ hr.out (nil_some _ _ _) ?c1 ?c2 ?_; rotate_left 2; intro v p2_3 hv hg; have hbn := Lib.hid (hZ.out.grown hg hZ.out.size (fun j e => (hz.out.lt j e).1)); obtain ⟨a2_3, c2_3, rfl⟩ := bys_num hv (n := 4) (by simp [HLn.out]); have hyn := Lib.hid hv; clear hv hg)
  case c1 => simp [HLn.out]
  case c2 => have := hZ.out.size; exact this
  clear hr hz hZ hy hb hw
  have hy := hyn
  have hb := hbn
  have hw := Lib.hid (HB.out.trans (hb.out.mono HB.out.size))
  clear hyn hbn
  rw [rounds_succ]
  go_wp2_with (go_at_call 31; refine (HS2.out _ _ hy.out.rd).mono ?_; rintro e q2 ⟨rfl, hs⟩; have HBn := Lib.hid (hw.out.trans (hs.mono hw.out.size)); clear hs)
  go_ret
  exact ⟨rfl, HBn.out⟩
set_option maxRecDepth 100000 in
set_option maxHeartbeats 4000000 in
theorem begins_1_4_0 (ad : Addr) (cap x : Nat) (l : List UInt8) (w : World) (hv : RdB w.heap.size w (.slice (some ad) 1 cap) l) (hl : l.length = 1) (hx : w.cell? ad = some (.int .u8 (x : Int))) (h0 : 240 ≤ x) (h1 : x < 248) (s1 : stB (((l ++ [128]) ++ [128]) ++ [128]) = false) (s2 : stB (((l ++ [191]) ++ [191]) ++ [191]) = false) :
    Calls Tryd.prog 32 #[.slice (some ad) 1 cap] w fun e w' => e = .returned (.bool false) ∧ Below w.heap.size w w' := by
  have HV := Lib.hid hv
  have hN := nil_some ad 1 cap
  have a2 : decide ((192 : Int) ≤ (x : Int)) = true := decide_eq_true (by omega)
  have b2 : decide ((x : Int) < 224) = false := decide_eq_false (by omega)
  have a3 : decide ((224 : Int) ≤ (x : Int)) = true := decide_eq_true (by omega)
  have b3 : decide ((x : Int) < 240) = false := decide_eq_false (by omega)
  have a4 : decide ((240 : Int) ≤ (x : Int)) = true := decide_eq_true (by omega)
  have b4 : decide ((x : Int) < 248) = true := decide_eq_true (by omega)
  have HS1 := Lib.hid (fun (v : Value) (W : World) (h : RdB W.heap.size W v (((l ++ [128]) ++ [128]) ++ [128])) => by have := stands_any v (((l ++ [128]) ++ [128]) ++ [128]) W h (by simp) (by simp [hl]); rwa [s1] at this)
  have HS2 := Lib.hid (fun (v : Value) (W : World) (h : RdB W.heap.size W v (((l ++ [191]) ++ [191]) ++ [191])) => by have := stands_any v (((l ++ [191]) ++ [191]) ++ [191]) W h (by simp) (by simp [hl]); rwa [s2] at this)
  have x9 : (x : Int) ≤ 255 := by omega
  have HLn := Lib.hid hl
  clear hl hv h0 h1 s1 s2
  have HB := Lib.hid (Below.refl w.heap.size w)
  go_enter Tryd.func32, Tryd.ntmps32
  go_wp2_with fail
  refine wp_loop_rounds 4 ?_
  rw [rounds_succ]
  have hz := Lib.hid (bys_z w)
  have hZ := Lib.hid ((Below.refl w.heap.size w).alloc (Nat.le_refl _) (.cells #[] 5))
  have hR := Lib.hid ((HV.out.next HB.out).next hZ.out)
  go_wp2_with (at_builtin; refine wpList_append_bs (by simp [Region.wanted]) _ _ rfl w.heap.size _ _ rfl hz.out _ _ rfl _ hR.out hN ?c1 ?c2 ?_; rotate_left 2; intro v p1_0 hv hg; have hb := Lib.hid (hZ.out.grown hg (by simp) (fun j e => (hz.out.lt j e).1)); obtain ⟨a1_0, c1_0, rfl⟩ := bys_num hv (n := 1) (by simp [HLn.out]); have hy := Lib.hid hv; clear hv hg)
  case c1 => simp [HLn.out]
  case c2 => simp
  clear hz hZ hR
  have hw := Lib.hid (HB.out.trans (hb.out.mono HB.out.size))
  refine wp_loop_rounds 6 ?_
  rw [rounds_succ]
  have hr := Lib.hid (rd_one p1_0 128 128 rfl)
  have hz := Lib.hid (own_below hy.out ((Below.refl p1_0.heap.size p1_0).alloc (Nat.le_refl _) (.cells #[.int .u8 128] 5)))
  have hZ := Lib.hid (hb.out.alloc hb.out.size (.cells #[.int .u8 128] 5))
  go_wp2_with (at_builtin; refine wpList_append_bs (by simp [Region.wanted]) _ _ rfl w.heap.size _ _ rfl hz.out _ _ rfl _ hr.out (nil_some _ _ _) ?c1 ?c2 ?_; rotate_left 2; intro v p1_1 hv hg; have hbn := Lib.hid (hZ.out.grown hg hZ.out.size (fun j e => (hz.out.lt j e).1)); obtain ⟨a1_1, c1_1, rfl⟩ := bys_num hv (n := 2) (by simp [HLn.out]); have hyn := Lib.hid hv; clear hv hg)
  case c1 => simp [HLn.out]
  case c2 => have := hZ.out.size; exact this
  clear hr hz hZ hy hb hw
  have hy := hyn
  have hb := hbn
  have hw := Lib.hid (HB.out.trans (hb.out.mono HB.out.size))
  clear hyn hbn
  rw [rounds_succ]
  have hr := Lib.hid (rd_one p1_1 128 128 rfl)
  have hz := Lib.hid (own_below hy.out ((Below.refl p1_1.heap.size p1_1).alloc (Nat.le_refl _) (.cells #[.int .u8 128] 5)))
  have hZ := Lib.hid (hb.out.alloc hb.out.size (.cells #[.int .u8 128] 5))
  go_wp2_with (at_builtin; refine wpList_append_bs (by simp [Region.wanted]) _ _ rfl w.heap.size _ _ rfl hz.out _ _ rfl _ hr.out (nil_some _ _ _) ?c1 ?c2 ?_; rotate_left 2; intro v p1_2 hv hg; have hbn := Lib.hid (hZ.out.grown hg hZ.out.size (fun j e => (hz.out.lt j e).1)); obtain ⟨a1_2, c1_2, rfl⟩ := bys_num hv (n := 3) (by simp [HLn.out]); have hyn := Lib.hid hv; clear hv hg)
  case c1 => simp [HLn.out]
  case c2 => have := hZ.out.size; exact this
  clear hr hz hZ hy hb hw
  have hy := hyn
  have hb := hbn
  have hw := Lib.hid (HB.out.trans (hb.out.mono HB.out.size))
  clear hyn hbn
  rw [rounds_succ]
  have hr := Lib.hid (rd_one p1_2 128 128 rfl)
  have hz := Lib.hid (own_below hy.out ((Below.refl p1_2.heap.size p1_2).alloc (Nat.le_refl _) (.cells #[.int .u8 128] 5)))
  have hZ := Lib.hid (hb.out.alloc hb.out.size (.cells #[.int .u8 128] 5))
  go_wp2_with (at_builtin; refine wpList_append_bs (by simp [Region.wanted]) _ _ rfl w.heap.size _ _ rfl hz.out _ _ rfl _ hr.out (nil_some _ _ _) ?c1 ?c2 ?_; rotate_left 2; intro v p1_3 hv hg; have hbn := Lib.hid (hZ.out.grown hg hZ.out.size (fun j e => (hz.out.lt j e).1)); obtain ⟨a1_3, c1_3, rfl⟩ := bys_num hv (n := 4) (by simp [HLn.out]); have hyn := Lib.hid hv; clear hv hg)
  case c1 => simp [HLn.out]
  case c2 => have := hZ.out.size; exact this
  clear hr hz hZ hy hb hw
  have hy := hyn
  have hb := hbn
  have hw := Lib.hid (HB.out.trans (hb.out.mono HB.out.size))
  clear hyn hbn
  rw [rounds_succ]
  go_wp2_with (go_at_call 31; refine (HS1.out _ _ hy.out.rd).mono ?_; rintro e q1 ⟨rfl, hs⟩; have HBn := Lib.hid (hw.out.trans (hs.mono hw.out.size)); clear hs)
  clear HB hy hb hw
  have HB := HBn
  clear HBn
  rw [rounds_succ]
  have hz := Lib.hid (bys_z q1)
  have hZ := Lib.hid ((Below.refl q1.heap.size q1).alloc (Nat.le_refl _) (.cells #[] 5))
  have hR := Lib.hid ((HV.out.next HB.out).next hZ.out)
  go_wp2_with (at_builtin; refine wpList_append_bs (by simp [Region.wanted]) _ _ rfl q1.heap.size _ _ rfl hz.out _ _ rfl _ hR.out hN ?c1 ?c2 ?_; rotate_left 2; intro v p2_0 hv hg; have hb := Lib.hid (hZ.out.grown hg (by simp) (fun j e => (hz.out.lt j e).1)); obtain ⟨a2_0, c2_0, rfl⟩ := bys_num hv (n := 1) (by simp [HLn.out]); have hy := Lib.hid hv; clear hv hg)
  case c1 => simp [HLn.out]
  case c2 => simp
  clear hz hZ hR
  have hw := Lib.hid (HB.out.trans (hb.out.mono HB.out.size))
  refine wp_loop_rounds 6 ?_
  rw [rounds_succ]
  have hr := Lib.hid (rd_one p2_0 191 191 rfl)
  have hz := Lib.hid (own_below hy.out ((Below.refl p2_0.heap.size p2_0).alloc (Nat.le_refl _) (.cells #[.int .u8 191] 5)))
  have hZ := Lib.hid (hb.out.alloc hb.out.size (.cells #[.int .u8 191] 5))
  go_wp2_with (at_builtin; refine wpList_append_bs (by simp [Region.wanted]) _ _ rfl q1.heap.size _ _ rfl hz.out _ _ rfl _ hr.out (nil_some _ _ _) ?c1 ?c2 ?_; rotate_left 2; intro v p2_1 hv hg; have hbn := Lib.hid (hZ.out.grown hg hZ.out.size (fun j e => (hz.out.lt j e).1)); obtain ⟨a2_1, c2_1, rfl⟩ := bys_num hv (n := 2) (by simp [HLn.out]); have hyn := Lib.hid hv; clear hv hg)
  case c1 => simp [HLn.out]
  case c2 => have := hZ.out.size; exact this
  clear hr hz hZ hy hb hw
  have hy := hyn
  have hb := hbn
  have hw := Lib.hid (HB.out.trans (hb.out.mono HB.out.size))
  clear hyn hbn
  rw [rounds_succ]
  have hr := Lib.hid (rd_one p2_1 191 191 rfl)
  have hz := Lib.hid (own_below hy.out ((Below.refl p2_1.heap.size p2_1).alloc (Nat.le_refl _) (.cells #[.int .u8 191] 5)))
  have hZ := Lib.hid (hb.out.alloc hb.out.size (.cells #[.int .u8 191] 5))
  go_wp2_with (at_builtin; refine wpList_append_bs (by simp [Region.wanted]) _ _ rfl q1.heap.size _ _ rfl hz.out _ _ rfl _ hr.out (nil_some _ _ _) ?c1 ?c2 ?_; rotate_left 2; intro v p2_2 hv hg; have hbn := Lib.hid (hZ.out.grown hg hZ.out.size (fun j e => (hz.out.lt j e).1)); obtain ⟨a2_2, c2_2, rfl⟩ := bys_num hv (n := 3) (by simp [HLn.out]); have hyn := Lib.hid hv; clear hv hg)
  case c1 => simp [HLn.out]
  case c2 => have := hZ.out.size; exact this
  clear hr hz hZ hy hb hw
  have hy := hyn
  have hb := hbn
  have hw := Lib.hid (HB.out.trans (hb.out.mono HB.out.size))
  clear hyn hbn
  rw [rounds_succ]
  have hr := Lib.hid (rd_one p2_2 191 191 rfl)
  have hz := Lib.hid (own_below hy.out ((Below.refl p2_2.heap.size p2_2).alloc (Nat.le_refl _) (.cells #[.int .u8 191] 5)))
  have hZ := Lib.hid (hb.out.alloc hb.out.size (.cells #[.int .u8 191] 5))
  go_wp2_with (at_builtin; refine wpList_append_bs (by simp [Region.wanted]) _ _ rfl q1.heap.size _ _ rfl hz.out _ _ rfl _ hr.out (nil_some _ _ _) ?c1 ?c2 ?_; rotate_left 2; intro v p2_3 hv hg; have hbn := Lib.hid (hZ.out.grown hg hZ.out.size (fun j e => (hz.out.lt j e).1)); obtain ⟨a2_3, c2_3, rfl⟩ := bys_num hv (n := 4) (by simp [HLn.out]); have hyn := Lib.hid hv; clear hv hg)
  case c1 => simp [HLn.out]
  case c2 => have := hZ.out.size; exact this
  clear hr hz hZ hy hb hw
  have hy := hyn
  have hb := hbn
  have hw := Lib.hid (HB.out.trans (hb.out.mono HB.out.size))
  clear hyn hbn
  rw [rounds_succ]
  go_wp2_with (go_at_call 31; refine (HS2.out _ _ hy.out.rd).mono ?_; rintro e q2 ⟨rfl, hs⟩; have HBn := Lib.hid (hw.out.trans (hs.mono hw.out.size)); clear hs)
  clear HB hy hb hw
  have HB := HBn
  clear HBn
  rw [rounds_succ]
  go_wp2_with fail
  go_ret
  exact ⟨rfl, HB.out⟩
set_option maxRecDepth 100000 in
set_option maxHeartbeats 4000000 in
theorem begins_2_3_1 (ad : Addr) (cap x : Nat) (l : List UInt8) (w : World) (hv : RdB w.heap.size w (.slice (some ad) 2 cap) l) (hl : l.length = 2) (hx : w.cell? ad = some (.int .u8 (x : Int))) (h0 : 224 ≤ x) (h1 : x < 240) (s1 : stB (l ++ [128]) = true) :
    Calls Tryd.prog 32 #[.slice (some ad) 2 cap] w fun e w' => e = .returned (.bool true) ∧ Below w.heap.size w w' := by
  have HV := Lib.hid hv
  have hN := nil_some ad 2 cap
  have a2 : decide ((192 : Int) ≤ (x : Int)) = true := decide_eq_true (by omega)
  have b2 : decide ((x : Int) < 224) = false := decide_eq_false (by omega)
  have a3 : decide ((224 : Int) ≤ (x : Int)) = true := decide_eq_true (by omega)
  have b3 : decide ((x : Int) < 240) = true := decide_eq_true (by omega)
  have HS1 := Lib.hid (fun (v : Value) (W : World) (h : RdB W.heap.size W v (l ++ [128])) => by have := stands_any v (l ++ [128]) W h (by simp) (by simp [hl]); rwa [s1] at this)
  have x9 : (x : Int) ≤ 255 := by omega
  have HLn := Lib.hid hl
  clear hl hv h0 h1 s1
  have HB := Lib.hid (Below.refl w.heap.size w)
  go_enter Tryd.func32, Tryd.ntmps32
  go_wp2_with fail
  refine wp_loop_rounds 4 ?_
  rw [rounds_succ]
  have hz := Lib.hid (bys_z w)
  have hZ := Lib.hid ((Below.refl w.heap.size w).alloc (Nat.le_refl _) (.cells #[] 5))
  have hR := Lib.hid ((HV.out.next HB.out).next hZ.out)
  go_wp2_with (at_builtin; refine wpList_append_bs (by simp [Region.wanted]) _ _ rfl w.heap.size _ _ rfl hz.out _ _ rfl _ hR.out hN ?c1 ?c2 ?_; rotate_left 2; intro v p1_0 hv hg; have hb := Lib.hid (hZ.out.grown hg (by simp) (fun j e => (hz.out.lt j e).1)); obtain ⟨a1_0, c1_0, rfl⟩ := bys_num hv (n := 2) (by simp [HLn.out]); have hy := Lib.hid hv; clear hv hg)
  case c1 => simp [HLn.out]
  case c2 => simp
  clear hz hZ hR
  have hw := Lib.hid (HB.out.trans (hb.out.mono HB.out.size))
  refine wp_loop_rounds 6 ?_
  rw [rounds_succ]
  have hr := Lib.hid (rd_one p1_0 128 128 rfl)
  have hz := Lib.hid (own_below hy.out ((Below.refl p1_0.heap.size p1_0).alloc (Nat.le_refl _) (.cells #[.int .u8 128] 5)))
  have hZ := Lib.hid (hb.out.alloc hb.out.size (.cells #[.int .u8 128] 5))
  go_wp2_with (at_builtin; refine wpList_append_bs (by simp [Region.wanted]) _ _ rfl w.heap.size _ _ rfl hz.out _ _ rfl _ hr.out (nil_some _ _ _) ?c1 ?c2 ?_; rotate_left 2; intro v p1_1 hv hg; have hbn := Lib.hid (hZ.out.grown hg hZ.out.size (fun j e => (hz.out.lt j e).1)); obtain ⟨a1_1, c1_1, rfl⟩ := bys_num hv (n := 3) (by simp [HLn.out]); have hyn := Lib.hid hv; clear hv hg)
  case c1 => simp [HLn.out]
  case c2 => have := hZ.out.size; exact this
  clear hr hz hZ hy hb hw
  have hy := hyn
  have hb := hbn
  have hw := Lib.hid (HB.out.trans (hb.out.mono HB.out.size))
  clear hyn hbn
  rw [rounds_succ]
  go_wp2_with (go_at_call 31; refine (HS1.out _ _ hy.out.rd).mono ?_; rintro e q1 ⟨rfl, hs⟩; have HBn := Lib.hid (hw.out.trans (hs.mono hw.out.size)); clear hs)
  go_ret
  exact ⟨rfl, HBn.out⟩
set_option maxRecDepth 100000 in
set_option maxHeartbeats 4000000 in
theorem begins_2_3_2 (ad : Addr) (cap x : Nat) (l : List UInt8) (w : World) (hv : RdB w.heap.size w (.slice (some ad) 2 cap) l) (hl : l.length = 2) (hx : w.cell? ad = some (.int .u8 (x : Int))) (h0 : 224 ≤ x) (h1 : x < 240) (s1 : stB (l ++ [128]) = false) (s2 : stB (l ++ [191]) = true) :
    Calls Tryd.prog 32 #[.slice (some ad) 2 cap] w fun e w' => e = .returned (.bool true) ∧ Below w.heap.size w w' := by
  have HV := Lib.hid hv
  have hN := nil_some ad 2 cap
  have a2 : decide ((192 : Int) ≤ (x : Int)) = true := decide_eq_true (by omega)
  have b2 : decide ((x : Int) < 224) = false := decide_eq_false (by omega)
  have a3 : decide ((224 : Int) ≤ (x : Int)) = true := decide_eq_true (by omega)
  have b3 : decide ((x : Int) < 240) = true := decide_eq_true (by omega)
  have HS1 := Lib.hid (fun (v : Value) (W : World) (h : RdB W.heap.size W v (l ++ [128])) => by have := stands_any v (l ++ [128]) W h (by simp) (by simp [hl]); rwa [s1] at this)
  have HS2 := Lib.hid (fun (v : Value) (W : World) (h : RdB W.heap.size W v (l ++ [191])) => by have := stands_any v (l ++ [191]) W h (by simp) (by simp [hl]); rwa [s2] at this)
  have x9 : (x : Int) ≤ 255 := by omega
  have HLn := Lib.hid hl
  clear hl hv h0 h1 s1 s2
  have HB := Lib.hid (Below.refl w.heap.size w)
  go_enter Tryd.func32, Tryd.ntmps32
  go_wp2_with fail
  refine wp_loop_rounds 4 ?_
  rw [rounds_succ]
  have hz := Lib.hid (bys_z w)
  have hZ := Lib.hid ((Below.refl w.heap.size w).alloc (Nat.le_refl _) (.cells #[] 5))
  have hR := Lib.hid ((HV.out.next HB.out).next hZ.out)
  go_wp2_with (at_builtin; refine wpList_append_bs (by simp [Region.wanted]) _ _ rfl w.heap.size _ _ rfl hz.out _ _ rfl _ hR.out hN ?c1 ?c2 ?_; rotate_left 2; intro v p1_0 hv hg; have hb := Lib.hid (hZ.out.grown hg (by simp) (fun j e => (hz.out.lt j e).1)); obtain ⟨a1_0, c1_0, rfl⟩ := bys_num hv (n := 2) (by simp [HLn.out]); have hy := Lib.hid hv; clear hv hg)
  case c1 => simp [HLn.out]
  case c2 => simp
  clear hz hZ hR
  have hw := Lib.hid (HB.out.trans (hb.out.mono HB.out.size))
  refine wp_loop_rounds 6 ?_
  rw [rounds_succ]
  have hr := Lib.hid (rd_one p1_0 128 128 rfl)
  have hz := Lib.hid (own_below hy.out ((Below.refl p1_0.heap.size p1_0).alloc (Nat.le_refl _) (.cells #[.int .u8 128] 5)))
  have hZ := Lib.hid (hb.out.alloc hb.out.size (.cells #[.int .u8 128] 5))
  go_wp2_with (at_builtin; refine wpList_append_bs (by simp [Region.wanted]) _ _ rfl w.heap.size _ _ rfl hz.out _ _ rfl _ hr.out (nil_some _ _ _) ?c1 ?c2 ?_; rotate_left 2; intro v p1_1 hv hg; have hbn := Lib.hid (hZ.out.grown hg hZ.out.size (fun j e => (hz.out.lt j e).1)); obtain ⟨a1_1, c1_1, rfl⟩ := bys_num hv (n := 3) (by simp [HLn.out]); have hyn := Lib.hid hv; clear hv hg)
  case c1 => simp [HLn.out]
  case c2 => have := hZ.out.size; exact this
  clear hr hz hZ hy hb hw
  have hy := hyn
  have hb := hbn
  have hw := Lib.hid (HB.out.trans (hb.out.mono HB.out.size))
  clear hyn hbn
  rw [rounds_succ]
  go_wp2_with (go_at_call 31; refine (HS1.out _ _ hy.out.rd).mono ?_; rintro e q1 ⟨rfl, hs⟩; have HBn := Lib.hid (hw.out.trans (hs.mono hw.out.size)); clear hs)
  clear HB hy hb hw
  have HB := HBn
  clear HBn
  rw [rounds_succ]
  have hz := Lib.hid (bys_z q1)
  have hZ := Lib.hid ((Below.refl q1.heap.size q1).alloc (Nat.le_refl _) (.cells #[] 5))
  have hR := Lib.hid ((HV.out.next HB.out).next hZ.out)
  go_wp2_with (at_builtin; refine wpList_append_bs (by simp [Region.wanted]) _ _ rfl q1.heap.size _ _ rfl hz.out _ _ rfl _ hR.out hN ?c1 ?c2 ?_; rotate_left 2; intro v p2_0 hv hg; have hb := Lib.hid (hZ.out.grown hg (by simp) (fun j e => (hz.out.lt j e).1)); obtain ⟨a2_0, c2_0, rfl⟩ := bys_num hv (n := 2) (by simp [HLn.out]); have hy := Lib.hid hv; clear hv hg)
  case c1 => simp [HLn.out]
  case c2 => simp
  clear hz hZ hR
  have hw := Lib.hid (HB.out.trans (hb.out.mono HB.out.size))
  refine wp_loop_rounds 6 ?_
  rw [rounds_succ]
  have hr := Lib.hid (rd_one p2_0 191 191 rfl)
  have hz := Lib.hid (own_below hy.out ((Below.refl p2_0.heap.size p2_0).alloc (Nat.le_refl _) (.cells #[.int .u8 191] 5)))
  have hZ := Lib.hid (hb.out.alloc hb.out.size (.cells #[.int .u8 191] 5))
  go_wp2_with (at_builtin; refine wpList_append_bs (by simp [Region.wanted]) _ _ rfl q1.heap.size _ _ rfl hz.out _ _ rfl _ hr.out (nil_some _ _ _) ?c1 ?c2 ?_; rotate_left 2; intro v p2_1 hv hg; have hbn := Lib.hid (hZ.out.grown hg hZ.out.size (fun j e => (hz.out.lt j e).1)); obtain ⟨a2_1, c2_1, rfl⟩ := bys_num hv (n := 3) (by simp [HLn.out]); have hyn := Lib.hid hv; clear hv hg)
  case c1 => simp [HLn.out]
  case c2 => have := hZ.out.size; exact this
  clear hr hz hZ hy hb hw
  have hy := hyn
  have hb := hbn
  have hw := Lib.hid (HB.out.trans (hb.out.mono HB.out.size))
  clear hyn hbn
  rw [rounds_succ]
  go_wp2_with (go_at_call 31; refine (HS2.out _ _ hy.out.rd).mono ?_; rintro e q2 ⟨rfl, hs⟩; have HBn := Lib.hid (hw.out.trans (hs.mono hw.out.size)); clear hs)
  go_ret
  exact ⟨rfl, HBn.out⟩
set_option maxRecDepth 100000 in
set_option maxHeartbeats 4000000 in
theorem begins_2_3_0 (ad : Addr) (cap x : Nat) (l : List UInt8) (w : World) (hv : RdB w.heap.size w (.slice (some ad) 2 cap) l) (hl : l.length = 2) (hx : w.cell? ad = some (.int .u8 (x : Int))) (h0 : 224 ≤ x) (h1 : x < 240) (s1 : stB (l ++ [128]) = false) (s2 : stB (l ++ [191]) = false) :
    Calls Tryd.prog 32 #[.slice (some ad) 2 cap] w fun e w' => e = .returned (.bool false) ∧ Below w.heap.size w w' := by
  have HV := Lib.hid hv
  have hN := nil_some ad 2 cap
  have a2 : decide ((192 : Int) ≤ (x : Int)) = true := decide_eq_true (by omega)
  have b2 : decide ((x : Int) < 224) = false := decide_eq_false (by omega)
  have a3 : decide ((224 : Int) ≤ (x : Int)) = true := decide_eq_true (by omega)
  have b3 : decide ((x : Int) < 240) = true := decide_eq_true (by omega)
  have HS1 := Lib.hid (fun (v : Value) (W : World) (h : RdB W.heap.size W v (l ++ [128])) => by have := stands_any v (l ++ [128]) W h (by simp) (by simp [hl]); rwa [s1] at this)
  have HS2 := Lib.hid (fun (v : Value) (W : World) (h : RdB W.heap.size W v (l ++ [191])) => by have := stands_any v (l ++ [191]) W h (by simp) (by simp [hl]); rwa [s2] at this)
  have x9 : (x : Int) ≤ 255 := by omega
  have HLn := Lib.hid hl
  clear hl hv h0 h1 s1 s2
  have HB := Lib.hid (Below.refl w.heap.size w)
  go_enter Tryd.func32, Tryd.ntmps32
  go_wp2_with fail
  refine wp_loop_rounds 4 ?_
  rw [rounds_succ]
  have hz := Lib.hid (bys_z w)
  have hZ := Lib.hid ((Below.refl w.heap.size w).alloc (Nat.le_refl _) (.cells #[] 5))
  have hR := Lib.hid ((HV.out.next HB.out).next hZ.out)
  go_wp2_with (at_builtin; refine wpList_append_bs (by simp [Region.wanted]) _ _ rfl w.heap.size _ _ rfl hz.out _ _ rfl _ hR.out hN ?c1 ?c2 ?_; rotate_left 2; intro v p1_0 hv hg; have hb := Lib.hid (hZ.out.grown hg (by simp) (fun j e => (hz.out.lt j e).1)); obtain ⟨a1_0, c1_0, rfl⟩ := bys_num hv (n := 2) (by simp [HLn.out]); have hy := Lib.hid hv; clear hv hg)
  case c1 => simp [HLn.out]
  case c2 => simp
  clear hz hZ hR
  have hw := Lib.hid (HB.out.trans (hb.out.mono HB.out.size))
  refine wp_loop_rounds 6 ?_
  rw [rounds_succ]
  have hr := Lib.hid (rd_one p1_0 128 128 rfl)
  have hz := Lib.hid (own_below hy.out ((Below.refl p1_0.heap.size p1_0).alloc (Nat.le_refl _) (.cells #[.int .u8 128] 5)))
  have hZ := Lib.hid (hb.out.alloc hb.out.size (.cells #[.int .u8 128] 5))
  go_wp2_with (at_builtin; refine wpList_append_bs (by simp [Region.wanted]) _ _ rfl w.heap.size _ _ rfl hz.out _ _ rfl _ hr.out (nil_some _ _ _) ?c1 ?c2 ?_; rotate_left 2; intro v p1_1 hv hg; have hbn := Lib.hid (hZ.out.grown hg hZ.out.size (fun j e => (hz.out.lt j e).1)); obtain ⟨a1_1, c1_1, rfl⟩ := bys_num hv (n := 3) (by simp [HLn.out]); have hyn := Lib.hid hv; clear hv hg)
  case c1 => simp [HLn.out]
  case c2 => have := hZ.out.size; exact this
  clear hr hz hZ hy hb hw
  have hy := hyn
  have hb := hbn
  have hw := Lib.hid (HB.out.trans (hb.out.mono HB.out.size))
  clear hyn hbn
  rw [rounds_succ]
  go_wp2_with (go_at_call 31; refine (HS1.out _ _ hy.out.rd).mono ?_; rintro e q1 ⟨rfl, hs⟩; have HBn := Lib.hid (hw.out.trans (hs.mono hw.out.size)); clear hs)
  clear HB hy hb hw
  have HB := HBn
  clear HBn
  rw [rounds_succ]
  have hz := Lib.hid (bys_z q1)
  have hZ := Lib.hid ((Below.refl q1.heap.size q1).alloc (Nat.le_refl _) (.cells #[] 5))
  have hR := Lib.hid ((HV.out.next HB.out).next hZ.out)
  go_wp2_with (at_builtin; refine wpList_append_bs (by simp [Region.wanted]) _ _ rfl q1.heap.size _ _ rfl hz.out _ _ rfl _ hR.out hN ?c1 ?c2 ?_; rotate_left 2; intro v p2_0 hv hg; have hb := Lib.hid (hZ.out.grown hg (by simp) (fun j e => (hz.out.lt j e).1)); obtain ⟨a2_0, c2_0, rfl⟩ := bys_num hv (n := 2) (by simp [HLn.out]); have hy := Lib.hid hv; clear hv hg)
  case c1 => simp [HLn.out]
  case c2 => simp
  clear hz hZ hR
  have hw := Lib.hid (HB.out.trans (hb.out.mono HB.out.size))
  refine wp_loop_rounds 6 ?_
  rw [rounds_succ]
  have hr := Lib.hid (rd_one p2_0 191 191 rfl)
  have hz := Lib.hid (own_below hy.out ((Below.refl p2_0.heap.size p2_0).alloc (Nat.le_refl _) (.cells #[.int .u8 191] 5)))
  have hZ := Lib.hid (hb.out.alloc hb.out.size (.cells #[.int .u8 191] 5))
  go_wp2_with (at_builtin; refine wpList_append_bs (by simp [Region.wanted]) _ _ rfl q1.heap.size _ _ rfl hz.out _ _ rfl _ hr.out (nil_some _ _ _) ?c1 ?c2 ?_; rotate_left 2; intro v p2_1 hv hg; have hbn := Lib.hid (hZ.out.grown hg hZ.out.size (fun j e => (hz.out.lt j e).1)); obtain ⟨a2_1, c2_1, rfl⟩ := bys_num hv (n := 3) (by simp [HLn.out]); have hyn := Lib.hid hv; clear hv hg)
  case c1 => simp [HLn.out]
  case c2 => have := hZ.out.size; exact this
  clear hr hz hZ hy hb hw
  have hy := hyn
  have hb := hbn
  have hw := Lib.hid (HB.out.trans (hb.out.mono HB.out.size))
  clear hyn hbn
  rw [rounds_succ]
  go_wp2_with (go_at_call 31; refine (HS2.out _ _ hy.out.rd).mono ?_; rintro e q2 ⟨rfl, hs⟩; have HBn := Lib.hid (hw.out.trans (hs.mono hw.out.size)); clear hs)
  clear HB hy hb hw
  have HB := HBn
  clear HBn
  rw [rounds_succ]
  go_wp2_with fail
  go_ret
  exact ⟨rfl, HB.out⟩
set_option maxRecDepth 100000 in
set_option maxHeartbeats 4000000 in
theorem begins_2_4_1 (ad : Addr) (cap x : Nat) (l : List UInt8) (w : World) (hv : RdB w.heap.size w (.slice (some ad) 2 cap) l) (hl : l.length = 2) (hx : w.cell? ad = some (.int .u8 (x : Int))) (h0 : 240 ≤ x) (h1 : x < 248) (s1 : stB ((l ++ [128]) ++ [128]) = true) :
    Calls Tryd.prog 32 #[.slice (some ad) 2 cap] w fun e w' => e = .returned (.bool true) ∧ Below w.heap.size w w' := by
  have HV := Lib.hid hv
  have hN := nil_some ad 2 cap
  have a2 : decide ((192 : Int) ≤ (x : Int)) = true := decide_eq_true (by omega)
  have b2 : decide ((x : Int) < 224) = false := decide_eq_false (by omega)
  have a3 : decide ((224 : Int) ≤ (x : Int)) = true := decide_eq_true (by omega)
  have b3 : decide ((x : Int) < 240) = false := decide_eq_false (by omega)
  have a4 : decide ((240 : Int) ≤ (x : Int)) = true := decide_eq_true (by omega)
  have b4 : decide ((x : Int) < 248) = true := decide_eq_true (by omega)
  have HS1 := Lib.hid (fun (v : Value) (W : World) (h : RdB W.heap.size W v ((l ++ [128]) ++ [128])) => by have := stands_any v ((l ++ [128]) ++ [128]) W h (by simp) (by simp [hl]); rwa [s1] at this)
  have x9 : (x : Int) ≤ 255 := by omega
  have HLn := Lib.hid hl
  clear hl hv h0 h1 s1
  have HB := Lib.hid (Below.refl w.heap.size w)
  go_enter Tryd.func32, Tryd.ntmps32
  go_wp2_with fail
  refine wp_loop_rounds 4 ?_
  rw [rounds_succ]
  have hz := Lib.hid (bys_z w)
  have hZ := Lib.hid ((Below.refl w.heap.size w).alloc (Nat.le_refl _) (.cells #[] 5))
  have hR := Lib.hid ((HV.out.next HB.out).next hZ.out)
  go_wp2_with (at_builtin; refine wpList_append_bs (by simp [Region.wanted]) _ _ rfl w.heap.size _ _ rfl hz.out _ _ rfl _ hR.out hN ?c1 ?c2 ?_; rotate_left 2; intro v p1_0 hv hg; have hb := Lib.hid (hZ.out.grown hg (by simp) (fun j e => (hz.out.lt j e).1)); obtain ⟨a1_0, c1_0, rfl⟩ := bys_num hv (n := 2) (by simp [HLn.out]); have hy := Lib.hid hv; clear hv hg)
  case c1 => simp [HLn.out]
  case c2 => simp
  clear hz hZ hR
  have hw := Lib.hid (HB.out.trans (hb.out.mono HB.out.size))
  refine wp_loop_rounds 6 ?_
  rw [rounds_succ]
  have hr := Lib.hid (rd_one p1_0 128 128 rfl)
  have hz := Lib.hid (own_below hy.out ((Below.refl p1_0.heap.size p1_0).alloc (Nat.le_refl _) (.cells #[.int .u8 128] 5)))
  have hZ := Lib.hid (hb.out.alloc hb.out.size (.cells #[.int .u8 128] 5))
  go_wp2_with (at_builtin; refine wpList_append_bs (by simp [Region.wanted]) _ _ rfl w.heap.size _ _ rfl hz.out _ _ rfl _ hr.out (nil_some _ _ _) ?c1 ?c2 ?_; rotate_left 2; intro v p1_1 hv hg; have hbn := Lib.hid (hZ.out.grown hg hZ.out.size (fun j e => (hz.out.lt j e).1)); obtain ⟨a1_1, c1_1, rfl⟩ := bys_num hv (n := 3) (by simp [HLn.out]); have hyn := Lib.hid hv; clear hv hg)
  case c1 => simp [HLn.out]
  case c2 => have := hZ.out.size; exact this
  clear hr hz hZ hy hb hw
  have hy := hyn
  have hb := hbn
  have hw := Lib.hid (HB.out.trans (hb.out.mono HB.out.size))
  clear hyn hbn
  rw [rounds_succ]
  have hr := Lib.hid (rd_one p1_1 128 128 rfl)
  have hz := Lib.hid (own_below hy.out ((Below.refl p1_1.heap.size p1_1).alloc (Nat.le_refl _) (.cells #[.int .u8 128] 5)))
  have hZ := Lib.hid (hb.out.alloc hb.out.size (.cells #[.int .u8 128] 5))
  go_wp2_with (at_builtin; refine wpList_append_bs (by simp [Region.wanted]) _ _ rfl w.heap.size _ _ rfl hz.out _ _ rfl _ hr.out (nil_some _ _ _) ?c1 ?c2 ?_; rotate_left 2; intro v p1_2 hv hg; have hbn := Lib.hid (hZ.out.grown hg hZ.out.size (fun j e => (hz.out.lt j e).1)); obtain ⟨a1_2, c1_2, rfl⟩ := bys_num hv (n := 4) (by simp [HLn.out]); have hyn := Lib.hid hv; clear hv hg)
  case c1 => simp [HLn.out]
  case c2 => have := hZ.out.size; exact this
  clear hr hz hZ hy hb hw
  have hy := hyn
  have hb := hbn
  have hw := Lib.hid (HB.out.trans (hb.out.mono HB.out.size))
  clear hyn hbn
  rw [rounds_succ]
  go_wp2_with (go_at_call 31; refine (HS1.out _ _ hy.out.rd).mono ?_; rintro e q1 ⟨rfl, hs⟩; have HBn := Lib.hid (hw.out.trans (hs.mono hw.out.size)); clear hs)
  go_ret
  exact ⟨rfl, HBn.out⟩
set_option maxRecDepth 100000 in
set_option maxHeartbeats 4000000 in
theorem begins_2_4_2 (ad : Addr) (cap x : Nat) (l : List UInt8) (w : World) (hv : RdB w.heap.size w (.slice (some ad) 2 cap) l) (hl : l.length = 2) (hx : w.cell? ad = some (.int .u8 (x : Int))) (h0 : 240 ≤ x) (h1 : x < 248) (s1 : stB ((l ++ [128]) ++ [128]) = false) (s2 : stB ((l ++ [191]) ++ [191]) = true) :
    Calls Tryd.prog 32 #[.slice (some ad) 2 cap] w fun e w' => e = .returned (.bool true) ∧ Below w.heap.size w w' := by
  have HV := Lib.hid hv
  have hN := nil_some ad 2 cap
  have a2 : decide ((192 : Int) ≤ (x : Int)) = true := decide_eq_true (by omega)
  have b2 : decide ((x : Int) < 224) = false := decide_eq_false (by omega)
  have a3 : decide ((224 : Int) ≤ (x : Int)) = true := decide_eq_true (by omega)
  have b3 : decide ((x : Int) < 240) = false := decide_eq_false (by omega)
  have a4 : decide ((240 : Int) ≤ (x : Int)) = true := decide_eq_true (by omega)
  have b4 : decide ((x : Int) < 248) = true := decide_eq_true (by omega)
  have HS1 := Lib.hid (fun (v : Value) (W : World) (h : RdB W.heap.size W v ((l ++ [128]) ++ [128])) => by have := stands_any v ((l ++ [128]) ++ [128]) W h (by simp) (by simp [hl]); rwa [s1] at this)
  have HS2 := Lib.hid (fun (v : Value) (W : World) (h : RdB W.heap.size W v ((l ++ [191]) ++ [191])) => by have := stands_any v ((l ++ [191]) ++ [191]) W h (by simp) (by simp [hl]); rwa [s2] at this)
  have x9 : (x : Int) ≤ 255 := by omega
  have HLn := Lib.hid hl
  clear hl hv h0 h1 s1 s2
  have HB := Lib.hid (Below.refl w.heap.size w)
  go_enter Tryd.func32, Tryd.ntmps32
  go_wp2_with fail
  refine wp_loop_rounds 4 ?_
  rw [rounds_succ]
  have hz := Lib.hid (bys_z w)
  have hZ := Lib.hid ((Below.refl w.heap.size w).alloc (Nat.le_refl _) (.cells #[] 5))
  have hR := Lib.hid ((HV.out.next HB.out).next hZ.out)
  go_wp2_with (at_builtin; refine wpList_append_bs (by simp [Region.wanted]) _ _ rfl w.heap.size _ _ rfl hz.out _ _ rfl _ hR.out hN ?c1 ?c2 ?_; rotate_left 2; intro v p1_0 hv hg; have hb := Lib.hid (hZ.out.grown hg (by simp) (fun j e => (hz.out.lt j e).1)); obtain ⟨a1_0, c1_0, rfl⟩ := bys_num hv (n := 2) (by simp [HLn.out]); have hy := Lib.hid hv; clear hv hg)
  case c1 => simp [HLn.out]
  case c2 => simp
  clear hz hZ hR
  have hw := Lib.hid (HB.out.trans (hb.out.mono HB.out.size))
  refine wp_loop_rounds 6 ?_
  rw [rounds_succ]
  have hr := Lib.hid (rd_one p1_0 128 128 rfl)
  have hz := Lib.hid (own_below hy.out ((Below.refl p1_0.heap.size p1_0).alloc (Nat.le_refl _) (.cells #[.int .u8 128] 5)))
  have hZ := Lib.hid (hb.out.alloc hb.out.size (.cells #[.int .u8 128] 5))
  go_wp2_with (at_builtin; refine wpList_append_bs (by simp [Region.wanted]) _ _ rfl w.heap.size _ _ rfl hz.out _ _ rfl _ hr.out (nil_some _ _ _) ?c1 ?c2 ?_; rotate_left 2; intro v p1_1 hv hg; have hbn := Lib.hid (hZ.out.grown hg hZ.out.size (fun j e => (hz.out.lt j e).1)); obtain ⟨a1_1, c1_1, rfl⟩ := bys_num hv (n := 3) (by simp [HLn.out]); have hyn := Lib.hid hv; clear hv hg)
  case c1 => simp [HLn.out]
  case c2 => have := hZ.out.size; exact this
  clear hr hz hZ hy hb hw
  have hy := hyn
  have hb := hbn
  have hw := Lib.hid (HB.out.trans (hb.out.mono HB.out.size))
  clear hyn hbn
  rw [rounds_succ]
  have hr := Lib.hid (rd_one p1_1 128 128 rfl)
  have hz := Lib.hid (own_below hy.out ((Below.refl p1_1.heap.size p1_1).alloc (Nat.le_refl _) (.cells #[.int .u8 128] 5)))
  have hZ := Lib.hid (hb.out.alloc hb.out.size (.cells #[.int .u8 128] 5))
  go_wp2_with (at_builtin; refine wpList_append_bs (by simp [Region.wanted]) _ _ rfl w.heap.size _ _ rfl hz.out _ _ rfl _ hr.out (nil_some _ _ _) ?c1 ?c2 ?_; rotate_left 2; intro v p1_2 hv hg; have hbn := Lib.hid (hZ.out.grown hg hZ.out.size (fun j e => (hz.out.lt j e).1)); obtain ⟨a1_2, c1_2, rfl⟩ := bys_num hv (n := 4) (by simp [HLn.out]); have hyn := Lib.hid hv; clear hv hg)
  case c1 => simp [HLn.out]
  case c2 => have := hZ.out.size; exact this
  clear hr hz hZ hy hb hw
  have hy := hyn
  have hb := hbn
  have hw := Lib.hid (HB.out.trans (hb.out.mono HB.out.size))
  clear hyn hbn
  rw [rounds_succ]
  go_wp2_with (go_at_call 31; refine (HS1.out _ _ hy.out.rd).mono ?_; rintro e q1 ⟨rfl, hs⟩; have HBn := Lib.hid (hw.out.trans (hs.mono hw.out.size)); clear hs)
  clear HB hy hb hw
  have HB := HBn
  clear HBn
  rw [rounds_succ]
  have hz := Lib.hid (bys_z q1)
  have hZ := Lib.hid ((Below.refl q1.heap.size q1).alloc (Nat.le_refl _) (.cells #[] 5))
  have hR := Lib.hid ((HV.out.next HB.out).next hZ.out)
  go_wp2_with (at_builtin; refine wpList_append_bs (by simp [Region.wanted]) _ _ rfl q1.heap.size _ _ rfl hz.out _ _ rfl _ hR.out hN ?c1 ?c2 ?_; rotate_left 2; intro v p2_0 hv hg; have hb := Lib.hid (hZ.out.grown hg (by simp) (fun j e => (hz.out.lt j e).1)); obtain ⟨a2_0, c2_0, rfl⟩ := bys_num hv (n := 2) (by simp [HLn.out]); have hy := Lib.hid hv; clear hv hg)
  case c1 => simp [HLn.out]
  case c2 => simp
  clear hz hZ hR
  have hw := Lib.hid (HB.out.trans (hb.out.mono HB.out.size))
  refine wp_loop_rounds 6 ?_
  rw [rounds_succ]
  have hr := Lib.hid (rd_one p2_0 191 191 rfl)
  have hz := Lib.hid (own_below hy.out ((Below.refl p2_0.heap.size p2_0).alloc (Nat.le_refl _) (.cells #[.int .u8 191] 5)))
  have hZ := Lib.hid (hb.out.alloc hb.out.size (.cells #[.int .u8 191] 5))
  go_wp2_with (at_builtin; refine wpList_append_bs (by simp [Region.wanted]) _ _ rfl q1.heap.size _ _ rfl hz.out _ _ rfl _ hr.out (nil_some _ _ _) ?c1 ?c2 ?_; rotate_left 2; intro v p2_1 hv hg; have hbn := Lib.hid (hZ.out.grown hg hZ.out.size (fun j e => (hz.out.lt j e).1)); obtain ⟨a2_1, c2_1, rfl⟩ := bys_num hv (n := 3) (by simp [HLn.out]); have hyn := Lib.hid hv; clear hv hg)
  case c1 => simp [HLn.out]
  case c2 => have := hZ.out.size; exact this
  clear hr hz hZ hy hb hw
  have hy := hyn
  have hb := hbn
  have hw := Lib.hid (HB.out.trans (hb.out.mono HB.out.size))
  clear hyn hbn
  rw [rounds_succ]
  have hr := Lib.hid (rd_one p2_1 191 191 rfl)
  have hz := Lib.hid (own_below hy.out ((Below.refl p2_1.heap.size p2_1).alloc (Nat.le_refl _) (.cells #[.int .u8 191] 5)))
  have hZ := Lib.hid (hb.out.alloc hb.out.size (.cells #[.int .u8 191] 5))
  go_wp2_with (at_builtin; refine wpList_append_bs (by simp [Region.wanted]) _ _ rfl q1.heap.size _ _ rfl hz.out _ _ rfl _ hr.out (nil_some _ _ _) ?c1 ?c2 ?_; rotate_left 2; intro v p2_2 hv hg; have hbn := Lib.hid (hZ.out.grown hg hZ.out.size (fun j e => (hz.out.lt j e).1)); obtain ⟨a2_2, c2_2, rfl⟩ := bys_num hv (n := 4) (by simp [HLn.out]); have hyn := Lib.hid hv; clear hv hg)
  case c1 => simp [HLn.out]
  case c2 => have := hZ.out.size; exact this
  clear hr hz hZ hy hb hw
  have hy := hyn
  have hb := hbn
  have hw := Lib.hid (HB.out.trans (hb.out.mono HB.out.size))
  clear hyn hbn
  rw [rounds_succ]
  go_wp2_with (go_at_call 31; refine (HS2.out _ _ hy.out.rd).mono ?_; rintro e q2 ⟨rfl, hs⟩; have HBn := Lib.hid (hw.out.trans (hs.mono hw.out.size)); clear hs)
  go_ret
  exact ⟨rfl, HBn.out⟩
set_option maxRecDepth 100000 in
set_option maxHeartbeats 4000000 in
theorem begins_2_4_0 (ad : Addr) (cap x : Nat) (l : List UInt8) (w : World) (hv : RdB w.heap.size w (.slice (some ad) 2 cap) l) (hl : l.length = 2) (hx : w.cell? ad = some (.int .u8 (x : Int))) (h0 : 240 ≤ x) (h1 : x < 248) (s1 : stB ((l ++ [128]) ++ [128]) = false) (s2 : stB ((l ++ [191]) ++ [191]) = false) :
    Calls Tryd.prog 32 #[.slice (some ad) 2 cap] w fun e w' => e = .returned (.bool false) ∧ Below w.heap.size w w' := by
  have HV := Lib.hid hv
  have hN := nil_some ad 2 cap
  have a2 : decide ((192 : Int) ≤ (x : Int)) = true := decide_eq_true (by omega)
  have b2 : decide ((x : Int) < 224) = false := decide_eq_false (by omega)
  have a3 : decide ((224 : Int) ≤ (x : Int)) = true := decide_eq_true (by omega)
  have b3 : decide ((x : Int) < 240) = false := decide_eq_false (by omega)
  have a4 : decide ((240 : Int) ≤ (x : Int)) = true := decide_eq_true (by omega)
  have b4 : decide ((x : Int) < 248) = true := decide_eq_true (by omega)
  have HS1 := Lib.hid (fun (v : Value) (W : World) (h : RdB W.heap.size W v ((l ++ [128]) ++ [128])) => by have := stands_any v ((l ++ [128]) ++ [128]) W h (by simp) (by simp [hl]); rwa [s1] at this)
  have HS2 := Lib.hid (fun (v : Value) (W : World) (h : RdB W.heap.size W v ((l ++ [191]) ++ [191])) => by have := stands_any v ((l ++ [191]) ++ [191]) W h (by simp) (by simp [hl]); rwa [s2] at this)
  have x9 : (x : Int) ≤ 255 := by omega
  have HLn := Lib.hid hl
  clear hl hv h0 h1 s1 s2
  have HB := Lib.hid (Below.refl w.heap.size w)
  go_enter Tryd.func32, Tryd.ntmps32
  go_wp2_with fail
  refine wp_loop_rounds 4 ?_
  rw [rounds_succ]
  have hz := Lib.hid (bys_z w)
  have hZ := Lib.hid ((Below.refl w.heap.size w).alloc (Nat.le_refl _) (.cells #[] 5))
  have hR := Lib.hid ((HV.out.next HB.out).next hZ.out)
  go_wp2_with (at_builtin; refine wpList_append_bs (by simp [Region.wanted]) _ _ rfl w.heap.size _ _ rfl hz.out _ _ rfl _ hR.out hN ?c1 ?c2 ?_; rotate_left 2; intro v p1_0 hv hg; have hb := Lib.hid (hZ.out.grown hg (by simp) (fun j e => (hz.out.lt j e).1)); obtain ⟨a1_0, c1_0, rfl⟩ := bys_num hv (n := 2) (by simp [HLn.out]); have hy := Lib.hid hv; clear hv hg)
  case c1 => simp [HLn.out]
  case c2 => simp
  clear hz hZ hR
  have hw := Lib.hid (HB.out.trans (hb.out.mono HB.out.size))
  refine wp_loop_rounds 6 ?_
  rw [rounds_succ]
  have hr := Lib.hid (rd_one p1_0 128 128 rfl)
  have hz := Lib.hid (own_below hy.out ((Below.refl p1_0.heap.size p1_0).alloc (Nat.le_refl _) (.cells #[.int .u8 128] 5)))
  have hZ := Lib.hid (hb.out.alloc hb.out.size (.cells #[.int .u8 128] 5))
  go_wp2_with (at_builtin; refine wpList_append_bs (by simp [Region.wanted]) _ _ rfl w.heap.size _ _ rfl hz.out _ _ rfl _ hr.out (nil_some _ _ _) ?c1 ?c2 ?_; rotate_left 2; intro v p1_1 hv hg; have hbn := Lib.hid (hZ.out.grown hg hZ.out.size (fun j e => (hz.out.lt j e).1)); obtain ⟨a1_1, c1_1, rfl⟩ := bys_num hv (n := 3) (by simp [HLn.out]); have hyn := Lib.hid hv; clear hv hg)
  case c1 => simp [HLn.out]
  case c2 => have := hZ.out.size; exact this
  clear hr hz hZ hy hb hw
  have hy := hyn
  have hb := hbn
  have hw := Lib.hid (HB.out.trans (hb.out.mono HB.out.size))
  clear hyn hbn
  rw [rounds_succ]
  have hr := Lib.hid (rd_one p1_1 128 128 rfl)
  have hz := Lib.hid (own_below hy.out ((Below.refl p1_1.heap.size p1_1).alloc (Nat.le_refl _) (.cells #[.int .u8 128] 5)))
  have hZ := Lib.hid (hb.out.alloc hb.out.size (.cells #[.int .u8 128] 5))
  go_wp2_with (at_builtin; refine wpList_append_bs (by simp [Region.wanted]) _ _ rfl w.heap.size _ _ rfl hz.out _ _ rfl _ hr.out (nil_some _ _ _) ?c1 ?c2 ?_; rotate_left 2; intro v p1_2 hv hg; have hbn := Lib.hid (hZ.out.grown hg hZ.out.size (fun j e => (hz.out.lt j e).1)); obtain ⟨a1_2, c1_2, rfl⟩ := bys_num hv (n := 4) (by simp [HLn.out]); have hyn := Lib.hid hv; clear hv hg)
  case c1 => simp [HLn.out]
  case c2 => have := hZ.out.size; exact this
  clear hr hz hZ hy hb hw
  have hy := hyn
  have hb := hbn
  have hw := Lib.hid (HB.out.trans (hb.out.mono HB.out.size))
  clear hyn hbn
  rw [rounds_succ]
  go_wp2_with (go_at_call 31; refine (HS1.out _ _ hy.out.rd).mono ?_; rintro e q1 ⟨rfl, hs⟩; have HBn := Lib.hid (hw.out.trans (hs.mono hw.out.size)); clear hs)
  clear HB hy hb hw
  have HB := HBn
  clear HBn
  rw [rounds_succ]
  have hz := Lib.hid (bys_z q1)
  have hZ := Lib.hid ((Below.refl q1.heap.size q1).alloc (Nat.le_refl _) (.cells #[] 5))
  have hR := Lib.hid ((HV.out.next HB.out).next hZ.out)
  go_wp2_with (at_builtin; refine wpList_append_bs (by simp [Region.wanted]) _ _ rfl q1.heap.size _ _ rfl hz.out _ _ rfl _ hR.out hN ?c1 ?c2 ?_; rotate_left 2; intro v p2_0 hv hg; have hb := Lib.hid (hZ.out.grown hg (by simp) (fun j e => (hz.out.lt j e).1)); obtain ⟨a2_0, c2_0, rfl⟩ := bys_num hv (n := 2) (by simp [HLn.out]); have hy := Lib.hid hv; clear hv hg)
  case c1 => simp [HLn.out]
  case c2 => simp
  clear hz hZ hR
  have hw := Lib.hid (HB.out.trans (hb.out.mono HB.out.size))
  refine wp_loop_rounds 6 ?_
  rw [rounds_succ]
  have hr := Lib.hid (rd_one p2_0 191 191 rfl)
  have hz := Lib.hid (own_below hy.out ((Below.refl p2_0.heap.size p2_0).alloc (Nat.le_refl _) (.cells #[.int .u8 191] 5)))
  have hZ := Lib.hid (hb.out.alloc hb.out.size (.cells #[.int .u8 191] 5))
  go_wp2_with (at_builtin; refine wpList_append_bs (by simp [Region.wanted]) _ _ rfl q1.heap.size _ _ rfl hz.out _ _ rfl _ hr.out (nil_some _ _ _) ?c1 ?c2 ?_; rotate_left 2; intro v p2_1 hv hg; have hbn := Lib.hid (hZ.out.grown hg hZ.out.size (fun j e => (hz.out.lt j e).1)); obtain ⟨a2_1, c2_1, rfl⟩ := bys_num hv (n := 3) (by simp [HLn.out]); have hyn := Lib.hid hv; clear hv hg)
  case c1 => simp [HLn.out]
  case c2 => have := hZ.out.size; exact this
  clear hr hz hZ hy hb hw
  have hy := hyn
  have hb := hbn
  have hw := Lib.hid (HB.out.trans (hb.out.mono HB.out.size))
  clear hyn hbn
  rw [rounds_succ]
  have hr := Lib.hid (rd_one p2_1 191 191 rfl)
  have hz := Lib.hid (own_below hy.out ((Below.refl p2_1.heap.size p2_1).alloc (Nat.le_refl _) (.cells #[.int .u8 191] 5)))
  have hZ := Lib.hid (hb.out.alloc hb.out.size (.cells #[.int .u8 191] 5))
  go_wp2_with (at_builtin; refine wpList_append_bs (by simp [Region.wanted]) _ _ rfl q1.heap.size _ _ rfl hz.out _ _ rfl _ hr.out (nil_some _ _ _) ?c1 ?c2 ?_; rotate_left 2; intro v p2_2 hv hg; have hbn := Lib.hid (hZ.out.grown hg hZ.out.size (fun j e => (hz.out.lt j e).1)); obtain ⟨a2_2, c2_2, rfl⟩ := bys_num hv (n := 4) (by simp [HLn.out]); have hyn := Lib.hid hv; clear hv hg)
  case c1 => simp [HLn.out]
  case c2 => have := hZ.out.size; exact this
  clear hr hz hZ hy hb hw
  have hy := hyn
  have hb := hbn
  have hw := Lib.hid (HB.out.trans (hb.out.mono HB.out.size))
  clear hyn hbn
  rw [rounds_succ]
  go_wp2_with (go_at_call 31; refine (HS2.out _ _ hy.out.rd).mono ?_; rintro e q2 ⟨rfl, hs⟩; have HBn := Lib.hid (hw.out.trans (hs.mono hw.out.size)); clear hs)
  clear HB hy hb hw
  have HB := HBn
  clear HBn
  rw [rounds_succ]
  go_wp2_with fail
  go_ret
  exact ⟨rfl, HB.out⟩
set_option maxRecDepth 100000 in
set_option maxHeartbeats 4000000 in
theorem begins_3_4_1 (ad : Addr) (cap x : Nat) (l : List UInt8) (w : World) (hv : RdB w.heap.size w (.slice (some ad) 3 cap) l) (hl : l.length = 3) (hx : w.cell? ad = some (.int .u8 (x : Int))) (h0 : 240 ≤ x) (h1 : x < 248) (s1 : stB (l ++ [128]) = true) :
    Calls Tryd.prog 32 #[.slice (some ad) 3 cap] w fun e w' => e = .returned (.bool true) ∧ Below w.heap.size w w' := by
  have HV := Lib.hid hv
  have hN := nil_some ad 3 cap
  have a2 : decide ((192 : Int) ≤ (x : Int)) = true := decide_eq_true (by omega)
  have b2 : decide ((x : Int) < 224) = false := decide_eq_false (by omega)
  have a3 : decide ((224 : Int) ≤ (x : Int)) = true := decide_eq_true (by omega)
  have b3 : decide ((x : Int) < 240) = false := decide_eq_false (by omega)
  have a4 : decide ((240 : Int) ≤ (x : Int)) = true := decide_eq_true (by omega)
  have b4 : decide ((x : Int) < 248) = true := decide_eq_true (by omega)
  have HS1 := Lib.hid (fun (v : Value) (W : World) (h : RdB W.heap.size W v (l ++ [128])) => by have := stands_any v (l ++ [128]) W h (by simp) (by simp [hl]); rwa [s1] at this)
  have x9 : (x : Int) ≤ 255 := by omega
  have HLn := Lib.hid hl
  clear hl hv h0 h1 s1
  have HB := Lib.hid (Below.refl w.heap.size w)
  go_enter Tryd.func32, Tryd.ntmps32
  go_wp2_with fail
  refine wp_loop_rounds 4 ?_
  rw [rounds_succ]
  have hz := Lib.hid (bys_z w)
  have hZ := Lib.hid ((Below.refl w.heap.size w).alloc (Nat.le_refl _) (.cells #[] 5))
  have hR := Lib.hid ((HV.out.next HB.out).next hZ.out)
  go_wp2_with (at_builtin; refine wpList_append_bs (by simp [Region.wanted]) _ _ rfl w.heap.size _ _ rfl hz.out _ _ rfl _ hR.out hN ?c1 ?c2 ?_; rotate_left 2; intro v p1_0 hv hg; have hb := Lib.hid (hZ.out.grown hg (by simp) (fun j e => (hz.out.lt j e).1)); obtain ⟨a1_0, c1_0, rfl⟩ := bys_num hv (n := 3) (by simp [HLn.out]); have hy := Lib.hid hv; clear hv hg)
  case c1 => simp [HLn.out]
  case c2 => simp
  clear hz hZ hR
  have hw := Lib.hid (HB.out.trans (hb.out.mono HB.out.size))
  refine wp_loop_rounds 6 ?_
  rw [rounds_succ]
  have hr := Lib.hid (rd_one p1_0 128 128 rfl)
  have hz := Lib.hid (own_below hy.out ((Below.refl p1_0.heap.size p1_0).alloc (Nat.le_refl _) (.cells #[.int .u8 128] 5)))
  have hZ := Lib.hid (hb.out.alloc hb.out.size (.cells #[.int .u8 128] 5))
  go_wp2_with (at_builtin; refine wpList_append_bs (by simp [Region.wanted]) _ _ rfl w.heap.size _ _ rfl hz.out _ _ rfl _ hr.out (nil_some _ _ _) ?c1 ?c2 ?_; rotate_left 2; intro v p1_1 hv hg; have hbn := Lib.hid (hZ.out.grown hg hZ.out.size (fun j e => (hz.out.lt j e).1)); obtain ⟨a1_1, c1_1, rfl⟩ := bys_num hv (n := 4) (by simp [HLn.out]); have hyn := Lib.hid hv; clear hv hg)
  case c1 => simp [HLn.out]
  case c2 => have := hZ.out.size; exact this
  clear hr hz hZ hy hb hw
  have hy := hyn
  have hb := hbn
  have hw := Lib.hid (HB.out.trans (hb.out.mono HB.out.size))
  clear hyn hbn
  rw [rounds_succ]
  go_wp2_with (go_at_call 31; refine (HS1.out _ _ hy.out.rd).mono ?_; rintro e q1 ⟨rfl, hs⟩; have HBn := Lib.hid (hw.out.trans (hs.mono hw.out.size)); clear hs)
  go_ret
  exact ⟨rfl, HBn.out⟩
set_option maxRecDepth 100000 in
set_option maxHeartbeats 4000000 in
theorem begins_3_4_2 (ad : Addr) (cap x : Nat) (l : List UInt8) (w : World) (hv : RdB w.heap.size w (.slice (some ad) 3 cap) l) (hl : l.length = 3) (hx : w.cell? ad = some (.int .u8 (x : Int))) (h0 : 240 ≤ x) (h1 : x < 248) (s1 : stB (l ++ [128]) = false) (s2 : stB (l ++ [191]) = true) :
    Calls Tryd.prog 32 #[.slice (some ad) 3 cap] w fun e w' => e = .returned (.bool true) ∧ Below w.heap.size w w' := by
  have HV := Lib.hid hv
  have hN := nil_some ad 3 cap
  have a2 : decide ((192 : Int) ≤ (x : Int)) = true := decide_eq_true (by omega)
  have b2 : decide ((x : Int) < 224) = false := decide_eq_false (by omega)
  have a3 : decide ((224 : Int) ≤ (x : Int)) = true := decide_eq_true (by omega)
  have b3 : decide ((x : Int) < 240) = false := decide_eq_false (by omega)
  have a4 : decide ((240 : Int) ≤ (x : Int)) = true := decide_eq_true (by omega)
  have b4 : decide ((x : Int) < 248) = true := decide_eq_true (by omega)
  have HS1 := Lib.hid (fun (v : Value) (W : World) (h : RdB W.heap.size W v (l ++ [128])) => by have := stands_any v (l ++ [128]) W h (by simp) (by simp [hl]); rwa [s1] at this)
  have HS2 := Lib.hid (fun (v : Value) (W : World) (h : RdB W.heap.size W v (l ++ [191])) => by have := stands_any v (l ++ [191]) W h (by simp) (by simp [hl]); rwa [s2] at this)
  have x9 : (x : Int) ≤ 255 := by omega
  have HLn := Lib.hid hl
  clear hl hv h0 h1 s1 s2
  have HB := Lib.hid (Below.refl w.heap.size w)
  go_enter Tryd.func32, Tryd.ntmps32
  go_wp2_with fail
  refine wp_loop_rounds 4 ?_
  rw [rounds_succ]
  have hz := Lib.hid (bys_z w)
  have hZ := Lib.hid ((Below.refl w.heap.size w).alloc (Nat.le_refl _) (.cells #[] 5))
  have hR := Lib.hid ((HV.out.next HB.out).next hZ.out)
  go_wp2_with (at_builtin; refine wpList_append_bs (by simp [Region.wanted]) _ _ rfl w.heap.size _ _ rfl hz.out _ _ rfl _ hR.out hN ?c1 ?c2 ?_; rotate_left 2; intro v p1_0 hv hg; have hb := Lib.hid (hZ.out.grown hg (by simp) (fun j e => (hz.out.lt j e).1)); obtain ⟨a1_0, c1_0, rfl⟩ := bys_num hv (n := 3) (by simp [HLn.out]); have hy := Lib.hid hv; clear hv hg)
  case c1 => simp [HLn.out]
  case c2 => simp
  clear hz hZ hR
  have hw := Lib.hid (HB.out.trans (hb.out.mono HB.out.size))
  refine wp_loop_rounds 6 ?_
  rw [rounds_succ]
  have hr := Lib.hid (rd_one p1_0 128 128 rfl)
  have hz := Lib.hid (own_below hy.out ((Below.refl p1_0.heap.size p1_0).alloc (Nat.le_refl _) (.cells #[.int .u8 128] 5)))
  have hZ := Lib.hid (hb.out.alloc hb.out.size (.cells #[.int .u8 128] 5))
  go_wp2_with (at_builtin; refine wpList_append_bs (by simp [Region.wanted]) _ _ rfl w.heap.size _ _ rfl hz.out _ _ rfl _ hr.out (nil_some _ _ _) ?c1 ?c2 ?_; rotate_left 2; intro v p1_1 hv hg; have hbn := Lib.hid (hZ.out.grown hg hZ.out.size (fun j e => (hz.out.lt j e).1)); obtain ⟨a1_1, c1_1, rfl⟩ := bys_num hv (n := 4) (by simp [HLn.out]); have hyn := Lib.hid hv; clear hv hg)
  case c1 => simp [HLn.out]
  case c2 => have := hZ.out.size; exact this
  clear hr hz hZ hy hb hw
  have hy := hyn
  have hb := hbn
  have hw := Lib.hid (HB.out.trans (hb.out.mono HB.out.size))
  clear hyn hbn
  rw [rounds_succ]
  go_wp2_with (go_at_call 31; refine (HS1.out _ _ hy.out.rd).mono ?_; rintro e q1 ⟨rfl, hs⟩; have HBn := Lib.hid (hw.out.trans (hs.mono hw.out.size)); clear hs)
  clear HB hy hb hw
  have HB := HBn
  clear HBn
  rw [rounds_succ]
  have hz := Lib.hid (bys_z q1)
  have hZ := Lib.hid ((Below.refl q1.heap.size q1).alloc (Nat.le_refl _) (.cells #[] 5))
  have hR := Lib.hid ((HV.out.next HB.out).next hZ.out)
  go_wp2_with (at_builtin; refine wpList_append_bs (by simp [Region.wanted]) _ _ rfl q1.heap.size _ _ rfl hz.out _ _ rfl _ hR.out hN ?c1 ?c2 ?_; rotate_left 2; intro v p2_0 hv hg; have hb := Lib.hid (hZ.out.grown hg (by simp) (fun j e => (hz.out.lt j e).1)); obtain ⟨a2_0, c2_0, rfl⟩ := bys_num hv (n := 3) (by simp [HLn.out]); have hy := Lib.hid hv; clear hv hg)
  case c1 => simp [HLn.out]
  case c2 => simp
  clear hz hZ hR
  have hw := Lib.hid (HB.out.trans (hb.out.mono HB.out.size))
  refine wp_loop_rounds 6 ?_
  rw [rounds_succ]
  have hr := Lib.hid (rd_one p2_0 191 191 rfl)
  have hz := Lib.hid (own_below hy.out ((Below.refl p2_0.heap.size p2_0).alloc (Nat.le_refl _) (.cells #[.int .u8 191] 5)))
  have hZ := Lib.hid (hb.out.alloc hb.out.size (.cells #[.int .u8 191] 5))
  go_wp2_with (at_builtin; refine wpList_append_bs (by simp [Region.wanted]) _ _ rfl q1.heap.size _ _ rfl hz.out _ _ rfl _ hr.out (nil_some _ _ _) ?c1 ?c2 ?_; rotate_left 2; intro v p2_1 hv hg; have hbn := Lib.hid (hZ.out.grown hg hZ.out.size (fun j e => (hz.out.lt j e).1)); obtain ⟨a2_1, c2_1, rfl⟩ := bys_num hv (n := 4) (by simp [HLn.out]); have hyn := Lib.hid hv; clear hv hg)
  case c1 => simp [HLn.out]
  case c2 => have := hZ.out.size; exact this
  clear hr hz hZ hy hb hw
  have hy := hyn
  have hb := hbn
  have hw := Lib.hid (HB.out.trans (hb.out.mono HB.out.size))
  clear hyn hbn
  rw [rounds_succ]
  go_wp2_with (go_at_call 31; refine (HS2.out _ _ hy.out.rd).mono ?_; rintro e q2 ⟨rfl, hs⟩; have HBn := Lib.hid (hw.out.trans (hs.mono hw.out.size)); clear hs)
  go_ret
  exact ⟨rfl, HBn.out⟩
set_option maxRecDepth 100000 in
set_option maxHeartbeats 4000000 in
theorem begins_3_4_0 (ad : Addr) (cap x : Nat) (l : List UInt8) (w : World) (hv : RdB w.heap.size w (.slice (some ad) 3 cap) l) (hl : l.length = 3) (hx : w.cell? ad = some (.int .u8 (x : Int))) (h0 : 240 ≤ x) (h1 : x < 248) (s1 : stB (l ++ [128]) = false) (s2 : stB (l ++ [191]) = false) :
    Calls Tryd.prog 32 #[.slice (some ad) 3 cap] w fun e w' => e = .returned (.bool false) ∧ Below w.heap.size w w' := by
  have HV := Lib.hid hv
  have hN := nil_some ad 3 cap
  have a2 : decide ((192 : Int) ≤ (x : Int)) = true := decide_eq_true (by omega)
  have b2 : decide ((x : Int) < 224) = false := decide_eq_false (by omega)
  have a3 : decide ((224 : Int) ≤ (x : Int)) = true := decide_eq_true (by omega)
  have b3 : decide ((x : Int) < 240) = false := decide_eq_false (by omega)
  have a4 : decide ((240 : Int) ≤ (x : Int)) = true := decide_eq_true (by omega)
  have b4 : decide ((x : Int) < 248) = true := decide_eq_true (by omega)
  have HS1 := Lib.hid (fun (v : Value) (W : World) (h : RdB W.heap.size W v (l ++ [128])) => by have := stands_any v (l ++ [128]) W h (by simp) (by simp [hl]); rwa [s1] at this)
  have HS2 := Lib.hid (fun (v : Value) (W : World) (h : RdB W.heap.size W v (l ++ [191])) => by have := stands_any v (l ++ [191]) W h (by simp) (by simp [hl]); rwa [s2] at this)
  have x9 : (x : Int) ≤ 255 := by omega
  have HLn := Lib.hid hl
  clear hl hv h0 h1 s1 s2
  have HB := Lib.hid (Below.refl w.heap.size w)
  go_enter Tryd.func32, Tryd.ntmps32
  go_wp2_with fail
  refine wp_loop_rounds 4 ?_
  rw [rounds_succ]
  have hz := Lib.hid (bys_z w)
  have hZ := Lib.hid ((Below.refl w.heap.size w).alloc (Nat.le_refl _) (.cells #[] 5))
  have hR := Lib.hid ((HV.out.next HB.out).next hZ.out)
  go_wp2_with (at_builtin; refine wpList_append_bs (by simp [Region.wanted]) _ _ rfl w.heap.size _ _ rfl hz.out _ _ rfl _ hR.out hN ?c1 ?c2 ?_; rotate_left 2; intro v p1_0 hv hg; have hb := Lib.hid (hZ.out.grown hg (by simp) (fun j e => (hz.out.lt j e).1)); obtain ⟨a1_0, c1_0, rfl⟩ := bys_num hv (n := 3) (by simp [HLn.out]); have hy := Lib.hid hv; clear hv hg)
  case c1 => simp [HLn.out]
  case c2 => simp
  clear hz hZ hR
  have hw := Lib.hid (HB.out.trans (hb.out.mono HB.out.size))
  refine wp_loop_rounds 6 ?_
  rw [rounds_succ]
  have hr := Lib.hid (rd_one p1_0 128 128 rfl)
  have hz := Lib.hid (own_below hy.out ((Below.refl p1_0.heap.size p1_0).alloc (Nat.le_refl _) (.cells #[.int .u8 128] 5)))
  have hZ := Lib.hid (hb.out.alloc hb.out.size (.cells #[.int .u8 128] 5))
  go_wp2_with (at_builtin; refine wpList_append_bs (by simp [Region.wanted]) _ _ rfl w.heap.size _ _ rfl hz.out _ _ rfl _ hr.out (nil_some _ _ _) ?c1 ?c2 ?_; rotate_left 2; intro v p1_1 hv hg; have hbn := Lib.hid (hZ.out.grown hg hZ.out.size (fun j e => (hz.out.lt j e).1)); obtain ⟨a1_1, c1_1, rfl⟩ := bys_num hv (n := 4) (by simp [HLn.out]); have hyn := Lib.hid hv; clear hv hg)
  case c1 => simp [HLn.out]
  case c2 => have := hZ.out.size; exact this
  clear hr hz hZ hy hb hw
  have hy := hyn
  have hb := hbn
  have hw := Lib.hid (HB.out.trans (hb.out.mono HB.out.size))
  clear hyn hbn
  rw [rounds_succ]
  go_wp2_with (go_at_call 31; refine (HS1.out _ _ hy.out.rd).mono ?_; rintro e q1 ⟨rfl, hs⟩; have HBn := Lib.hid (hw.out.trans (hs.mono hw.out.size)); clear hs)
  clear HB hy hb hw
  have HB := HBn
  clear HBn
  rw [rounds_succ]
  have hz := Lib.hid (bys_z q1)
  have hZ := Lib.hid ((Below.refl q1.heap.size q1).alloc (Nat.le_refl _) (.cells #[] 5))
  have hR := Lib.hid ((HV.out.next HB.out).next hZ.out)
  go_wp2_with (at_builtin; refine wpList_append_bs (by simp [Region.wanted]) _ _ rfl q1.heap.size _ _ rfl hz.out _ _ rfl _ hR.out hN ?c1 ?c2 ?_; rotate_left 2; intro v p2_0 hv hg; have hb := Lib.hid (hZ.out.grown hg (by simp) (fun j e => (hz.out.lt j e).1)); obtain ⟨a2_0, c2_0, rfl⟩ := bys_num hv (n := 3) (by simp [HLn.out]); have hy := Lib.hid hv; clear hv hg)
  case c1 => simp [HLn.out]
  case c2 => simp
  clear hz hZ hR
  have hw := Lib.hid (HB.out.trans (hb.out.mono HB.out.size))
  refine wp_loop_rounds 6 ?_
  rw [rounds_succ]
  have hr := Lib.hid (rd_one p2_0 191 191 rfl)
  have hz := Lib.hid (own_below hy.out ((Below.refl p2_0.heap.size p2_0).alloc (Nat.le_refl _) (.cells #[.int .u8 191] 5)))
  have hZ := Lib.hid (hb.out.alloc hb.out.size (.cells #[.int .u8 191] 5))
  go_wp2_with (at_builtin; refine wpList_append_bs (by simp [Region.wanted]) _ _ rfl q1.heap.size _ _ rfl hz.out _ _ rfl _ hr.out (nil_some _ _ _) ?c1 ?c2 ?_; rotate_left 2; intro v p2_1 hv hg; have hbn := Lib.hid (hZ.out.grown hg hZ.out.size (fun j e => (hz.out.lt j e).1)); obtain ⟨a2_1, c2_1, rfl⟩ := bys_num hv (n := 4) (by simp [HLn.out]); have hyn := Lib.hid hv; clear hv hg)
  case c1 => simp [HLn.out]
  case c2 => have := hZ.out.size; exact this
  clear hr hz hZ hy hb hw
  have hy := hyn
  have hb := hbn
  have hw := Lib.hid (HB.out.trans (hb.out.mono HB.out.size))
  clear hyn hbn
  rw [rounds_succ]
  go_wp2_with (go_at_call 31; refine (HS2.out _ _ hy.out.rd).mono ?_; rintro e q2 ⟨rfl, hs⟩; have HBn := Lib.hid (hw.out.trans (hs.mono hw.out.size)); clear hs)
  clear HB hy hb hw
  have HB := HBn
  clear HBn
  rw [rounds_succ]
  go_wp2_with fail
  go_ret
  exact ⟨rfl, HB.out⟩
theorem begins_any (v : Value) (l : List UInt8) (w : World) (hv : RdB w.heap.size w v l) (h1 : l ≠ []) (h4 : l.length < 4) :
    Calls Tryd.prog 32 #[v] w fun e w' => e = .returned (.bool (bgB l)) ∧ Below w.heap.size w w' := by
  obtain ⟨a, cap, rfl, hcap, hc2, hx⟩ := id hv
  obtain ⟨blk, off, rfl, hb, hc⟩ := hx h1
  have hp := List.length_pos_iff.2 h1
  have hx0 : w.cell? ⟨blk, off, none⟩ = some (.int .u8 ((gb l 0 : Nat) : Int)) := by
    have := hc 0 hp
    rw [Nat.add_zero] at this
    rw [this]
    unfold gb
    rw [List.getD_eq_getElem?_getD, List.getElem?_eq_getElem hp]; rfl
  obtain ⟨x, hxx⟩ : ∃ x, x = gb l 0 := ⟨_, rfl⟩
  have hx8 := gb_lt l 0
  rw [← hxx] at hx0 hx8
  obtain ⟨L, hL⟩ : ∃ L, l.length = L := ⟨_, rfl⟩
  have hB : bgB l = if manyN x ≤ L then false else stB (l ++ List.replicate (manyN x - L) 128) || stB (l ++ List.replicate (manyN x - L) 191) := by unfold bgB; rw [← hxx, hL]
  clear hc hx
  rw [hL] at hv hp h4 ⊢
  rw [hB]
  by_cases c0 : x < 192
  · rw [show manyN x = 0 by unfold manyN; rw [if_neg (by omega), if_neg (by omega), if_neg (by omega)], if_pos (Nat.zero_le _)]
    exact begins_lo _ cap x L w hx0 hx8 hp c0
  by_cases c1 : 248 ≤ x
  · rw [show manyN x = 0 by unfold manyN; rw [if_neg (by omega), if_neg (by omega), if_neg (by omega)], if_pos (Nat.zero_le _)]
    exact begins_hi _ cap x L w hx0 hx8 hp c1
  have hLc : L = 1 ∨ L = 2 ∨ L = 3 := by omega
  by_cases c2 : x < 224
  · have hm : manyN x = 2 := by unfold manyN; rw [if_pos (by omega)]
    rw [hm]
    by_cases cl : 2 ≤ L
    · rw [if_pos cl]; exact begins_two _ cap x L w hx0 hx8 (by omega) (by omega) cl
    rw [if_neg cl]
    rcases hLc with rfl | rfl | rfl
    · rw [show l ++ List.replicate (2 - 1) (128 : UInt8) = (l ++ [128]) by simp, show l ++ List.replicate (2 - 1) (191 : UInt8) = (l ++ [191]) by simp]
      cases s1 : stB (l ++ [128])
      · cases s2 : stB (l ++ [191])
        · exact begins_1_2_0 _ cap x l w hv hL hx0 (by omega) (by omega) s1 s2
        · exact begins_1_2_2 _ cap x l w hv hL hx0 (by omega) (by omega) s1 s2
      · exact begins_1_2_1 _ cap x l w hv hL hx0 (by omega) (by omega) s1
    · omega
    · omega
  by_cases c3 : x < 240
  · have hm : manyN x = 3 := by unfold manyN; rw [if_neg (by omega), if_pos (by omega)]
    rw [hm]
    by_cases cl : 3 ≤ L
    · rw [if_pos cl]; exact begins_three _ cap x L w hx0 hx8 (by omega) (by omega) cl
    rw [if_neg cl]
    rcases hLc with rfl | rfl | rfl
    · rw [show l ++ List.replicate (3 - 1) (128 : UInt8) = ((l ++ [128]) ++ [128]) by simp [List.replicate], show l ++ List.replicate (3 - 1) (191 : UInt8) = ((l ++ [191]) ++ [191]) by simp [List.replicate]]
      cases s1 : stB ((l ++ [128]) ++ [128])
      · cases s2 : stB ((l ++ [191]) ++ [191])
        · exact begins_1_3_0 _ cap x l w hv hL hx0 (by omega) (by omega) s1 s2
        · exact begins_1_3_2 _ cap x l w hv hL hx0 (by omega) (by omega) s1 s2
      · exact begins_1_3_1 _ cap x l w hv hL hx0 (by omega) (by omega) s1
    · rw [show l ++ List.replicate (3 - 2) (128 : UInt8) = (l ++ [128]) by simp, show l ++ List.replicate (3 - 2) (191 : UInt8) = (l ++ [191]) by simp]
      cases s1 : stB (l ++ [128])
      · cases s2 : stB (l ++ [191])
        · exact begins_2_3_0 _ cap x l w hv hL hx0 (by omega) (by omega) s1 s2
        · exact begins_2_3_2 _ cap x l w hv hL hx0 (by omega) (by omega) s1 s2
      · exact begins_2_3_1 _ cap x l w hv hL hx0 (by omega) (by omega) s1
    · omega
  · have hm : manyN x = 4 := by unfold manyN; rw [if_neg (by omega), if_neg (by omega), if_pos (by omega)]
    rw [hm]
    rw [if_neg (by omega)]
    rcases hLc with rfl | rfl | rfl
    · rw [show l ++ List.replicate (4 - 1) (128 : UInt8) = (((l ++ [128]) ++ [128]) ++ [128]) by simp [List.replicate], show l ++ List.replicate (4 - 1) (191 : UInt8) = (((l ++ [191]) ++ [191]) ++ [191]) by simp [List.replicate]]
      cases s1 : stB (((l ++ [128]) ++ [128]) ++ [128])
      · cases s2 : stB (((l ++ [191]) ++ [191]) ++ [191])
        · exact begins_1_4_0 _ cap x l w hv hL hx0 (by omega) (by omega) s1 s2
        · exact begins_1_4_2 _ cap x l w hv hL hx0 (by omega) (by omega) s1 s2
      · exact begins_1_4_1 _ cap x l w hv hL hx0 (by omega) (by omega) s1
    · rw [show l ++ List.replicate (4 - 2) (128 : UInt8) = ((l ++ [128]) ++ [128]) by simp [List.replicate], show l ++ List.replicate (4 - 2) (191 : UInt8) = ((l ++ [191]) ++ [191]) by simp [List.replicate]]
      cases s1 : stB ((l ++ [128]) ++ [128])
      · cases s2 : stB ((l ++ [191]) ++ [191])
        · exact begins_2_4_0 _ cap x l w hv hL hx0 (by omega) (by omega) s1 s2
        · exact begins_2_4_2 _ cap x l w hv hL hx0 (by omega) (by omega) s1 s2
      · exact begins_2_4_1 _ cap x l w hv hL hx0 (by omega) (by omega) s1
    · rw [show l ++ List.replicate (4 - 3) (128 : UInt8) = (l ++ [128]) by simp, show l ++ List.replicate (4 - 3) (191 : UInt8) = (l ++ [191]) by simp]
      cases s1 : stB (l ++ [128])
      · cases s2 : stB (l ++ [191])
        · exact begins_3_4_0 _ cap x l w hv hL hx0 (by omega) (by omega) s1 s2
        · exact begins_3_4_2 _ cap x l w hv hL hx0 (by omega) (by omega) s1 s2
      · exact begins_3_4_1 _ cap x l w hv hL hx0 (by omega) (by omega) s1
end Go.Proofs.YtomffjaeafcpdaaDoor
