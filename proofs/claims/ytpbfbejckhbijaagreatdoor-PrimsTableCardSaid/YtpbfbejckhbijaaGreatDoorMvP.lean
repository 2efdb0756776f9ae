/- Helpers of the reference and of the laws of the moves. -/
import Derived.Test.YtpbfbejckhbijaaGreatDoorArR0
import Derived.Test.YtpbfbejckhbijaaGreatDoorMvA
namespace Go.Proofs.YtpbfbejckhbijaaGreatDoor
open Go.RowKit

set_option maxRecDepth 100000 in
set_option maxHeartbeats 4000000 in
theorem vector7_any (k : Int) (l : List Int) (v : Value) (w : World) (hv : RdI w.heap.size w v l) (hn : Ru.NilC v) (hl : l.length ≤ 100000) :
    Calls Tryz.prog 48 #[.int .i64 k, v] w (RetA ⟨k, 1, (l.length : Int), 0, l⟩ w) := by
  have HR := Lib.hid hv
  have HN := Lib.hid hn
  obtain ⟨p, cap, rfl, hcap, hcap2, hcell⟩ := hv
  clear hcell hn
  have HR5 := Lib.hid (R5.new w 0 0 0 0 (.slice none 0 0))
  generalize hO : Obj.cells #[Value.int .i64 0, Value.int .i64 0, Value.int .i64 0, Value.int .i64 0, Value.slice none 0 0] 43 = O1
  have hO2 : R5 (w.alloc O1) w.heap.size 0 0 0 0 (.slice none 0 0) := by rw [← hO]; exact HR5.out
  have hsz : (w.alloc O1).heap.size = w.heap.size + 1 := by simp
  have HIl := Lib.hid (ins_lit (w.alloc O1))
  have HB1 := Lib.hid (bel1 w O1)
  rw [hsz] at HIl
  have HRd := Lib.hid ((HR.out.below HB1.out))
  have hb2 := bel1 (w.alloc O1) (.cells #[] 2)
  have HX := Lib.hid (hO2.next hb2)
  have HB2 := Lib.hid (HB1.out.trans (hb2.mono (by simp)))
  have HRd2 := Lib.hid (HRd.out.below (hb2.mono (by simp)))
  have hs3 : ((w.alloc O1).alloc (.cells #[] 2)).heap.size = w.heap.size + 2 := by simp
  clear hO2 hsz hb2 HRd HB1 HR5
  subst hO
  go_enter Tryz.func48, Tryz.ntmps48
  go_wp2_with (at_builtin; refine Ru.wpList_append_is (by simp [Region.wanted]) _ _ rfl (w.heap.size + 1) _ [] rfl HIl.out _ l rfl _ HRd2.out.ru HN.out (by simp; omega) (by omega) ?_; intro u w2 hu hg; rw [List.nil_append] at hu; have hgb := ins_grown HIl.out (by omega) hg; obtain ⟨q, qc, rfl, hqc, hqd⟩ := (ins_new hu).form; have HG : Hid (R5 w2 w.heap.size 0 0 0 0 (.slice none 0 0)) := (hgb.block w.heap.size (by omega)).trans HX.out; have HB := Lib.hid (HB2.out.trans (hgb.mono (by omega))); have HU := Lib.hid (st_new hu HG.out k 1 (l.length : Int) 0 (.slice q l.length qc)); have y0 := HG.out.c0; have y1 := HG.out.c1; have y2 := HG.out.c2; have y3 := HG.out.c3; have y4 := HG.out.c4; have f0 := HG.out.fr 0; have f1 := HG.out.fr 1; have f2 := HG.out.fr 2; have f3 := HG.out.fr 3; have f4 := HG.out.fr 4; have HS := Lib.hid (HG.out.set k 1 (l.length : Int) 0 (.slice q l.length qc)); have z0 := HS.out.c0; have z1 := HS.out.c1; have z2 := HS.out.c2; have z3 := HS.out.c3; have z4 := HS.out.c4)
  refine bodyPost_ret (v := A5 k 1 (l.length : Int) 0 (.slice q l.length qc)) (by simp [results, Tryz.results48, go_sem, z0, z1, z2, z3, z4]) rfl ?_
  exact ⟨_, rfl, HU.out.mono (by omega), st5_below _ _ _ _ _ (by omega) HB.out⟩

set_option maxRecDepth 100000 in
set_option maxHeartbeats 4000000 in
theorem matrix7_any (k : Int) (m n : Int) (l : List Int) (v : Value) (w : World) (hv : RdI w.heap.size w v l) (hn : Ru.NilC v) (hl : l.length ≤ 100000) :
    Calls Tryz.prog 130 #[.int .i64 k, .int .i64 m, .int .i64 n, v] w (RetA ⟨k, 2, m, n, l⟩ w) := by
  have HR := Lib.hid hv
  have HN := Lib.hid hn
  obtain ⟨p, cap, rfl, hcap, hcap2, hcell⟩ := hv
  clear hcell hn
  have HR5 := Lib.hid (R5.new w 0 0 0 0 (.slice none 0 0))
  generalize hO : Obj.cells #[Value.int .i64 0, Value.int .i64 0, Value.int .i64 0, Value.int .i64 0, Value.slice none 0 0] 43 = O1
  have hO2 : R5 (w.alloc O1) w.heap.size 0 0 0 0 (.slice none 0 0) := by rw [← hO]; exact HR5.out
  have hsz : (w.alloc O1).heap.size = w.heap.size + 1 := by simp
  have HIl := Lib.hid (ins_lit (w.alloc O1))
  have HB1 := Lib.hid (bel1 w O1)
  rw [hsz] at HIl
  have HRd := Lib.hid ((HR.out.below HB1.out))
  have hb2 := bel1 (w.alloc O1) (.cells #[] 2)
  have HX := Lib.hid (hO2.next hb2)
  have HB2 := Lib.hid (HB1.out.trans (hb2.mono (by simp)))
  have HRd2 := Lib.hid (HRd.out.below (hb2.mono (by simp)))
  have hs3 : ((w.alloc O1).alloc (.cells #[] 2)).heap.size = w.heap.size + 2 := by simp
  clear hO2 hsz hb2 HRd HB1 HR5
  subst hO
  go_enter Tryz.func130, Tryz.ntmps130
  go_wp2_with (at_builtin; refine Ru.wpList_append_is (by simp [Region.wanted]) _ _ rfl (w.heap.size + 1) _ [] rfl HIl.out _ l rfl _ HRd2.out.ru HN.out (by simp; omega) (by omega) ?_; intro u w2 hu hg; rw [List.nil_append] at hu; have hgb := ins_grown HIl.out (by omega) hg; obtain ⟨q, qc, rfl, hqc, hqd⟩ := (ins_new hu).form; have HG : Hid (R5 w2 w.heap.size 0 0 0 0 (.slice none 0 0)) := (hgb.block w.heap.size (by omega)).trans HX.out; have HB := Lib.hid (HB2.out.trans (hgb.mono (by omega))); have HU := Lib.hid (st_new hu HG.out k 2 m n (.slice q l.length qc)); have y0 := HG.out.c0; have y1 := HG.out.c1; have y2 := HG.out.c2; have y3 := HG.out.c3; have y4 := HG.out.c4; have f0 := HG.out.fr 0; have f1 := HG.out.fr 1; have f2 := HG.out.fr 2; have f3 := HG.out.fr 3; have f4 := HG.out.fr 4; have HS := Lib.hid (HG.out.set k 2 m n (.slice q l.length qc)); have z0 := HS.out.c0; have z1 := HS.out.c1; have z2 := HS.out.c2; have z3 := HS.out.c3; have z4 := HS.out.c4)
  refine bodyPost_ret (v := A5 k 2 m n (.slice q l.length qc)) (by simp [results, Tryz.results130, go_sem, z0, z1, z2, z3, z4]) rfl ?_
  exact ⟨_, rfl, HU.out.mono (by omega), st5_below _ _ _ _ _ (by omega) HB.out⟩

set_option maxRecDepth 100000 in
set_option maxHeartbeats 4000000 in
theorem lints_any (l : List Int) (v : Value) (w : World) (hv : RdI w.heap.size w v l) (hn : Ru.NilC v) (hl : l.length ≤ 100000) : Calls Tryz.prog 30 #[v] w (RetA (vecA 1 l) w) := by
  have HR5 := Lib.hid (R5.new w 0 0 0 0 (.slice none 0 0))
  have HB1 := Lib.hid (bel1 w (.cells #[.int .i64 0, .int .i64 0, .int .i64 0, .int .i64 0, .slice none 0 0] 43))
  have HC := Lib.hid (fun W h => vector7_any 1 l v W h hn hl)
  have HV := Lib.hid (hv.next (bel1 w (.cells #[.int .i64 0, .int .i64 0, .int .i64 0, .int .i64 0, .slice none 0 0] 43)))
  obtain ⟨p, cap, rfl, _, _, _⟩ := hv
  clear hn
  go_enter Tryz.func30, Tryz.ntmps30
  go_wp2_with (go_at_call 48; (with_reducible refine (HC.out _ HV.out).mono ?_); rintro e w1 ⟨u, rfl, hu, hb⟩; obtain ⟨q, qc, hq, _, _⟩ := hu.form; have hq2 : u = .slice q l.length qc := hq; subst hq2; clear hq; have HU := Lib.hid hu; have HG := Lib.hid (HR5.out.next hb); have HB := Lib.hid (HB1.out.trans (hb.mono HB1.out.size)); have hlt := HR5.out.lt; clear hu hb HR5 HB1; have y0 := HG.out.c0; have y1 := HG.out.c1; have y2 := HG.out.c2; have y3 := HG.out.c3; have y4 := HG.out.c4; have f0 := HG.out.fr 0; have f1 := HG.out.fr 1; have f2 := HG.out.fr 2; have f3 := HG.out.fr 3; have f4 := HG.out.fr 4; have HS := Lib.hid (HG.out.set 1 1 (l.length : Int) 0 (.slice q l.length qc)); have z0 := HS.out.c0; have z1 := HS.out.c1; have z2 := HS.out.c2; have z3 := HS.out.c3; have z4 := HS.out.c4)
  refine bodyPost_ret (v := A5 1 1 l.length 0 (.slice q l.length qc)) (by simp [results, Tryz.results30, go_sem, z0, z1, z2, z3, z4]) rfl ?_
  exact ⟨_, rfl, (HU.out.st5 hlt _ _ _ _ _).mono (by simp), st5_below _ _ _ _ _ (by omega) HB.out⟩

theorem far7_any (A : Ar) (v : Value) (w : World) (hv : RdI w.heap.size w v A.z) :
    Calls Tryz.prog 40 #[A5 A.k A.r A.a A.b v] w fun e w' => e = .returned (.bool (decide (405 < A.z.length))) ∧ Below w.heap.size w w' := by
  obtain ⟨k, r, a, b, z⟩ := A
  obtain ⟨p, cap, rfl, hcap, hcap2, hcell⟩ := hv
  simp only
  clear hcell
  go_enter Tryz.func40, Tryz.ntmps40
  go_wp2
  go_ret
  exact ⟨ret_bool (by rw [Bool.eq_iff_iff]; simp; omega), bel1 _ _⟩

set_option maxRecDepth 100000 in
set_option maxHeartbeats 4000000 in
theorem alike_eq (A : Ar) (E : Int) (v u : Value) (w : World) (hv : RdI w.heap.size w v A.z) (hu : RdI w.heap.size w u A.z) (hl : A.z.length ≤ 1000000) :
    Calls Tryz.prog 26 #[A5 A.k A.r A.a A.b v, .int .i64 E, A5 A.k A.r A.a A.b u, .int .i64 E] w fun e w' => e = .returned (.bool true) ∧ Below w.heap.size w w' := by
  have HS := Lib.hid (fun v u W h1 h2 => same_eq A.k A.r A.a A.b A.z v u W h1 h2 hl)
  have HK := Lib.hid (KD.new hv hu)
  have x0 := HK.out.b0.c0; have x1 := HK.out.b0.c1; have x2 := HK.out.b0.c2; have x3 := HK.out.b0.c3; have x4 := HK.out.b0.c4
  have y0 := HK.out.b1.c0; have y1 := HK.out.b1.c1; have y2 := HK.out.b1.c2; have y3 := HK.out.b1.c3; have y4 := HK.out.b1.c4
  obtain ⟨p, cap, rfl, _, _, _⟩ := hv
  obtain ⟨q, cap', rfl, _, _, _⟩ := hu
  go_enter Tryz.func26, Tryz.ntmps26
  go_wp2_with (go_at_call 29; (with_reducible refine (HS.out _ _ _ HK.out.rd0 HK.out.rd1).mono ?_); rintro e w1 ⟨rfl, hb⟩; have HB := Lib.hid (HK.out.next hb).bel; clear hb)
  go_ret
  exact ⟨rfl, HB.out⟩

end Go.Proofs.YtpbfbejckhbijaaGreatDoor
