/- Int and Ints of both, the law's vector. -/
import Derived.Test.YtdbampgbbghfkaaDoorArH
namespace Go.Proofs.YtdbampgbbghfkaaDoor
open Go.RowKit

def inA (n : Int) : Ar := ⟨1, 0, 0, 0, [n]⟩
set_option maxRecDepth 100000 in
set_option maxHeartbeats 4000000 in
theorem int_any (n : Int) (w : World) : Calls Tryd.prog 9 #[.int .i64 n] w (RetA (inA n) w) := by
  have HF : Hid (∀ (W : World) (g : Nat), W.heap.size = g → Calls Tryd.prog 27 #[.int .i64 1, .int .i64 0, P2 0 0, .slice (some ⟨g, 0, none⟩) 1 1] (W.alloc (.cells #[.int .i64 n] 2)) fun e w' => ∃ u, e = .returned (A5 1 0 0 0 u) ∧ RdN g w' u [n] ∧ Below W.heap.size W w') := fun W g hg => by
    have := filled_any 1 0 0 0 (.slice (some ⟨g, 0, none⟩) 1 1) [n] (W.alloc (.cells #[.int .i64 n] 2)) (one_at hg (Nat.le_refl _)).rd (by simp)
    exact this.mono fun e w' ⟨u, h1, h2, h3⟩ => ⟨u, h1, h2.mono (by simp; omega), (bel1 _ _).trans (h3.mono (by simp))⟩
  have HK : Hid (KV w (.slice none 0 0) [] (w.alloc (.cells #[.int .i64 0, .int .i64 0, .int .i64 0, .int .i64 0, .slice none 0 0] 27))) := Lib.hid (KV.new (rd_nil _ _))
  go_enter Tryd.func9, Tryd.ntmps9
  go_wp2_with (go_at_call 27; refine (HF.out _ _ (by simp)).mono ?_; rintro e w2 ⟨u, rfl, hu, hb⟩; obtain ⟨q, qc, rfl, hqc, hqd⟩ := hu.form; have HU := Lib.hid hu; have HK2 := Lib.hid (HK.out.next hb); clear HK hb hu; have HK := HK2; clear HK2; have y0 := HK.out.res.c0; have y1 := HK.out.res.c1; have y2 := HK.out.res.c2; have y3 := HK.out.res.c3; have y4 := HK.out.res.c4; have f0 := HK.out.res.fr 0; have f1 := HK.out.res.fr 1; have f2 := HK.out.res.fr 2; have f3 := HK.out.res.fr 3; have f4 := HK.out.res.fr 4; have HS := Lib.hid (HK.out.res.set 1 0 0 0 (.slice q 1 qc)); have z0 := HS.out.c0; have z1 := HS.out.c1; have z2 := HS.out.c2; have z3 := HS.out.c3; have z4 := HS.out.c4)
  refine bodyPost_ret (v := A5 1 0 0 0 (.slice q 1 qc)) (by simp [results, Tryd.results9, go_sem, z0, z1, z2, z3, z4]) rfl ?_
  exact ⟨_, rfl, (HU.out.st5 (by omega) _ _ _ _ _).mono (by omega), st5_below _ _ _ _ _ (by omega) HK.out.bel⟩

set_option maxRecDepth 100000 in
set_option maxHeartbeats 4000000 in
theorem rint_any (n : Int) (w : World) : Calls Tryd.prog 10 #[.int .i64 n] w (RetA (inA n) w) := by
  go_enter Tryd.func10, Tryd.ntmps10
  go_wp2
  exact bodyPost_ret (v := A5 1 0 0 0 (.slice (some ⟨w.heap.size + 1, 0, none⟩) 1 1)) (by simp [results, Tryd.results10, go_sem]) rfl ⟨_, rfl, one_at (by simp) (by omega), (bel1 w _).trans ((bel1 _ _).mono (by simp))⟩

set_option maxRecDepth 100000 in
set_option maxHeartbeats 4000000 in
theorem ints_any (l : List Int) (v : Value) (w : World) (hv : RdI w.heap.size w v l) :
    Calls Tryd.prog 6 #[v] w (RetE (vcV 1 l) (vcE l) w) := by
  have HK := Lib.hid (KV.new hv)
  have HF := Lib.hid (fun W h => vector_any 1 l v W h)
  obtain ⟨p, cap, rfl, hcap, hcap2, hcell⟩ := hv
  clear hcell
  generalize vcV 1 l = A at HF ⊢
  generalize vcE l = E at HF ⊢
  obtain ⟨a1, a2, a3, a4, a5⟩ := A
  go_enter Tryd.func6, Tryd.ntmps6
  go_wp2_with (go_at_call 25; refine (HF.out _ HK.out.rd).mono ?_; rintro e w2 ⟨u, rfl, hu, hb⟩; obtain ⟨q, qc, rfl, hqc, hqd⟩ := hu.form; have HU := Lib.hid hu; have hlt := HK.out.res.lt; have HK2 := Lib.hid (HK.out.next hb); clear HK hb hu; have HK := HK2; clear HK2; have y0 := HK.out.res.c0; have y1 := HK.out.res.c1; have y2 := HK.out.res.c2; have y3 := HK.out.res.c3; have y4 := HK.out.res.c4; have f0 := HK.out.res.fr 0; have f1 := HK.out.res.fr 1; have f2 := HK.out.res.fr 2; have f3 := HK.out.res.fr 3; have f4 := HK.out.res.fr 4; have HS := Lib.hid (HK.out.res.set a1 a2 a3 a4 (.slice q a5.length qc)); have z0 := HS.out.c0; have z1 := HS.out.c1; have z2 := HS.out.c2; have z3 := HS.out.c3; have z4 := HS.out.c4)
  refine bodyPost_ret (v := .tuple #[A5 a1 a2 a3 a4 (.slice q a5.length qc), .int .i64 E]) (by simp [results, Tryd.results6, go_sem, z0, z1, z2, z3, z4]) rfl ?_
  exact ⟨_, rfl, (HU.out.st5 hlt _ _ _ _ _).mono (by omega), st5_below _ _ _ _ _ (by omega) HK.out.bel⟩

set_option maxRecDepth 100000 in
set_option maxHeartbeats 4000000 in
theorem rints_any (l : List Int) (v : Value) (w : World) (hv : RdI w.heap.size w v l) (hn : Ru.NilC v) :
    Calls Tryd.prog 7 #[v] w (RetE (vcV 1 l) (vcE l) w) := by
  have HR := Lib.hid hv
  have HN := Lib.hid hn
  obtain ⟨p, cap, rfl, hcap, hcap2, hcell⟩ := hv
  clear hcell hn
  by_cases h4 : 400 < l.length
  · have HV : Hid (vcV 1 l = Ar.no ∧ vcE l = 15) := ⟨if_pos h4, if_pos h4⟩
    rw [HV.out.1, HV.out.2]
    have h4i : (400 : Int) < (l.length : Int) := by omega
    clear h4
    go_enter Tryd.func7, Tryd.ntmps7
    go_wp2
    exact bodyPost_ret (v := .tuple #[A5 0 0 0 0 (.slice none 0 0), .int .i64 15]) (by simp [results, Tryd.results7, go_sem]) rfl (retE_no 15 (bel1 _ _))
  · have HV : Hid (vcV 1 l = ⟨1, 1, l.length, 0, l⟩ ∧ vcE l = 0) := ⟨if_neg h4, if_neg h4⟩
    rw [HV.out.1, HV.out.2]
    have h4i : ¬ (400 : Int) < (l.length : Int) := by omega
    have HR5 := Lib.hid (R5.new w 0 0 0 0 (.slice none 0 0))
    generalize hO : Obj.cells #[Value.int .i64 0, Value.int .i64 0, Value.int .i64 0, Value.int .i64 0, Value.slice none 0 0] 27 = O1
    have hO2 : R5 (w.alloc O1) w.heap.size 0 0 0 0 (.slice none 0 0) := by rw [← hO]; exact HR5.out
    have hsz : (w.alloc O1).heap.size = w.heap.size + 1 := by simp
    have HIl := Lib.hid (ins_lit (w.alloc O1))
    have HB1 := Lib.hid (bel1 w O1)
    rw [hsz] at HIl
    have HRd := Lib.hid ((HR.out.below HB1.out))
    have hb2 := bel1 (w.alloc O1) (.cells #[] 2)
    have HX := Lib.hid (hO2.next hb2)
    have HB2 := Lib.hid (HB1.out.trans (hb2.mono (by simp)))
    have HRd2 := Lib.hid (HRd.out.below (hb2.mono (by simp)))
    have hs3 : ((w.alloc O1).alloc (.cells #[] 2)).heap.size = w.heap.size + 2 := by simp
    clear hO2 hsz hb2 HRd HB1 HR5
    subst hO
    go_enter Tryd.func7, Tryd.ntmps7
    go_wp2_with (at_builtin; refine Ru.wpList_append_is (by simp [Region.wanted]) _ _ rfl (w.heap.size + 1) _ [] rfl HIl.out _ l rfl _ HRd2.out.ru HN.out (by simp; omega) (by omega) ?_; intro u w2 hu hg; rw [List.nil_append] at hu; have hgb := ins_grown HIl.out (by omega) hg; obtain ⟨q, qc, rfl, hqc, hqd⟩ := (ins_new hu).form; have HG : Hid (R5 w2 w.heap.size 0 0 0 0 (.slice none 0 0)) := (hgb.block w.heap.size (by omega)).trans HX.out; have HB := Lib.hid (HB2.out.trans (hgb.mono (by omega))); have HU := Lib.hid (st_new hu HG.out 1 1 (l.length : Int) 0 (.slice q l.length qc)); have y0 := HG.out.c0; have y1 := HG.out.c1; have y2 := HG.out.c2; have y3 := HG.out.c3; have y4 := HG.out.c4; have f0 := HG.out.fr 0; have f1 := HG.out.fr 1; have f2 := HG.out.fr 2; have f3 := HG.out.fr 3; have f4 := HG.out.fr 4; have HS := Lib.hid (HG.out.set 1 1 (l.length : Int) 0 (.slice q l.length qc)); have z0 := HS.out.c0; have z1 := HS.out.c1; have z2 := HS.out.c2; have z3 := HS.out.c3; have z4 := HS.out.c4)
    refine bodyPost_ret (v := .tuple #[A5 1 1 (l.length : Int) 0 (.slice q l.length qc), .int .i64 0]) (by simp [results, Tryd.results7, go_sem, z0, z1, z2, z3, z4]) rfl ?_
    exact ⟨_, rfl, HU.out.mono (by omega), st5_below _ _ _ _ _ (by omega) HB.out⟩

theorem lvector_any (l : List Int) (v : Value) (w : World) (hv : RdI w.heap.size w v l) :
    Calls Tryd.prog 23 #[v] w fun e w' => e = .returned (A5 1 1 l.length 0 v) ∧ Below w.heap.size w w' := by
  obtain ⟨p, cap, rfl, hcap, hcap2, hcell⟩ := hv
  clear hcell
  go_enter Tryd.func23, Tryd.ntmps23
  go_wp2
  exact bodyPost_ret (v := A5 1 1 (l.length : Int) 0 (.slice p l.length cap)) (by simp [results, Tryd.results23, go_sem]) rfl ⟨rfl, bel1 _ _⟩
end Go.Proofs.YtdbampgbbghfkaaDoor
