/- Grade of the code, at fewer than 20 cells. -/
import Derived.Test.YtpbfbejckhbijaaDoorFiJ
import Derived.Test.YtpbfbejckhbijaaDoorFiAz
namespace Go.Proofs.YtpbfbejckhbijaaDoor
open Go.RowKit Go.Sort

theorem grS_len (z : List Int) : (grS z).length = z.length := by
  unfold grS
  split
  · rename_i h; simp [h]
  · rename_i n h; simp [insSort_size, h]
set_option maxRecDepth 100000 in
set_option maxHeartbeats 16000000 in
theorem igrade_small (A : Ar) (v : Value) (w : World) (hw : Ru.Lay w) (hv : RdI w.heap.size w v A.z) (h1 : oneF A 1 1 = 0) (h0 : 0 < A.z.length) (h20 : A.z.length < 20) :
    Calls Tryd.prog 9 #[A5 A.k A.r A.a A.b v] w (RetE ⟨1, 1, (grS A.z).length, 0, grS A.z⟩ 0 w) := by
  have HFa : Hid (∀ W g, W.heap.size = g → Ru.Lay W → RdI W.heap.size W v A.z → Calls Tryd.prog 20 #[.bool (A.k == 1), .bool (A.r == 1), .slice (some ⟨g, 0, none⟩) 1 1] (W.alloc (.cells #[.int .i64 A.k, .int .i64 A.r, .int .i64 A.a, .int .i64 A.b, v] 25)) fun e w' => e = .returned (.int .i64 0) ∧ Below W.heap.size W w') := fun W g hg g1 g2 => by
    have h := ifault1_any (A.k == 1) (A.r == 1) A v W g hg g1 g2 (by omega)
    rwa [fk_one, h1] at h
  clear h1
  have HPl := Lib.hid (fun W => places_any A.z.length W (by omega))
  have HIn : Hid (∀ W v, RdI W.heap.size W v (grS A.z) → Calls Tryd.prog 28 #[v] W (RetE ⟨1, 1, (grS A.z).length, 0, grS A.z⟩ 0 W)) := fun W v h => by
    have h' := ints_any (grS A.z) v W h
    have hl := grS_len A.z
    rwa [show vcV 1 (grS A.z) = ⟨1, 1, (grS A.z).length, 0, grS A.z⟩ from if_neg (by omega), show vcE (grS A.z) = 0 from if_neg (by omega)] at h'
  have HSs : Hid (∀ (W : World) (blk : Nat), Below w.heap.size w W → w.heap.size < blk → W.cell? ⟨w.heap.size, 4, none⟩ = some v → w.heap.size < W.heap.size → W.rowIs blk 2 A.z.length (zf (upZ A.z.length) A.z.length) → Calls Tryd.prog 25 #[.slice (some ⟨blk, 0, none⟩) A.z.length A.z.length, .func (.func 26) #[] #[.pointer (some ⟨w.heap.size, 0, none⟩)]] W fun e w' => e = .returned (.tuple #[]) ∧ RdI w'.heap.size w' (.slice (some ⟨blk, 0, none⟩) A.z.length A.z.length) (grS A.z) ∧ Below blk W w') := fun W blk hb hbl hc hs hr => by
    obtain ⟨n, hn⟩ : ∃ n, A.z.length = n + 1 := ⟨A.z.length - 1, by omega⟩
    have h := stable_small (n := n) A.z hn (by omega) w.heap.size blk v W hc (rdI_toX (hv.below hb) hb.size (by intro g hg; simp at hg; omega)) (by omega) hs (by rw [← hn]; exact hr)
    rw [← hn] at h
    exact h
  have HK := Lib.hid (MK1.new (A := A) hw hv)
  have HW3 := Lib.hid hw.size
  have x0 := HK.out.box.c0; have x1 := HK.out.box.c1; have x2 := HK.out.box.c2; have x3 := HK.out.box.c3; have x4 := HK.out.box.c4
  obtain ⟨p, cap, rfl, _, _, _⟩ := hv
  clear hw
  have hgl := grS_len A.z
  generalize grS A.z = Z at HIn HSs hgl ⊢
  have HGl := Lib.hid hgl
  clear hgl
  go_enter Tryd.func9, Tryd.ntmps9
  go_wp2_with (first
    | (go_at_call 20; (with_reducible refine (HFa.out _ _ (by first | rfl | simp) HK.out.lay HK.out.rdn).mono ?_); rintro e w1 ⟨rfl, hb⟩; have HK2 := Lib.hid (HK.out.next hb); clear HK x0 x1 x2 x3 x4; have HK := HK2; clear HK2; have x0 := HK.out.box.c0; have x1 := HK.out.box.c1; have x2 := HK.out.box.c2; have x3 := HK.out.box.c3; have x4 := HK.out.box.c4; clear hb)
    | (go_at_call 24; (with_reducible refine (HPl.out _).mono ?_); rintro e w2 ⟨rfl, hr, hb⟩; have HRw := Lib.hid hr; have hlt1 := HK.out.sz; clear hr; have HK2 := Lib.hid (HK.out.next hb); clear HK x0 x1 x2 x3 x4; have HK := HK2; clear HK2; have x0 := HK.out.box.c0; have x1 := HK.out.box.c1; have x2 := HK.out.box.c2; have x3 := HK.out.box.c3; have x4 := HK.out.box.c4; clear hb)
    | (go_at_call 25; (with_reducible refine (HSs.out _ _ HK.out.bel (by omega) x4 (by have := HK.out.sz; omega) HRw.out).mono ?_); rintro e w3 ⟨rfl, hr, hb⟩; have HRz := Lib.hid hr; have HKn := Lib.hid (HK.out.far (hb.mono hlt1) (HK.out.lay.below HW3.out (hb.mono (by omega)))); clear HK hb hr x0 x1 x2 x3 x4; have HK := HKn; clear HKn; have x0 := HK.out.box.c0; have x1 := HK.out.box.c1; have x2 := HK.out.box.c2; have x3 := HK.out.box.c3; have x4 := HK.out.box.c4)
    | (go_at_call 28; (with_reducible refine (HIn.out _ _ HRz.out).mono ?_); rintro e w4 ⟨u, rfl, hu, hb⟩; obtain ⟨q, qc, hq, _, _⟩ := hu.form; have hq2 : u = .slice q Z.length qc := hq; subst hq2; clear hq; have HU : Hid (RdN w3.heap.size w4 (.slice q Z.length qc) Z) := hu; have hlt := HK.out.sz; have HK2 := Lib.hid (HK.out.next hb); clear HK x0 x1 x2 x3 x4; have HK := HK2; clear HK2; have x0 := HK.out.box.c0; have x1 := HK.out.box.c1; have x2 := HK.out.box.c2; have x3 := HK.out.box.c3; have x4 := HK.out.box.c4; clear hu hb; have y0 := HK.out.res.c0; have y1 := HK.out.res.c1; have y2 := HK.out.res.c2; have y3 := HK.out.res.c3; have y4 := HK.out.res.c4; have f0 := HK.out.res.fr 0; have f1 := HK.out.res.fr 1; have f2 := HK.out.res.fr 2; have f3 := HK.out.res.fr 3; have f4 := HK.out.res.fr 4; have HS := Lib.hid (HK.out.res.set 1 1 Z.length 0 (.slice q Z.length qc)); have z0 := HS.out.c0; have z1 := HS.out.c1; have z2 := HS.out.c2; have z3 := HS.out.c3; have z4 := HS.out.c4)
    | fail)
  refine bodyPost_ret (v := .tuple #[A5 1 1 Z.length 0 (.slice q Z.length qc), .int .i64 0]) (by simp [results, Tryd.results9, go_sem, z0, z1, z2, z3, z4]) rfl ?_
  exact ⟨_, rfl, (HU.out.st5 (by omega) _ _ _ _ _).mono (by omega), st5_below _ _ _ _ _ (by omega) HK.out.bel⟩
theorem grS_lit : grS [5, 3, 5, 1] = [3, 1, 0, 2] := by
  show (Sort.insertionSort (ltOf (cfF [5, 3, 5, 1])) (Array.ofFn (fun i : Fin 4 => i)) 0 4).toList.map (fun i => (i.val : Int)) = _
  rw [show Array.ofFn (fun i : Fin 4 => i) = #[0, 1, 2, 3] from rfl]
  unfold Sort.insertionSort
  rw [insOuter_go _ _ _ _ _ (by decide), insOuter_go _ _ _ _ _ (by decide), insOuter_go _ _ _ _ _ (by decide), insOuter_stop _ _ _ _ _ (by decide)]
  decide
end Go.Proofs.YtpbfbejckhbijaaDoor
