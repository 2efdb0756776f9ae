/- The reference's Text. -/
import Derived.Test.YtdbampgbbghfkaaDoorArDc
import Derived.Test.YtdbampgbbghfkaaDoorArL
namespace Go.Proofs.YtdbampgbbghfkaaDoor
open Go.RowKit

/-- What the walk keeps. -/
structure KTr (w : World) (s : ByteArray) (k : Nat) (pre : List (Nat × Nat)) (v : Value) (W : World) : Prop where
  bel : Below w.heap.size w W
  res : R5 W w.heap.size 0 0 0 0 (.slice none 0 0)
  own : Ru.Ins 2 W (w.heap.size + 1) v (rnL pre)
  way : Ru.Way (byt s) k pre
  small : pre.length ≤ k
theorem byt_drop7 (s : ByteArray) (k : Nat) : byt (s.extract k s.size) = (byt s).drop k := by
  simp only [byt, ByteArray.data_extract, Array.toList_extract, List.extract_eq_take_drop]
  exact List.take_of_length_le (by simp)
theorem txE_done {s : List UInt8} {pre : List (Nat × Nat)} {k : Nat} (h : Ru.Way s k pre) (hk : ¬ k < s.length) : txV s = vcV 2 (rnL pre) ∧ txE s = vcE (rnL pre) := by
  obtain ⟨h1, h2⟩ := h.done hk
  unfold txV txE
  rw [if_pos h1, if_pos h1, h2]
  exact ⟨rfl, rfl⟩
theorem txE_stop {s : List UInt8} {pre : List (Nat × Nat)} {k : Nat} (h : Ru.Way s k pre) (hk : k < s.length) (hd : (Ru.dec (s.drop k)).2.2 ≠ 0) : txV s = Ar.no ∧ txE s = 6 := by
  have h1 := (h.stop hk hd).1
  unfold txV txE
  rw [if_neg (by omega), if_neg (by omega)]
  exact ⟨rfl, rfl⟩
set_option maxRecDepth 100000 in
set_option maxHeartbeats 8000000 in
theorem rtext_any (s : ByteArray) (w : World) (hs : s.size ≤ 100000) :
    Calls Tryd.prog 12 #[.string s] w (RetE (txV (byt s)) (txE (byt s)) w) := by
  have HR := Lib.hid (R5.new w 0 0 0 0 (.slice none 0 0))
  have HB := Lib.hid (bel1 w (.cells #[.int .i64 0, .int .i64 0, .int .i64 0, .int .i64 0, .slice none 0 0] 27))
  have HDc := Lib.hid (fun t W h => decoded_any t W h)
  go_enter Tryd.func12, Tryd.ntmps12
  go_wp2_with fail
  go_loopg [0, 4] s.size (fun g sv cv wr => ∃ (k : Nat) (pre : List (Nat × Nat)) (t : ByteArray), s.size ≤ k + g ∧ sv = .string t ∧ byt t = (byt s).drop k ∧ KTr w s k pre cv wr)
  case atStart => exact ⟨0, [], s, by omega, rfl, by simp, HB.out, HR.out, World.ownsRow_nil _ _ _ _, Ru.Way.start _, by simp⟩
  case round =>
    obtain ⟨k, pre, t, hkg, rfl, ht, hK⟩ := hrel
    have HK := Lib.hid hK
    have HT := Lib.hid ht
    have hts : t.size = s.size - k := by rw [← byt_len, ht, List.length_drop, byt_len]
    have hpk := hK.small
    clear hK ht HB HR
    have hm := HK.out.own
    obtain ⟨pa, pc, hpv⟩ := ins_form hm
    rw [rnL_len] at hpv
    subst hpv
    clear hm
    by_cases hks : k < s.size
    rotate_left
    · have hz : decide ((0 : Int) < (t.size : Int)) = false := decide_eq_false (by omega)
      have hzN : decide (0 < t.size) = false := decide_eq_false (by omega)
      have HVE := Lib.hid (txE_done HK.out.way (by rw [byt_len]; omega))
      have HR3 := Lib.hid HK.out.res
      have HB3 := Lib.hid HK.out.bel
      have HU := Lib.hid HK.out.own
      have hlt := HR3.out.lt
      clear HT hts hkg hks
      by_cases h4 : 400 < pre.length
      · have hq := vc_long (k := 2) (l := rnL pre) (by rw [rnL_len]; exact h4)
        rw [hq.1, hq.2] at HVE
        clear hq HK
        have y0 := HR3.out.c0
        have y1 := HR3.out.c1
        have y2 := HR3.out.c2
        have y3 := HR3.out.c3
        have y4 := HR3.out.c4
        have f0 := HR3.out.fr 0
        have f1 := HR3.out.fr 1
        have f2 := HR3.out.fr 2
        have f3 := HR3.out.fr 3
        have f4 := HR3.out.fr 4
        have HS := Lib.hid (HR3.out.set 0 0 0 0 (.slice none 0 0))
        have z0 := HS.out.c0
        have z1 := HS.out.c1
        have z2 := HS.out.c2
        have z3 := HS.out.c3
        have z4 := HS.out.c4
        have h4i : decide ((400 : Int) < (pre.length : Int)) = true := decide_eq_true (by omega)
        clear h4 hpk
        go_wp2_with fail
        exact bodyPost_ret (v := .tuple #[A5 0 0 0 0 (.slice none 0 0), .int .i64 15]) (by simp [results, Tryd.results12, go_sem, z0, z1, z2, z3, z4]) rfl (by rw [HVE.out.1, HVE.out.2]; exact retE_no 15 (st5_below _ _ _ _ _ (by omega) HB3.out))
      · have hq : vcV 2 (rnL pre) = ⟨2, 1, (pre.length : Int), 0, rnL pre⟩ ∧ vcE (rnL pre) = 0 := by
          unfold vcV vcE; rw [rnL_len, if_neg h4, if_neg h4]; exact ⟨rfl, rfl⟩
        rw [hq.1, hq.2] at HVE
        clear hq HK
        have y0 := HR3.out.c0
        have y1 := HR3.out.c1
        have y2 := HR3.out.c2
        have y3 := HR3.out.c3
        have y4 := HR3.out.c4
        have f0 := HR3.out.fr 0
        have f1 := HR3.out.fr 1
        have f2 := HR3.out.fr 2
        have f3 := HR3.out.fr 3
        have f4 := HR3.out.fr 4
        have HS := Lib.hid (HR3.out.set 2 1 (pre.length : Int) 0 (.slice pa pre.length pc))
        have z0 := HS.out.c0
        have z1 := HS.out.c1
        have z2 := HS.out.c2
        have z3 := HS.out.c3
        have z4 := HS.out.c4
        have h4i : decide ((400 : Int) < (pre.length : Int)) = false := decide_eq_false (by omega)
        clear h4 hpk
        go_wp2_with fail
        refine bodyPost_ret (v := .tuple #[A5 2 1 (pre.length : Int) 0 (.slice pa pre.length pc), .int .i64 0]) (by simp [results, Tryd.results12, go_sem, z0, z1, z2, z3, z4]) rfl ?_
        rw [HVE.out.1, HVE.out.2]
        exact ⟨_, rfl, (st_new HU.out HR3.out 2 1 (pre.length : Int) 0 (.slice pa pre.length pc)).mono (by omega), st5_below _ _ _ _ _ (by omega) HB3.out⟩
    cases gk with
    | zero => omega
    | succ g =>
      have hz : (0 : Int) < (t.size : Int) := by omega
      have hz0 : 0 < t.size := by omega
      have hk' : k < (byt s).length := by rw [byt_len]; omega
      have HC := Lib.hid (fun W => HDc.out t W hz0)
      rw [HT.out] at HC
      by_cases hd : (Ru.dec ((byt s).drop k)).2.2 = 0
      · obtain ⟨n1, n2, n4, hst⟩ := HK.out.way.step (r := (Ru.dec ((byt s).drop k)).1) (n := (Ru.dec ((byt s).drop k)).2.1) hk' (by rw [← hd])
        rw [show dcR ((byt s).drop k) = ((Ru.dec ((byt s).drop k)).1 : Int) by unfold dcR; rw [if_pos hd], show dcN ((byt s).drop k) = ((Ru.dec ((byt s).drop k)).2.1 : Int) by unfold dcN; rw [if_pos hd]] at HC
        generalize (Ru.dec ((byt s).drop k)).1 = r at HC hst
        generalize (Ru.dec ((byt s).drop k)).2.1 = n at HC hst n1 n2 n4
        have HS := Lib.hid hst
        rw [byt_len] at n2
        have hnt : (n : Int) ≤ (t.size : Int) := by omega
        have hn0 : ((n : Int) == 0) = false := by simp; omega
        have HR3 := Lib.hid HK.out.res
        have HB3 := Lib.hid HK.out.bel
        have HU := Lib.hid HK.out.own
        clear HK hst hd hk'
        have HO3 : Hid (Ru.Ins 2 (wr.alloc (.cells #[.int .i64 (r : Int)] 2)) (w.heap.size + 1) (.slice pa pre.length pc) (rnL pre)) := Lib.hid (Ru.own_below HU.out (bel1 wr (.cells #[.int .i64 (r : Int)] 2)))
        have HOne := Lib.hid (one_new wr (r : Int))
        have hlt := HR3.out.lt
        have hp5 : pre.length ≤ 100000 := by omega
        clear hts
        go_wp2_with (first
          | (at_builtin; refine Ru.wpList_append_is (by simp [Region.wanted]) _ _ rfl (w.heap.size + 1) _ (rnL pre) rfl HO3.out _ [(r : Int)] rfl _ HOne.out.rd.ru HOne.out.nilC (by rw [rnL_len]; simp; omega) (by simp; omega) ?_; intro u w3 hu hg3; have hgb := ins_grown HO3.out (by simp; omega) hg3; rw [← rnL_snoc pre (r, k + n)] at hu; have HU3 := Lib.hid hu; have HB4 := Lib.hid ((HB3.out.trans ((bel1 wr (.cells #[.int .i64 (r : Int)] 2)).mono (by omega))).trans (hgb.mono (by omega))); have HR4 : Hid (R5 w3 w.heap.size 0 0 0 0 (.slice none 0 0)) := (hgb.block w.heap.size (by omega)).trans ((HR3.out.next (bel1 wr (.cells #[.int .i64 (r : Int)] 2)))); clear hu hg3 hgb)
          | (go_at_call 30; refine (HC.out _).mono ?_; rintro e w5 ⟨rfl, rfl⟩)
          | fail)
        go_roundg g
        case measure => omega
        case rel => exact ⟨k + n, pre ++ [(r, k + n)], _, by omega, rfl, by rw [byt_drop7, HT.out, List.drop_drop], HB4.out, HR4.out, HU3.out, HS.out, by simp; omega⟩
      · obtain ⟨hV, hE⟩ := txE_stop HK.out.way hk' hd
        rw [hV, hE]
        rw [show dcR ((byt s).drop k) = 0 by unfold dcR; rw [if_neg hd]; rfl, show dcN ((byt s).drop k) = 0 by unfold dcN; rw [if_neg hd]; rfl] at HC
        have HR3 := Lib.hid HK.out.res
        have HB3 := Lib.hid HK.out.bel
        have hlt := HR3.out.lt
        clear HK hV hE hd hk' hts hkg hks hpk
        have y0 := HR3.out.c0
        have y1 := HR3.out.c1
        have y2 := HR3.out.c2
        have y3 := HR3.out.c3
        have y4 := HR3.out.c4
        have f0 := HR3.out.fr 0
        have f1 := HR3.out.fr 1
        have f2 := HR3.out.fr 2
        have f3 := HR3.out.fr 3
        have f4 := HR3.out.fr 4
        have HS := Lib.hid (HR3.out.set 0 0 0 0 (.slice none 0 0))
        have z0 := HS.out.c0
        have z1 := HS.out.c1
        have z2 := HS.out.c2
        have z3 := HS.out.c3
        have z4 := HS.out.c4
        go_wp2_with (go_at_call 30; refine (HC.out _).mono ?_; rintro e w5 ⟨rfl, rfl⟩)
        exact bodyPost_ret (v := .tuple #[A5 0 0 0 0 (.slice none 0 0), .int .i64 6]) (by simp [results, Tryd.results12, go_sem, z0, z1, z2, z3, z4]) rfl (retE_no 6 (st5_below _ _ _ _ _ (by omega) HB3.out))
end Go.Proofs.YtdbampgbbghfkaaDoor
