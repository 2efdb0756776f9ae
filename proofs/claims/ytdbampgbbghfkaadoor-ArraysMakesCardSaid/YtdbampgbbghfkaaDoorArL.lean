/- Text of the code. -/
import Derived.Test.YtdbampgbbghfkaaDoorArJ
import Derived.Test.YtdbampgbbghfkaaDoorArK
import Derived.Test.YtdbampgbbghfkaaDoorShelf
import Derived.Lib.OthersKept
import Derived.Laws.RangeString
namespace Go.Proofs.YtdbampgbbghfkaaDoor
open Go.RowKit Go.Shelf

/-- A row of runes of the call's own. -/
def Rns (w : World) (base : Nat) (v : Value) (l : List Int) : Prop := w.ownsRow base 21 1 v l.length (l.map vr)
theorem infoR : (Tryd.prog.info? 21).map (fun i => (i.zero, i.size, i.bytes)) = some (some (.int .i32 0), 1, 4) := by kernel_rfl
theorem Rns.rd {w : World} {B : Nat} {v : Value} {l : List Int} (h : Rns w B v l) : RdR w.heap.size w v l := by
  rcases h.2 with ⟨rfl, h0⟩ | ⟨g, cap, cur, rfl, hg, hh, r1, r2, r3, r4⟩
  · have : l = [] := List.length_eq_zero_iff.1 h0
    subst this
    exact ⟨none, 0, rfl, Nat.le_refl _, by omega, fun h => absurd rfl h⟩
  · have hlt : g < w.heap.size := (Array.getElem?_eq_some_iff.1 hh).1
    refine ⟨_, cap, rfl, r1, by unfold maxLen at r2; omega, fun _ => ⟨g, 0, rfl, hlt, fun j hj => ?_⟩⟩
    have := World.ownsRow.cellAt h j (by omega)
    rw [Nat.zero_add, this]
    simp [List.getElem?_eq_getElem hj]
theorem Rns.len {w : World} {B : Nat} {v : Value} {l : List Int} (h : Rns w B v l) : ∃ a c, v = .slice a l.length c := by
  rcases h.2 with ⟨rfl, h0⟩ | ⟨g, cap, cur, rfl, _⟩
  · exact ⟨none, 0, by rw [show l.length = 0 from h0]⟩
  · exact ⟨_, _, rfl⟩
theorem Rns.iterAt {w : World} {B : Nat} {v : Value} {l : List Int} {k : Nat} {s : ByteArray} {pos : Nat} (h : Rns w B v l) (hk : w.heap[k]? = some (.stringIter s pos)) (pos' : Nat) : Rns (w.iterAt k s pos') B v l := by
  refine ⟨h.1, ?_⟩
  rcases h.2 with h0 | ⟨g, cap, cur, hv, hb, hg, rest⟩
  · exact .inl h0
  · refine .inr ⟨g, cap, cur, hv, hb, ?_, rest⟩
    rw [Lib.iterAt_other _ _ _ _ _ (fun e => by subst e; rw [hk] at hg; cases hg)]
    exact hg
theorem Rns.ne_iter {w : World} {B : Nat} {v : Value} {l : List Int} {k : Nat} {s : ByteArray} {pos : Nat} (h : Rns w B v l) (hk : w.heap[k]? = some (.stringIter s pos)) : some k ≠ v.ownBlock := by
  rcases h.2 with ⟨rfl, _⟩ | ⟨g, cap, cur, rfl, hb, hg, rest⟩
  · simp [Value.ownBlock]
  · intro e
    simp only [Value.ownBlock, Option.some.injEq] at e
    subst e
    rw [hk] at hg
    cases hg
theorem wpList_append_r {w : World} {ops : Array Oper} {rest : List Oper} {o : Oper} {a : Act} {Q : Exit → Act → World → Prop} (hgd : Region.wanted o (yielded ops a.tmps) = true) (s x : Operand)
    (ho : o.op = .call { callee := .builtin .append, args := #[s, x], argTypes := #[54, 54] }) (B : Nat) (v : Value) (l : List Int) (hs : a.eval s = v) (hown : Rns w B v l)
    (g : Nat) (c : Int) (hx : a.eval x = .slice (some ⟨g, 0, none⟩) 1 1) (hc : w.cell? ⟨g, 0, none⟩ = some (.int .i32 c)) (hl : l.length ≤ 1000000) (hB : B ≤ w.heap.size)
    (h : ∀ v' w', Rns w' B v' (l ++ [c]) → w.grownBy w' v.ownBlock → wpList Tryd.prog ops Q rest (a.put o.dst v') w') : wpList Tryd.prog ops Q (o :: rest) a w := by
  obtain ⟨i0, hi, hz0, hz1, hz2⟩ := info_parts infoR
  refine Ru.wpList_met hgd fun K hK => wp_append_own _ s x 54 ho B 21 i0 (.int .i32 0) 1 4 Tryd.underlying54 hi hz0 hz1 hz2 rfl (by decide) v l.length _ hs hown ⟨g, 0, none⟩ 1 1 [.int .i32 c] hx (by simp) ?_ (by simp [Value.oneCell']) (by unfold maxLen; omega) (by omega) hB ?_
  · intro j z hz
    match j, hz with
    | 0, hz => simp at hz; subst hz; simpa [Addr.add] using hc
    | (j + 1), hz => simp at hz
  · intro v' w' hown' hg _
    exact hK _ _ (h v' w' (by unfold Rns; rw [List.length_append, List.map_append]; exact hown') hg)
/-- What a walk of Text keeps. -/
structure KT (w : World) (K : Nat) (s : ByteArray) (k : Nat) (pre : List (Nat × Nat)) (v : Value) (W : World) : Prop where
  bel : Below w.heap.size w W
  res : R5 W w.heap.size 0 0 0 0 (.slice none 0 0)
  own : Rns W (w.heap.size + 1) v (rnL pre)
  way : Ru.Way (byt s) k pre
  bd : ∀ c ∈ rnL pre, 0 ≤ c ∧ c ≤ 1114111
  it : W.heap[K]? = some (.stringIter s k)
  small : pre.length ≤ 400
theorem rnL_snoc (p : List (Nat × Nat)) (x : Nat × Nat) : rnL (p ++ [x]) = rnL p ++ [(x.1 : Int)] := by simp [rnL]
theorem rnL_len (p : List (Nat × Nat)) : (rnL p).length = p.length := by simp [rnL]
theorem vc_long {k : Int} {l : List Int} (h : 400 < l.length) : vcV k l = Ar.no ∧ vcE l = 15 := ⟨if_pos h, if_pos h⟩
theorem bd_snoc {l : List Int} (h : ∀ c ∈ l, 0 ≤ c ∧ c ≤ 1114111) {r : Nat} (hr : r ≤ 1114111) : ∀ c ∈ l ++ [(r : Int)], 0 ≤ c ∧ c ≤ 1114111 := by
  intro c hc
  rcases List.mem_append.1 hc with hc | hc
  · exact h c hc
  · simp at hc; subst hc; omega
theorem long_pre {s : List UInt8} {k : Nat} {pre : List (Nat × Nat)} (h : Ru.Way s k pre) (hl : 400 < pre.length) : 400 < (rnL (Ru.rns s)).length := by
  rw [rnL_len, h.rn, List.length_append]; omega

set_option maxRecDepth 100000 in
set_option maxHeartbeats 4000000 in
theorem text_any (s : ByteArray) (w : World) (hT : Lib.Utf8Tabs 0 1 (w.alloc (.cells #[.int .i64 0, .int .i64 0, .int .i64 0, .int .i64 0, .slice none 0 0] 27))) (hs : s.size ≤ 9223372036854775807) :
    Calls Tryd.prog 11 #[.string s] w (RetE (txV (byt s)) (txE (byt s)) w) := by
  have HVa : Hid (Calls Tryd.prog 28 #[.string s] (w.alloc (.cells #[.int .i64 0, .int .i64 0, .int .i64 0, .int .i64 0, .slice none 0 0] 27)) fun e w' => e = .returned (.bool (decide (Ru.endA (byt s) = s.size))) ∧ Below (w.heap.size + 1) (w.alloc (.cells #[.int .i64 0, .int .i64 0, .int .i64 0, .int .i64 0, .slice none 0 0] 27)) w') := by
    have := Any.utf8_ValidString Tryd.laysValid s _ hs hT
    rw [show s.data.toList = byt s from rfl, valid_end, byt_len] at this
    exact this.mono fun e w' ⟨h1, h2⟩ => ⟨h1, by simpa using h2⟩
  have HR := Lib.hid (R5.new w 0 0 0 0 (.slice none 0 0))
  have HB := Lib.hid (bel1 w (.cells #[.int .i64 0, .int .i64 0, .int .i64 0, .int .i64 0, .slice none 0 0] 27))
  clear hT
  by_cases hv : Ru.endA (byt s) = s.size
  · have HV : Hid (txV (byt s) = vcV 2 (rnL (Ru.rns (byt s))) ∧ txE (byt s) = vcE (rnL (Ru.rns (byt s)))) := by
      unfold Hid txV txE; rw [byt_len, if_pos hv, if_pos hv]; exact ⟨rfl, rfl⟩
    rw [HV.out.1, HV.out.2]
    rw [decide_eq_true hv] at HVa
    have HE := Lib.hid hv
    clear hv HV
    have HVec := Lib.hid (fun l v W h1 h2 => vectorR_any 2 l v W h1 h2)
    go_enter Tryd.func11, Tryd.ntmps11
    go_wp2_with (go_at_call 28; refine HVa.out.mono ?_; rintro e W0 ⟨rfl, hb⟩; have HB0 := Lib.hid (HB.out.trans (hb.mono (by omega))); have HR0 : Hid (R5 W0 w.heap.size 0 0 0 0 (.slice none 0 0)) := (hb.block w.heap.size (by omega)).trans HR.out; clear HB HR HVa hb)
    have hK : w.heap.size < W0.heap.size := HR0.out.lt
    go_loopg [4] s.size (fun g v wr => ∃ (k : Nat) (pre : List (Nat × Nat)), s.size ≤ k + g ∧ KT w W0.heap.size s k pre v wr)
    case atStart => exact ⟨0, [], by omega, HB0.out.trans ((bel1 W0 _).mono HB0.out.size), HR0.out.next (bel1 W0 _), World.ownsRow_nil _ _ _ _, Ru.Way.start _, by simp [rnL], World.iter_heap W0 s 0, by simp⟩
    case round =>
      obtain ⟨k, pre, hg, hK1⟩ := hrel
      have HK := Lib.hid hK1
      have hit := hK1.it
      obtain ⟨pa, pc, hpv⟩ := hK1.own.len
      rw [rnL_len] at hpv
      subst hpv
      have hsm := hK1.small
      clear hK1 HB0 HR0
      by_cases hk : k < s.size
      · have hk' : k < (byt s).length := by rw [byt_len]; exact hk
        have hd0 : (Ru.dec ((byt s).drop k)).2.2 = 0 := by
          rcases Nat.eq_zero_or_pos (Ru.dec ((byt s).drop k)).2.2 with h | h
          · exact h
          · have := (HK.out.way.stop hk' (by omega)).1
            have := HE.out
            omega
        have hde := ((dec_at s k hk).1 hd0).1
        have hrb := (Ru.dec_b ((byt s).drop k)).1
        obtain ⟨n1, n2, n4, hst⟩ := HK.out.way.step (r := (Ru.dec ((byt s).drop k)).1) (n := (Ru.dec ((byt s).drop k)).2.1) hk' (by rw [← hd0])
        have hnx := fun ty => Lib.run_next_any_at (P := Tryd.prog) wr W0.heap.size s k ty hit hk
        rw [hde] at hnx
        simp only at hnx
        generalize (Ru.dec ((byt s).drop k)).1 = r at hnx hrb hst
        generalize (Ru.dec ((byt s).drop k)).2.1 = n at hnx hst n1 n2 n4
        clear hd0 hde
        have HS := Lib.hid hst
        have HRb := Lib.hid hrb
        clear hst hrb hk'
        cases gk with
        | zero => omega
        | succ g =>
          have hw2 : KT w W0.heap.size s (k + n) pre (.slice pa pre.length pc) (wr.iterAt W0.heap.size s (k + n)) ∨ True := .inr trivial
          have HO2 := Lib.hid (HK.out.own.iterAt hit (k + n))
          have HB2 := Lib.hid (Lib.below_iterAt HK.out.bel (Nat.le_of_lt hK) s (k + n))
          have HR2 : Hid (R5 (wr.iterAt W0.heap.size s (k + n)) w.heap.size 0 0 0 0 (.slice none 0 0)) := (Lib.iterAt_other _ _ _ _ _ (by omega)).trans HK.out.res
          have HI2 := Lib.hid (Lib.iterAt_heap wr W0.heap.size s k (k + n) hit)
          have hs2 : w.heap.size + 1 ≤ (wr.iterAt W0.heap.size s (k + n)).heap.size := by have := HR2.out.lt; omega
          generalize hW2 : wr.iterAt W0.heap.size s (k + n) = W2 at hnx HO2 HB2 HR2 HI2 hs2
          clear hW2 hw2 hit
          have HBd := Lib.hid HK.out.bd
          clear HK
          have HO3 : Hid (Rns (W2.alloc (.cells #[.int .i32 (r : Int)] 21)) (w.heap.size + 1) (.slice pa pre.length pc) (rnL pre)) := Lib.hid (Ru.own_below HO2.out (bel1 W2 (.cells #[.int .i32 (r : Int)] 21)))
          by_cases h4 : pre.length < 400
          · go_wp2_with (at_builtin; refine wpList_append_r (by simp [Region.wanted]) _ _ rfl (w.heap.size + 1) _ (rnL pre) rfl HO3.out W2.heap.size (r : Int) rfl (by simp [World.cell?_alloc_new]) (by rw [rnL_len]; omega) (by simp; omega) ?_; intro u w3 hu hg3; have hgb := (Below.refl (w.heap.size + 1) (W2.alloc (.cells #[.int .i32 (r : Int)] 21))).grown hg3 (by simp; omega) (fun j e => (World.ownsRow.lt HO3.out j e).1); have HI3 : Hid (w3.heap[W0.heap.size]? = some (.stringIter s (k + n))) := (hg3.block _ (by have := (Array.getElem?_eq_some_iff.1 HI2.out).1; simp; omega) (HO3.out.ne_iter (((bel1 W2 _).block _ (Array.getElem?_eq_some_iff.1 HI2.out).1).trans HI2.out))).trans (((bel1 W2 _).block _ (Array.getElem?_eq_some_iff.1 HI2.out).1).trans HI2.out); have HR3 : Hid (R5 w3 w.heap.size 0 0 0 0 (.slice none 0 0)) := (hgb.block w.heap.size (by omega)).trans (HR2.out.alloc _); have HB3 := Lib.hid ((HB2.out.alloc HB2.out.size (.cells #[.int .i32 (r : Int)] 21)).trans (hgb.mono (by omega))); rw [← rnL_snoc pre (r, k + n)] at hu; obtain ⟨qa, qc, hqv⟩ := hu.len; rw [rnL_len, List.length_append] at hqv; simp only [List.length_cons, List.length_nil] at hqv; subst hqv; have HU := Lib.hid hu; clear hu hg3 hgb)
            go_roundg g
            case measure => omega
            case rel => exact ⟨k + n, pre ++ [(r, k + n)], by omega, HB3.out, HR3.out, HU.out, HS.out, by rw [rnL_snoc]; exact bd_snoc HBd.out HRb.out, HI3.out, by simp; omega⟩
          · have HG : Hid (vcV 2 (rnL (Ru.rns (byt s))) = vcV 2 (rnL (pre ++ [(r, k + n)])) ∧ vcE (rnL (Ru.rns (byt s))) = vcE (rnL (pre ++ [(r, k + n)]))) := by
              have l1 := vc_long (k := 2) (long_pre HS.out (by simp; omega))
              have l2 : 400 < (rnL (pre ++ [(r, k + n)])).length := by rw [rnL_len]; simp; omega
              have l3 := vc_long (k := 2) l2
              exact ⟨l1.1.trans l3.1.symm, l1.2.trans l3.2.symm⟩
            have HBp : Hid (∀ c ∈ rnL (pre ++ [(r, k + n)]), 0 ≤ c ∧ c ≤ 1114111) := by unfold Hid; rw [rnL_snoc]; exact bd_snoc HBd.out HRb.out
            have h401 : pre.length + 1 = 401 := by omega
            generalize hA : vcV 2 (rnL (pre ++ [(r, k + n)])) = A at HG
            generalize hE : vcE (rnL (pre ++ [(r, k + n)])) = E at HG
            have HVc : Hid (∀ (v : Value) (W : World), RdR W.heap.size W v (rnL (pre ++ [(r, k + n)])) → Calls Tryd.prog 29 #[.int .i64 2, v] W (RetE A E W)) := fun v W h => by rw [← hA, ← hE]; exact HVec.out _ v W h HBp.out
            clear hA hE HVec
            obtain ⟨a1, a2, a3, a4, a5⟩ := A
            go_wp2_with (first
              | (at_builtin; refine wpList_append_r (by simp [Region.wanted]) _ _ rfl (w.heap.size + 1) _ (rnL pre) rfl HO3.out W2.heap.size (r : Int) rfl (by simp [World.cell?_alloc_new]) (by rw [rnL_len]; omega) (by simp; omega) ?_; intro u w3 hu hg3; have hgb := (Below.refl (w.heap.size + 1) (W2.alloc (.cells #[.int .i32 (r : Int)] 21))).grown hg3 (by simp; omega) (fun j e => (World.ownsRow.lt HO3.out j e).1); have HI3 : Hid (w3.heap[W0.heap.size]? = some (.stringIter s (k + n))) := (hg3.block _ (by have := (Array.getElem?_eq_some_iff.1 HI2.out).1; simp; omega) (HO3.out.ne_iter (((bel1 W2 _).block _ (Array.getElem?_eq_some_iff.1 HI2.out).1).trans HI2.out))).trans (((bel1 W2 _).block _ (Array.getElem?_eq_some_iff.1 HI2.out).1).trans HI2.out); have HR3 : Hid (R5 w3 w.heap.size 0 0 0 0 (.slice none 0 0)) := (hgb.block w.heap.size (by omega)).trans (HR2.out.alloc _); have HB3 := Lib.hid ((HB2.out.alloc HB2.out.size (.cells #[.int .i32 (r : Int)] 21)).trans (hgb.mono (by omega))); rw [← rnL_snoc pre (r, k + n)] at hu; obtain ⟨qa, qc, hqv⟩ := hu.len; rw [rnL_len, List.length_append] at hqv; simp only [List.length_cons, List.length_nil] at hqv; rw [show pre.length + (0 + 1) = 401 by omega] at hqv; subst hqv; have HU := Lib.hid hu; clear hu hg3 hgb)
              | (go_at_call 29; refine (HVc.out _ _ HU.out.rd).mono ?_; rintro e w5 ⟨u5, rfl, hu5, hb5⟩; obtain ⟨q5, qc5, rfl, hqc, hqd⟩ := hu5.form; have HU5 := Lib.hid hu5; clear hu5; have HR5 := Lib.hid (HR3.out.next hb5); have HB5 := Lib.hid (HB3.out.trans (hb5.mono HB3.out.size)); have hlt5 := HR3.out.lt; have y0 := HR5.out.c0; have y1 := HR5.out.c1; have y2 := HR5.out.c2; have y3 := HR5.out.c3; have y4 := HR5.out.c4; have f0 := HR5.out.fr 0; have f1 := HR5.out.fr 1; have f2 := HR5.out.fr 2; have f3 := HR5.out.fr 3; have f4 := HR5.out.fr 4; have HS5 := Lib.hid (HR5.out.set a1 a2 a3 a4 (.slice q5 a5.length qc5)); have z0 := HS5.out.c0; have z1 := HS5.out.c1; have z2 := HS5.out.c2; have z3 := HS5.out.c3; have z4 := HS5.out.c4))
            refine bodyPost_ret (v := .tuple #[A5 a1 a2 a3 a4 (.slice q5 a5.length qc5), .int .i64 E]) (by simp [results, Tryd.results11, go_sem, z0, z1, z2, z3, z4]) rfl ?_
            rw [HG.out.1, HG.out.2]
            exact ⟨_, rfl, (HU5.out.st5 hlt5 _ _ _ _ _).mono (by omega), st5_below _ _ _ _ _ (by omega) HB5.out⟩
      · have hq := (HK.out.way.done (by rw [byt_len]; exact hk)).2
        have hnx := fun ty => Lib.run_next_end_at (P := Tryd.prog) wr W0.heap.size s k ty hit hk
        have HR3 := Lib.hid HK.out.res
        have HB3 := Lib.hid HK.out.bel
        have HU := Lib.hid HK.out.own
        have HG : Hid (vcV 2 (rnL (Ru.rns (byt s))) = vcV 2 (rnL pre) ∧ vcE (rnL (Ru.rns (byt s))) = vcE (rnL pre)) := by rw [hq]; exact ⟨rfl, rfl⟩
        generalize hA : vcV 2 (rnL pre) = A at HG
        generalize hE : vcE (rnL pre) = E at HG
        have HVc : Hid (∀ (v : Value) (W : World), RdR W.heap.size W v (rnL pre) → Calls Tryd.prog 29 #[.int .i64 2, v] W (RetE A E W)) := fun v W h => by rw [← hA, ← hE]; exact HVec.out _ v W h HK.out.bd
        clear hA hE HVec HK hq hit
        obtain ⟨a1, a2, a3, a4, a5⟩ := A
        go_wp2_with (go_at_call 29; refine (HVc.out _ _ HU.out.rd).mono ?_; rintro e w5 ⟨u5, rfl, hu5, hb5⟩; obtain ⟨q5, qc5, rfl, hqc, hqd⟩ := hu5.form; have HU5 := Lib.hid hu5; clear hu5; have HR5 := Lib.hid (HR3.out.next hb5); have HB5 := Lib.hid (HB3.out.trans (hb5.mono HB3.out.size)); have hlt5 := HR3.out.lt; have y0 := HR5.out.c0; have y1 := HR5.out.c1; have y2 := HR5.out.c2; have y3 := HR5.out.c3; have y4 := HR5.out.c4; have f0 := HR5.out.fr 0; have f1 := HR5.out.fr 1; have f2 := HR5.out.fr 2; have f3 := HR5.out.fr 3; have f4 := HR5.out.fr 4; have HS5 := Lib.hid (HR5.out.set a1 a2 a3 a4 (.slice q5 a5.length qc5)); have z0 := HS5.out.c0; have z1 := HS5.out.c1; have z2 := HS5.out.c2; have z3 := HS5.out.c3; have z4 := HS5.out.c4)
        refine bodyPost_ret (v := .tuple #[A5 a1 a2 a3 a4 (.slice q5 a5.length qc5), .int .i64 E]) (by simp [results, Tryd.results11, go_sem, z0, z1, z2, z3, z4]) rfl ?_
        rw [HG.out.1, HG.out.2]
        exact ⟨_, rfl, (HU5.out.st5 hlt5 _ _ _ _ _).mono (by omega), st5_below _ _ _ _ _ (by omega) HB5.out⟩
  · have HV : Hid (txV (byt s) = Ar.no ∧ txE (byt s) = 6) := by
      unfold Hid txV txE; rw [byt_len, if_neg hv, if_neg hv]; exact ⟨rfl, rfl⟩
    rw [HV.out.1, HV.out.2]
    rw [decide_eq_false hv] at HVa
    clear hv HV
    go_enter Tryd.func11, Tryd.ntmps11
    go_wp2_with (go_at_call 28; refine HVa.out.mono ?_; rintro e W0 ⟨rfl, hb⟩; have HB0 := Lib.hid (HB.out.trans (hb.mono (by omega))); have HR0 : Hid (R5 W0 w.heap.size 0 0 0 0 (.slice none 0 0)) := (hb.block w.heap.size (by omega)).trans HR.out; clear HB HR HVa hb; have y0 := HR0.out.c0; have y1 := HR0.out.c1; have y2 := HR0.out.c2; have y3 := HR0.out.c3; have y4 := HR0.out.c4; have f0 := HR0.out.fr 0; have f1 := HR0.out.fr 1; have f2 := HR0.out.fr 2; have f3 := HR0.out.fr 3; have f4 := HR0.out.fr 4; have HS := Lib.hid (HR0.out.set 0 0 0 0 (.slice none 0 0)); have z0 := HS.out.c0; have z1 := HS.out.c1; have z2 := HS.out.c2; have z3 := HS.out.c3; have z4 := HS.out.c4)
    exact bodyPost_ret (v := .tuple #[A5 0 0 0 0 (.slice none 0 0), .int .i64 6]) (by simp [results, Tryd.results11, go_sem, z0, z1, z2, z3, z4]) rfl (retE_no 6 (st5_below _ _ _ _ _ (by omega) HB0.out))

theorem text_lay (s : ByteArray) (w : World) (hw : Ru.Lay w) (hs : s.size ≤ 9223372036854775807) : Calls Tryd.prog 11 #[.string s] w (RetE (txV (byt s)) (txE (byt s)) w) :=
  text_any s w ⟨(hw.alloc _).first, (hw.alloc _).acc⟩ hs
end Go.Proofs.YtdbampgbbghfkaaDoor
