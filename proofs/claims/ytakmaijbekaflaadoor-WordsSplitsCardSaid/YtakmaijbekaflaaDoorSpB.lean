/- The reference's Split. -/
import Derived.Test.YtakmaijbekaflaaDoorSpA
namespace Go.Proofs.YtakmaijbekaflaaDoor
open Go.RowKit

set_option maxRecDepth 100000

def ok1 (d : List Fd) : List Yd := d.map fun x => (x, true)
theorem Fls.below {w w' : World} {base : Nat} {v : Value} {l : List Fd} (h : Fls w base v l) (hb : Below w.heap.size w w') : Fls w' base v l := own_below h hb

theorem fld_kept {w w4 : World} {base : Nat} {e : TypeId} {v : Value} {n : Nat} {xs : List Value} {t t2 : TypeId} {c0 c1 : Value} {cs : Array Value} (hown : w.ownsRow base e 2 v n xs)
    (hg : ((w.alloc (.cells #[c0, c1] t)).alloc (.cells cs t2)).grownBy w4 v.ownBlock) : w4.cell? ⟨w.heap.size, 0, none⟩ = some c0 := by
  rw [hg.cell_far ⟨w.heap.size, 0, none⟩ (by simp; omega) (fun h => by have := (hown.lt _ h.symm).2; simp at this)]
  have h1 : ((w.alloc (.cells #[c0, c1] t)).alloc (.cells cs t2)).heap[w.heap.size]? = some (.cells #[c0, c1] t (0, 0)) := by
    rw [heap_alloc_old _ _ (by simp)]; exact World.alloc_heap_new w _
  rw [cell_of_block h1]; rfl
theorem too_snoc (done : List Fd) (x : Fd) : tooB (done ++ [x]) = ((longB done || decide (2000 < x.1.length)) || decide (64 < done.length + 1)) := by
  unfold tooB longB; simp [List.any_append]
theorem long_app (done : List Fd) (x : Fd) : longB (done ++ [x]) = (longB done || decide (2000 < x.1.length)) := by
  unfold longB; simp [List.any_append]
theorem ok1_all (d : List Fd) (y : Yd) (h : y ∈ ok1 d) : y.2 = true := by
  unfold ok1 at h; rw [List.mem_map] at h; obtain ⟨x, _, rfl⟩ := h; rfl
/-- The line is at its end. -/
theorem spl_end {l : List UInt8} (h8 : ¬ 8192 < l.length) {d : List Fd} (h : ysL l = ok1 d) : (tooB d = true → splE l = 3 ∧ splV l = []) ∧ (tooB d = false → splE l = 0 ∧ splV l = d) := by
  have hf : splF l = d := by unfold splF; rw [h]; unfold ok1; rw [List.map_map]; exact List.map_id' d
  have := split_ok h8 (fun y hy => ok1_all d y (h ▸ hy))
  rw [hf] at this
  exact this
theorem spl_bad {l : List UInt8} (h8 : ¬ 8192 < l.length) {d : List Fd} {r : List Yd} (h : ysL l = ok1 d ++ r) (hb : ∃ y ∈ r, y.2 = false) : splE l = 6 ∧ splV l = [] := by
  obtain ⟨y, hy, hf⟩ := hb
  exact split_bad h8 (ysL l) (List.prefix_refl _) y (by rw [h]; exact List.mem_append_right _ hy) hf

theorem b32n_t {c : UInt8} (h : c = 32) : ((c.toNat : Int) != 32) = false := by rw [h]; rfl
theorem b32n_f {c : UInt8} (h : c ≠ 32) : ((c.toNat : Int) != 32) = true := by
  rw [bne_iff_ne]; intro e; apply h; rw [← UInt8.toNat_inj]; simp; omega
theorem spy_bad (f : Nat) {c : UInt8} {r : List UInt8} (h : c ≠ 32) : spY (fy f) (c :: r) = [bad] := by
  show (if c = 32 then _ else _) = _
  rw [if_neg h]
theorem fldS_below {w wr w3 w4 : World} {v : Value} {n : Nat} {e : TypeId} {xs : List Value} {o1 o2 : Obj} (hbl : Below w.heap.size w wr) (hb3 : Below wr.heap.size wr w3) (hown : w3.ownsRow w.heap.size e 2 v n xs)
    (hg : ((w3.alloc o1).alloc o2).grownBy w4 v.ownBlock) : Below w.heap.size w w4 := by
  have h1 := hbl.size
  have h2 := hb3.size
  exact (((hbl.trans (hb3.mono h1)).alloc (by omega) o1).alloc (by simp; omega) o2).grown hg (by simp; omega) (fun j e => (hown.lt j e).1)
theorem fld_own {w4 : World} {base : Nat} {v : Value} {done : List Fd} {x : Fd} {S : ByteArray} (hS : S = ⟨x.1.toArray⟩) (h : w4.ownsRow base 45 2 v (done.length + 1) (done.flatMap fdV ++ [.string S, .bool x.2])) : Fls w4 base v (done ++ [x]) := by
  subst hS
  unfold Fls
  rw [List.length_append, List.flatMap_append]
  exact h

theorem drop_at (s : ByteArray) (k m : Nat) (h : m < ((byt s).drop k).length) (h2 : k + m < s.size) : ((byt s).drop k)[m] = s[k + m] := by
  rw [List.getElem_drop]; rfl

set_option maxHeartbeats 8000000 in
theorem rsplit_any (s : ByteArray) (w : World) (hs : s.size ≤ 9000) :
    Calls Tryd.prog 22 #[.string s] w fun e w' => ∃ v, e = .returned (.tuple #[v, .int .i64 (splE (byt s))]) ∧ Fls w' w.heap.size v (splV (byt s)) ∧ Below w.heap.size w w' := by
  have hlen := byt_len s
  by_cases hlong : s.size ≤ 8192
  · by_cases h0 : 0 < s.size
    · have hem := not_empty_of_size s h0
      have hlen2 : ¬ 8192 < (byt s).length := by omega
      have hx : Hid (ysL (byt s) = fy (s.size + 1) (byt s)) := by
        unfold Hid ysL; rw [if_neg (by rw [byt_cons s h0]; simp), byt_len]
      have HL2 := Lib.hid hlen2
      clear hlen hlen2
      obtain ⟨i0, hi, hz0, hz1, hz2⟩ := info_parts infoF
      go_enter Tryd.func22, Tryd.ntmps22
      go_wp2_with fail
      go_loopw [4, 5, 6] (fun v lo i wr => ∃ (k : Nat) (done : List Fd) (f : Nat), k ≤ s.size ∧ i = .int .i64 k ∧ lo = .bool (longB done) ∧ done.length ≤ k ∧ s.size - k < f ∧ Fls wr w.heap.size v done ∧ Below w.heap.size w wr ∧ Hid (ysL (byt s) = ok1 done ++ fy f ((byt s).drop k))) (fun _ _ i _ => s.size + 1 - (intOf i).toNat)
      case atStart => exact ⟨0, [], s.size + 1, by omega, rfl, rfl, by simp, by omega, World.ownsRow_nil _ _ _ _, Below.refl _ _, by unfold Hid; rw [hx.out]; rfl⟩
      case round =>
        obtain ⟨k, done, f, hk, rfl, rfl, hdk, hf, hown, hbl, HT⟩ := hrel
        obtain ⟨f, rfl⟩ : ∃ g, f = g + 1 := ⟨f - 1, by omega⟩
        have hsz := hbl.size
        have hRQ := fun W => rquoted_any (s.extract k s.size) W (by simp; omega)
        rw [byt_drop] at hRQ
        cases hq : quo ((byt s).drop k) with
        | some q =>
          obtain ⟨t, n⟩ := q
          rw [hq] at hRQ
          have HR : Hid (∀ W, Calls Tryd.prog 39 #[.string (s.extract k s.size)] W fun e w' => e = .returned (.tuple #[.string ⟨t.toArray⟩, .int .i64 (n : Int)]) ∧ Below W.heap.size W w') := hRQ
          obtain ⟨hn1, hn2⟩ := quo_le _ t n hq
          rw [List.length_drop, byt_len] at hn2
          have hn0 : ((n : Int) == 0) = false := by rw [beq_eq_false_iff_ne]; omega
          have HF : Hid (ysL (byt s) = ok1 (done ++ [(t, true)]) ++ spY (fy f) ((byt s).drop (k + n))) := by
            unfold Hid; rw [HT.out, fy_q f _ _ hq, List.drop_drop]; simp [ok1]
          clear hRQ HT hq
          obtain ⟨S, hS⟩ : ∃ S : ByteArray, S = ⟨t.toArray⟩ := ⟨_, rfl⟩
          have hSl : S.size = t.length := by rw [hS]; rfl
          have HS := Lib.hid hS
          rw [← hS] at HR
          have HSl := Lib.hid hSl
          clear hS hSl
          by_cases hend : k + n = s.size
          · have he : ((k : Int) + (n : Int) == (s.size : Int)) = true := by rw [beq_iff_eq]; omega
            have HX := Lib.hid (spl_end HL2.out (d := done ++ [(t, true)]) (by rw [HF.out, hend, List.drop_eq_nil_of_le (by rw [byt_len]; exact Nat.le_refl _)]; exact List.append_nil _))
            have HT2 := Lib.hid (too_snoc done (t, true))
            have hcase : longB done = true ∨ (longB done = false ∧ 2000 < S.size) ∨ (longB done = false ∧ ¬ 2000 < S.size ∧ 64 < done.length + 1) ∨ (longB done = false ∧ ¬ 2000 < S.size ∧ ¬ 64 < done.length + 1) := by
              cases longB done <;> simp <;> omega
            clear HF
            rcases hcase with hb1 | ⟨hb1, hb2⟩ | ⟨hb1, hb2, hb5⟩ | ⟨hb1, hb2, hb5⟩
            · have HC : Hid (tooB (done ++ [(t, true)]) = true) := by unfold Hid; rw [HT2.out]; exact (by rw [hb1]; rfl)
              go_wp2_with (first
                  | (go_at_call 39; refine (HR.out _).mono ?_; rintro e w3 ⟨rfl, hb3⟩; have hown3 := own_below hown hb3; have hsz3 := hb3.size)
                  | (at_builtin; refine wpList_append_own _ rfl _ _ 32 rfl w.heap.size 45 i0 (.agg #[.string ByteArray.empty, .bool false]) 2 24 Tryd.underlying32 hi hz0 hz1 hz2 rfl (by decide) _ _ _ rfl (World.ownsRow.alloc (World.ownsRow.alloc hown3 _) _) ⟨(w3.alloc (.cells #[.string S, .bool true] 45)).heap.size, 0, none⟩ 1 1 [.string S, .bool true] (by simp [Act.eval]) rfl (cells_new (w3.alloc (.cells #[.string S, .bool true] 45)) #[.string S, .bool true] _ _) (by simp [Value.oneCell']) (by unfold maxLen; omega) (by omega) (by simp; omega) ?_; intro v4 w4 hown4 hgrow4 _; have hc4 := fld_kept hown3 hgrow4; have hsz4 := hgrow4.size; have hb4 := fldS_below hbl hb3 hown3 hgrow4; have hO4 := fld_own (x := (t, true)) HS.out hown4; obtain ⟨g', cap', rfl⟩ := ownsRow_succ hown4))
              go_ret2
              exact ⟨_, ret_two rfl (by rw [((HX.out).1 HC.out).1]; rfl), by rw [((HX.out).1 HC.out).2]; exact World.ownsRow_nil _ _ _ _, hb4⟩
            · have HC : Hid (tooB (done ++ [(t, true)]) = true) := by unfold Hid; rw [HT2.out]; exact (by rw [hb1, ← HSl.out, decide_eq_true hb2]; rfl)
              go_wp2_with (first
                  | (go_at_call 39; refine (HR.out _).mono ?_; rintro e w3 ⟨rfl, hb3⟩; have hown3 := own_below hown hb3; have hsz3 := hb3.size)
                  | (at_builtin; refine wpList_append_own _ rfl _ _ 32 rfl w.heap.size 45 i0 (.agg #[.string ByteArray.empty, .bool false]) 2 24 Tryd.underlying32 hi hz0 hz1 hz2 rfl (by decide) _ _ _ rfl (World.ownsRow.alloc (World.ownsRow.alloc hown3 _) _) ⟨(w3.alloc (.cells #[.string S, .bool true] 45)).heap.size, 0, none⟩ 1 1 [.string S, .bool true] (by simp [Act.eval]) rfl (cells_new (w3.alloc (.cells #[.string S, .bool true] 45)) #[.string S, .bool true] _ _) (by simp [Value.oneCell']) (by unfold maxLen; omega) (by omega) (by simp; omega) ?_; intro v4 w4 hown4 hgrow4 _; have hc4 := fld_kept hown3 hgrow4; have hsz4 := hgrow4.size; have hb4 := fldS_below hbl hb3 hown3 hgrow4; have hO4 := fld_own (x := (t, true)) HS.out hown4; obtain ⟨g', cap', rfl⟩ := ownsRow_succ hown4))
              go_ret2
              exact ⟨_, ret_two rfl (by rw [((HX.out).1 HC.out).1]; rfl), by rw [((HX.out).1 HC.out).2]; exact World.ownsRow_nil _ _ _ _, hb4⟩
            · have HC : Hid (tooB (done ++ [(t, true)]) = true) := by unfold Hid; rw [HT2.out]; exact (by rw [hb1, ← HSl.out, decide_eq_true hb5]; simp)
              go_wp2_with (first
                  | (go_at_call 39; refine (HR.out _).mono ?_; rintro e w3 ⟨rfl, hb3⟩; have hown3 := own_below hown hb3; have hsz3 := hb3.size)
                  | (at_builtin; refine wpList_append_own _ rfl _ _ 32 rfl w.heap.size 45 i0 (.agg #[.string ByteArray.empty, .bool false]) 2 24 Tryd.underlying32 hi hz0 hz1 hz2 rfl (by decide) _ _ _ rfl (World.ownsRow.alloc (World.ownsRow.alloc hown3 _) _) ⟨(w3.alloc (.cells #[.string S, .bool true] 45)).heap.size, 0, none⟩ 1 1 [.string S, .bool true] (by simp [Act.eval]) rfl (cells_new (w3.alloc (.cells #[.string S, .bool true] 45)) #[.string S, .bool true] _ _) (by simp [Value.oneCell']) (by unfold maxLen; omega) (by omega) (by simp; omega) ?_; intro v4 w4 hown4 hgrow4 _; have hc4 := fld_kept hown3 hgrow4; have hsz4 := hgrow4.size; have hb4 := fldS_below hbl hb3 hown3 hgrow4; have hO4 := fld_own (x := (t, true)) HS.out hown4; obtain ⟨g', cap', rfl⟩ := ownsRow_succ hown4))
              go_ret2
              exact ⟨_, ret_two rfl (by rw [((HX.out).1 HC.out).1]; rfl), by rw [((HX.out).1 HC.out).2]; exact World.ownsRow_nil _ _ _ _, hb4⟩
            · have HC : Hid (tooB (done ++ [(t, true)]) = false) := by unfold Hid; rw [HT2.out]; exact (by rw [hb1, ← HSl.out, decide_eq_false hb2, decide_eq_false hb5]; rfl)
              go_wp2_with (first
                  | (go_at_call 39; refine (HR.out _).mono ?_; rintro e w3 ⟨rfl, hb3⟩; have hown3 := own_below hown hb3; have hsz3 := hb3.size)
                  | (at_builtin; refine wpList_append_own _ rfl _ _ 32 rfl w.heap.size 45 i0 (.agg #[.string ByteArray.empty, .bool false]) 2 24 Tryd.underlying32 hi hz0 hz1 hz2 rfl (by decide) _ _ _ rfl (World.ownsRow.alloc (World.ownsRow.alloc hown3 _) _) ⟨(w3.alloc (.cells #[.string S, .bool true] 45)).heap.size, 0, none⟩ 1 1 [.string S, .bool true] (by simp [Act.eval]) rfl (cells_new (w3.alloc (.cells #[.string S, .bool true] 45)) #[.string S, .bool true] _ _) (by simp [Value.oneCell']) (by unfold maxLen; omega) (by omega) (by simp; omega) ?_; intro v4 w4 hown4 hgrow4 _; have hc4 := fld_kept hown3 hgrow4; have hsz4 := hgrow4.size; have hb4 := fldS_below hbl hb3 hown3 hgrow4; have hO4 := fld_own (x := (t, true)) HS.out hown4; obtain ⟨g', cap', rfl⟩ := ownsRow_succ hown4))
              go_ret2
              exact ⟨_, ret_two rfl (by rw [((HX.out).2 HC.out).1]; rfl), by rw [((HX.out).2 HC.out).2]; exact hO4, hb4⟩
          · have he : ((k : Int) + (n : Int) == (s.size : Int)) = false := by rw [beq_eq_false_iff_ne]; omega
            have hlt : k + n < s.size := by omega
            have hkl : (byt s).drop (k + n) = s[k + n] :: (byt s).drop (k + n + 1) := by
              rw [List.drop_eq_getElem_cons (by rw [byt_len]; exact hlt)]; rfl
            by_cases hc : s[k + n] = 32
            · have hb := b32n_t hc
              have HG : Hid (ysL (byt s) = ok1 (done ++ [(t, true)]) ++ fy f ((byt s).drop (k + n + 1))) := by
                unfold Hid; rw [HF.out, hkl, hc]; rfl
              have HLo := Lib.hid (long_app done (t, true))
              clear hkl hc HF
              cases hb1 : longB done
              · go_wp2_with (first
                    | (go_at_call 39; refine (HR.out _).mono ?_; rintro e w3 ⟨rfl, hb3⟩; have hown3 := own_below hown hb3; have hsz3 := hb3.size)
                    | (at_builtin; refine wpList_append_own _ rfl _ _ 32 rfl w.heap.size 45 i0 (.agg #[.string ByteArray.empty, .bool false]) 2 24 Tryd.underlying32 hi hz0 hz1 hz2 rfl (by decide) _ _ _ rfl (World.ownsRow.alloc (World.ownsRow.alloc hown3 _) _) ⟨(w3.alloc (.cells #[.string S, .bool true] 45)).heap.size, 0, none⟩ 1 1 [.string S, .bool true] (by simp [Act.eval]) rfl (cells_new (w3.alloc (.cells #[.string S, .bool true] 45)) #[.string S, .bool true] _ _) (by simp [Value.oneCell']) (by unfold maxLen; omega) (by omega) (by simp; omega) ?_; intro v4 w4 hown4 hgrow4 _; have hc4 := fld_kept hown3 hgrow4; have hsz4 := hgrow4.size; have hb4 := fldS_below hbl hb3 hown3 hgrow4; have hO4 := fld_own (x := (t, true)) HS.out hown4; obtain ⟨g', cap', rfl⟩ := ownsRow_succ hown4))
                go_roundw
                case rel => exact ⟨k + n + 1, done ++ [(t, true)], f, by omega, by go_num, by rw [HLo.out, hb1, ← HSl.out]; first | rfl | (simp; done) | (simp; omega), by simp; omega, by omega, hO4, hb4, HG⟩
                case measure => simp [intOf]; omega
              · go_wp2_with (first
                    | (go_at_call 39; refine (HR.out _).mono ?_; rintro e w3 ⟨rfl, hb3⟩; have hown3 := own_below hown hb3; have hsz3 := hb3.size)
                    | (at_builtin; refine wpList_append_own _ rfl _ _ 32 rfl w.heap.size 45 i0 (.agg #[.string ByteArray.empty, .bool false]) 2 24 Tryd.underlying32 hi hz0 hz1 hz2 rfl (by decide) _ _ _ rfl (World.ownsRow.alloc (World.ownsRow.alloc hown3 _) _) ⟨(w3.alloc (.cells #[.string S, .bool true] 45)).heap.size, 0, none⟩ 1 1 [.string S, .bool true] (by simp [Act.eval]) rfl (cells_new (w3.alloc (.cells #[.string S, .bool true] 45)) #[.string S, .bool true] _ _) (by simp [Value.oneCell']) (by unfold maxLen; omega) (by omega) (by simp; omega) ?_; intro v4 w4 hown4 hgrow4 _; have hc4 := fld_kept hown3 hgrow4; have hsz4 := hgrow4.size; have hb4 := fldS_below hbl hb3 hown3 hgrow4; have hO4 := fld_own (x := (t, true)) HS.out hown4; obtain ⟨g', cap', rfl⟩ := ownsRow_succ hown4))
                go_roundw
                case rel => exact ⟨k + n + 1, done ++ [(t, true)], f, by omega, by go_num, by rw [HLo.out, hb1, ← HSl.out]; first | rfl | (simp; done) | (simp; omega), by simp; omega, by omega, hO4, hb4, HG⟩
                case measure => simp [intOf]; omega
            · have hb := b32n_f hc
              have HG := Lib.hid (spl_bad HL2.out (d := done ++ [(t, true)]) (r := [bad]) (by rw [HF.out, hkl, spy_bad f hc]) ⟨bad, by simp, rfl⟩)
              clear hkl hc HF
              cases hb1 : longB done
              · go_wp2_with (first
                    | (go_at_call 39; refine (HR.out _).mono ?_; rintro e w3 ⟨rfl, hb3⟩; have hown3 := own_below hown hb3; have hsz3 := hb3.size)
                    | (at_builtin; refine wpList_append_own _ rfl _ _ 32 rfl w.heap.size 45 i0 (.agg #[.string ByteArray.empty, .bool false]) 2 24 Tryd.underlying32 hi hz0 hz1 hz2 rfl (by decide) _ _ _ rfl (World.ownsRow.alloc (World.ownsRow.alloc hown3 _) _) ⟨(w3.alloc (.cells #[.string S, .bool true] 45)).heap.size, 0, none⟩ 1 1 [.string S, .bool true] (by simp [Act.eval]) rfl (cells_new (w3.alloc (.cells #[.string S, .bool true] 45)) #[.string S, .bool true] _ _) (by simp [Value.oneCell']) (by unfold maxLen; omega) (by omega) (by simp; omega) ?_; intro v4 w4 hown4 hgrow4 _; have hc4 := fld_kept hown3 hgrow4; have hsz4 := hgrow4.size; have hb4 := fldS_below hbl hb3 hown3 hgrow4; have hO4 := fld_own (x := (t, true)) HS.out hown4; obtain ⟨g', cap', rfl⟩ := ownsRow_succ hown4))
                go_ret2
                exact ⟨_, ret_two rfl (by rw [(HG.out).1]; rfl), by rw [(HG.out).2]; exact World.ownsRow_nil _ _ _ _, hb4⟩
              · go_wp2_with (first
                    | (go_at_call 39; refine (HR.out _).mono ?_; rintro e w3 ⟨rfl, hb3⟩; have hown3 := own_below hown hb3; have hsz3 := hb3.size)
                    | (at_builtin; refine wpList_append_own _ rfl _ _ 32 rfl w.heap.size 45 i0 (.agg #[.string ByteArray.empty, .bool false]) 2 24 Tryd.underlying32 hi hz0 hz1 hz2 rfl (by decide) _ _ _ rfl (World.ownsRow.alloc (World.ownsRow.alloc hown3 _) _) ⟨(w3.alloc (.cells #[.string S, .bool true] 45)).heap.size, 0, none⟩ 1 1 [.string S, .bool true] (by simp [Act.eval]) rfl (cells_new (w3.alloc (.cells #[.string S, .bool true] 45)) #[.string S, .bool true] _ _) (by simp [Value.oneCell']) (by unfold maxLen; omega) (by omega) (by simp; omega) ?_; intro v4 w4 hown4 hgrow4 _; have hc4 := fld_kept hown3 hgrow4; have hsz4 := hgrow4.size; have hb4 := fldS_below hbl hb3 hown3 hgrow4; have hO4 := fld_own (x := (t, true)) HS.out hown4; obtain ⟨g', cap', rfl⟩ := ownsRow_succ hown4))
                go_ret2
                exact ⟨_, ret_two rfl (by rw [(HG.out).1]; rfl), by rw [(HG.out).2]; exact World.ownsRow_nil _ _ _ _, hb4⟩
        | none =>
          rw [hq] at hRQ
          have HR : Hid (∀ W, Calls Tryd.prog 39 #[.string (s.extract k s.size)] W fun e w' => e = .returned (.tuple #[.string ⟨#[]⟩, .int .i64 0]) ∧ Below W.heap.size W w') := hRQ
          have HQ := Lib.hid hq
          clear hRQ hq
          go_wp2_with (go_at_call 39; refine (HR.out _).mono ?_; rintro e w3 ⟨rfl, hb3⟩; have hown3 := own_below hown hb3; have hsz3 := hb3.size)
          go_loop [8] (fun n' => ∃ j : Nat, k + j ≤ s.size ∧ n' = .int .i64 j ∧ Hid (∀ (i : Nat) (h : k + i < s.size), i < j → s[k + i] ≠ 32)) (fun n' => s.size - (intOf n').toNat)
          case atStart => exact ⟨0, by omega, rfl, fun i _ h => absurd h (Nat.not_lt_zero _)⟩
          case round =>
            obtain ⟨n, hn, rfl, hno⟩ := hrel
            have HA : Hid (∀ (i : Nat) (h : i < ((byt s).drop k).length), i < n → ((byt s).drop k)[i] ≠ 32) := fun i h hi => by
              have h2 : k + i < s.size := by rw [List.length_drop, byt_len] at h; omega
              rw [drop_at s k i h h2]; exact hno.out i h2 hi
            have hml : n ≤ ((byt s).drop k).length := by rw [List.length_drop, byt_len]; omega
            have hx1 := mk_take s k n
            have hx2 := byt_mid s k n
            obtain ⟨t, ht⟩ : ∃ t, t = ((byt s).drop k).take n := ⟨_, rfl⟩
            obtain ⟨S, hS⟩ : ∃ S, S = s.extract k (k + n) := ⟨_, rfl⟩
            rw [← ht, ← hS] at hx1
            rw [← hS, ← ht] at hx2
            have HS : Hid (S = ⟨t.toArray⟩) := hx1.symm
            have hSl : S.size = t.length := by rw [← byt_len, hx2]
            have HSl := Lib.hid hSl
            have HSx : Hid (s.extract k (k + n) = S) := hS.symm
            have HRB : Hid (∀ W, Calls Tryd.prog 44 #[.string (s.extract k (k + n))] W fun e w' => e = .returned (.bool (brB t)) ∧ W = w') := fun W => by
              have := rbare_any (s.extract k (k + n)) W (by simp; omega)
              rw [← hS, hx2] at this
              rw [← hS]; exact this
            have HMl := Lib.hid hml
            have HTt := Lib.hid ht
            clear hx1 hx2 hS hSl ht hml
            by_cases hl : k + n < s.size
            · by_cases hc : s[k + n] = 32
              · have hb0 := b32n_t hc
                have HSp : Hid (∀ h : n < ((byt s).drop k).length, ((byt s).drop k)[n] = 32) := fun h => by rw [drop_at s k n h hl]; exact hc
                cases hbr : brB t with
                | false =>
                  have HG := Lib.hid (spl_bad HL2.out HT.out (fy_bad f _ n HMl.out HQ.out (by rw [← HTt.out]; exact hbr) HA.out HSp.out))
                  clear hc
                  go_wp2_with (go_at_call 44; refine (HRB.out _).mono ?_; rintro e w5 ⟨rfl, rfl⟩)
                  go_ret2
                  exact ⟨_, ret_two rfl (by rw [(HG.out).1]; rfl), by rw [(HG.out).2]; exact World.ownsRow_nil _ _ _ _, (hbl.trans (hb3.mono hsz)).alloc (by omega) _⟩
                | true =>
                  obtain ⟨h1, hn1⟩ := fy_b f _ n HMl.out HQ.out (by rw [← HTt.out]; exact hbr) HSp.out
                  rw [← HTt.out] at h1
                  have HF : Hid (ysL (byt s) = ok1 (done ++ [(t, false)]) ++ spY (fy f) ((byt s).drop (k + n))) := by
                    unfold Hid; rw [HT.out, h1, List.drop_drop]; simp [ok1]
                  clear h1
                  have hlt : k + n < s.size := hl
                  have he : ((k : Int) + (n : Int) == (s.size : Int)) = false := by rw [beq_eq_false_iff_ne]; omega
                  have hkl : (byt s).drop (k + n) = s[k + n] :: (byt s).drop (k + n + 1) := by
                    rw [List.drop_eq_getElem_cons (by rw [byt_len]; exact hlt)]; rfl
                  have hb := b32n_t hc
                  have HG : Hid (ysL (byt s) = ok1 (done ++ [(t, false)]) ++ fy f ((byt s).drop (k + n + 1))) := by
                    unfold Hid; rw [HF.out, hkl, hc]; rfl
                  have HLo := Lib.hid (long_app done (t, false))
                  clear hkl hc HF
                  cases hb1 : longB done
                  · go_wp2_with (first
                        | (go_at_call 44; refine (HRB.out _).mono ?_; rintro e w5 ⟨rfl, rfl⟩; rw [HSx.out])
                        | (at_builtin; refine wpList_append_own _ rfl _ _ 32 rfl w.heap.size 45 i0 (.agg #[.string ByteArray.empty, .bool false]) 2 24 Tryd.underlying32 hi hz0 hz1 hz2 rfl (by decide) _ _ _ rfl (World.ownsRow.alloc (World.ownsRow.alloc hown3 _) _) ⟨(w3.alloc (.cells #[.string S, .bool false] 45)).heap.size, 0, none⟩ 1 1 [.string S, .bool false] (by simp [Act.eval]) rfl (cells_new (w3.alloc (.cells #[.string S, .bool false] 45)) #[.string S, .bool false] _ _) (by simp [Value.oneCell']) (by unfold maxLen; omega) (by omega) (by simp; omega) ?_; intro v4 w4 hown4 hgrow4 _; have hc4 := fld_kept hown3 hgrow4; have hsz4 := hgrow4.size; have hb4 := fldS_below hbl hb3 hown3 hgrow4; have hO4 := fld_own (x := (t, false)) HS.out hown4; obtain ⟨g', cap', rfl⟩ := ownsRow_succ hown4))
                    go_roundw
                    case rel => exact ⟨k + n + 1, done ++ [(t, false)], f, by omega, by go_num, by rw [HLo.out, hb1, ← HSl.out]; first | rfl | (simp; done) | (simp; omega), by simp; omega, by omega, hO4, hb4, HG⟩
                    case measure => simp [intOf]; omega
                  · go_wp2_with (first
                        | (go_at_call 44; refine (HRB.out _).mono ?_; rintro e w5 ⟨rfl, rfl⟩; rw [HSx.out])
                        | (at_builtin; refine wpList_append_own _ rfl _ _ 32 rfl w.heap.size 45 i0 (.agg #[.string ByteArray.empty, .bool false]) 2 24 Tryd.underlying32 hi hz0 hz1 hz2 rfl (by decide) _ _ _ rfl (World.ownsRow.alloc (World.ownsRow.alloc hown3 _) _) ⟨(w3.alloc (.cells #[.string S, .bool false] 45)).heap.size, 0, none⟩ 1 1 [.string S, .bool false] (by simp [Act.eval]) rfl (cells_new (w3.alloc (.cells #[.string S, .bool false] 45)) #[.string S, .bool false] _ _) (by simp [Value.oneCell']) (by unfold maxLen; omega) (by omega) (by simp; omega) ?_; intro v4 w4 hown4 hgrow4 _; have hc4 := fld_kept hown3 hgrow4; have hsz4 := hgrow4.size; have hb4 := fldS_below hbl hb3 hown3 hgrow4; have hO4 := fld_own (x := (t, false)) HS.out hown4; obtain ⟨g', cap', rfl⟩ := ownsRow_succ hown4))
                    go_roundw
                    case rel => exact ⟨k + n + 1, done ++ [(t, false)], f, by omega, by go_num, by rw [HLo.out, hb1, ← HSl.out]; first | rfl | (simp; done) | (simp; omega), by simp; omega, by omega, hO4, hb4, HG⟩
                    case measure => simp [intOf]; omega
              · have hb0 := b32n_f hc
                have HNo : Hid (∀ (i : Nat) (h : k + i < s.size), i < n + 1 → s[k + i] ≠ 32) := fun i h hi => by
                  by_cases hin : i < n
                  · exact hno.out i h hin
                  · obtain rfl : i = n := by omega
                    exact hc
                clear hc HA HRB
                go_wp2_with fail
                go_round
                case rel => exact ⟨n + 1, by omega, by go_num, HNo⟩
                case measure => simp [intOf]; omega
            · have hend : k + n = s.size := by omega
              have hd : ¬ ((k : Int) + (n : Int) < (s.size : Int)) := by omega
              have HEnd := Lib.hid hend
              have HSp : Hid (∀ h : n < ((byt s).drop k).length, ((byt s).drop k)[n] = 32) := fun h => by rw [List.length_drop, byt_len] at h; omega
              clear hend hl
              cases hbr : brB t with
              | false =>
                have HG := Lib.hid (spl_bad HL2.out HT.out (fy_bad f _ n HMl.out HQ.out (by rw [← HTt.out]; exact hbr) HA.out HSp.out))
                go_wp2_with (go_at_call 44; refine (HRB.out _).mono ?_; rintro e w5 ⟨rfl, rfl⟩)
                go_ret2
                exact ⟨_, ret_two rfl (by rw [(HG.out).1]; rfl), by rw [(HG.out).2]; exact World.ownsRow_nil _ _ _ _, (hbl.trans (hb3.mono hsz)).alloc (by omega) _⟩
              | true =>
                obtain ⟨h1, hn1⟩ := fy_b f _ n HMl.out HQ.out (by rw [← HTt.out]; exact hbr) HSp.out
                rw [← HTt.out] at h1
                have HF : Hid (ysL (byt s) = ok1 (done ++ [(t, false)]) ++ spY (fy f) ((byt s).drop (k + n))) := by
                  unfold Hid; rw [HT.out, h1, List.drop_drop]; simp [ok1]
                clear h1
                have he : ((k : Int) + (n : Int) == (s.size : Int)) = true := by have := HEnd.out; rw [beq_iff_eq]; omega
                have HX := Lib.hid (spl_end HL2.out (d := done ++ [(t, false)]) (by rw [HF.out, HEnd.out, List.drop_eq_nil_of_le (by rw [byt_len]; exact Nat.le_refl _)]; exact List.append_nil _))
                have HT2 := Lib.hid (too_snoc done (t, false))
                have hcase : longB done = true ∨ (longB done = false ∧ 2000 < S.size) ∨ (longB done = false ∧ ¬ 2000 < S.size ∧ 64 < done.length + 1) ∨ (longB done = false ∧ ¬ 2000 < S.size ∧ ¬ 64 < done.length + 1) := by
                  cases longB done <;> simp <;> omega
                clear HF
                rcases hcase with hb1 | ⟨hb1, hb2⟩ | ⟨hb1, hb2, hb5⟩ | ⟨hb1, hb2, hb5⟩
                · have HC : Hid (tooB (done ++ [(t, false)]) = true) := by unfold Hid; rw [HT2.out]; exact (by rw [hb1]; rfl)
                  go_wp2_with (first
                      | (go_at_call 44; refine (HRB.out _).mono ?_; rintro e w5 ⟨rfl, rfl⟩; rw [HSx.out])
                      | (at_builtin; refine wpList_append_own _ rfl _ _ 32 rfl w.heap.size 45 i0 (.agg #[.string ByteArray.empty, .bool false]) 2 24 Tryd.underlying32 hi hz0 hz1 hz2 rfl (by decide) _ _ _ rfl (World.ownsRow.alloc (World.ownsRow.alloc hown3 _) _) ⟨(w3.alloc (.cells #[.string S, .bool false] 45)).heap.size, 0, none⟩ 1 1 [.string S, .bool false] (by simp [Act.eval]) rfl (cells_new (w3.alloc (.cells #[.string S, .bool false] 45)) #[.string S, .bool false] _ _) (by simp [Value.oneCell']) (by unfold maxLen; omega) (by omega) (by simp; omega) ?_; intro v4 w4 hown4 hgrow4 _; have hc4 := fld_kept hown3 hgrow4; have hsz4 := hgrow4.size; have hb4 := fldS_below hbl hb3 hown3 hgrow4; have hO4 := fld_own (x := (t, false)) HS.out hown4; obtain ⟨g', cap', rfl⟩ := ownsRow_succ hown4))
                  go_ret2
                  exact ⟨_, ret_two rfl (by rw [((HX.out).1 HC.out).1]; rfl), by rw [((HX.out).1 HC.out).2]; exact World.ownsRow_nil _ _ _ _, hb4⟩
                · have HC : Hid (tooB (done ++ [(t, false)]) = true) := by unfold Hid; rw [HT2.out]; exact (by rw [hb1, ← HSl.out, decide_eq_true hb2]; rfl)
                  go_wp2_with (first
                      | (go_at_call 44; refine (HRB.out _).mono ?_; rintro e w5 ⟨rfl, rfl⟩; rw [HSx.out])
                      | (at_builtin; refine wpList_append_own _ rfl _ _ 32 rfl w.heap.size 45 i0 (.agg #[.string ByteArray.empty, .bool false]) 2 24 Tryd.underlying32 hi hz0 hz1 hz2 rfl (by decide) _ _ _ rfl (World.ownsRow.alloc (World.ownsRow.alloc hown3 _) _) ⟨(w3.alloc (.cells #[.string S, .bool false] 45)).heap.size, 0, none⟩ 1 1 [.string S, .bool false] (by simp [Act.eval]) rfl (cells_new (w3.alloc (.cells #[.string S, .bool false] 45)) #[.string S, .bool false] _ _) (by simp [Value.oneCell']) (by unfold maxLen; omega) (by omega) (by simp; omega) ?_; intro v4 w4 hown4 hgrow4 _; have hc4 := fld_kept hown3 hgrow4; have hsz4 := hgrow4.size; have hb4 := fldS_below hbl hb3 hown3 hgrow4; have hO4 := fld_own (x := (t, false)) HS.out hown4; obtain ⟨g', cap', rfl⟩ := ownsRow_succ hown4))
                  go_ret2
                  exact ⟨_, ret_two rfl (by rw [((HX.out).1 HC.out).1]; rfl), by rw [((HX.out).1 HC.out).2]; exact World.ownsRow_nil _ _ _ _, hb4⟩
                · have HC : Hid (tooB (done ++ [(t, false)]) = true) := by unfold Hid; rw [HT2.out]; exact (by rw [hb1, ← HSl.out, decide_eq_true hb5]; simp)
                  go_wp2_with (first
                      | (go_at_call 44; refine (HRB.out _).mono ?_; rintro e w5 ⟨rfl, rfl⟩; rw [HSx.out])
                      | (at_builtin; refine wpList_append_own _ rfl _ _ 32 rfl w.heap.size 45 i0 (.agg #[.string ByteArray.empty, .bool false]) 2 24 Tryd.underlying32 hi hz0 hz1 hz2 rfl (by decide) _ _ _ rfl (World.ownsRow.alloc (World.ownsRow.alloc hown3 _) _) ⟨(w3.alloc (.cells #[.string S, .bool false] 45)).heap.size, 0, none⟩ 1 1 [.string S, .bool false] (by simp [Act.eval]) rfl (cells_new (w3.alloc (.cells #[.string S, .bool false] 45)) #[.string S, .bool false] _ _) (by simp [Value.oneCell']) (by unfold maxLen; omega) (by omega) (by simp; omega) ?_; intro v4 w4 hown4 hgrow4 _; have hc4 := fld_kept hown3 hgrow4; have hsz4 := hgrow4.size; have hb4 := fldS_below hbl hb3 hown3 hgrow4; have hO4 := fld_own (x := (t, false)) HS.out hown4; obtain ⟨g', cap', rfl⟩ := ownsRow_succ hown4))
                  go_ret2
                  exact ⟨_, ret_two rfl (by rw [((HX.out).1 HC.out).1]; rfl), by rw [((HX.out).1 HC.out).2]; exact World.ownsRow_nil _ _ _ _, hb4⟩
                · have HC : Hid (tooB (done ++ [(t, false)]) = false) := by unfold Hid; rw [HT2.out]; exact (by rw [hb1, ← HSl.out, decide_eq_false hb2, decide_eq_false hb5]; rfl)
                  go_wp2_with (first
                      | (go_at_call 44; refine (HRB.out _).mono ?_; rintro e w5 ⟨rfl, rfl⟩; rw [HSx.out])
                      | (at_builtin; refine wpList_append_own _ rfl _ _ 32 rfl w.heap.size 45 i0 (.agg #[.string ByteArray.empty, .bool false]) 2 24 Tryd.underlying32 hi hz0 hz1 hz2 rfl (by decide) _ _ _ rfl (World.ownsRow.alloc (World.ownsRow.alloc hown3 _) _) ⟨(w3.alloc (.cells #[.string S, .bool false] 45)).heap.size, 0, none⟩ 1 1 [.string S, .bool false] (by simp [Act.eval]) rfl (cells_new (w3.alloc (.cells #[.string S, .bool false] 45)) #[.string S, .bool false] _ _) (by simp [Value.oneCell']) (by unfold maxLen; omega) (by omega) (by simp; omega) ?_; intro v4 w4 hown4 hgrow4 _; have hc4 := fld_kept hown3 hgrow4; have hsz4 := hgrow4.size; have hb4 := fldS_below hbl hb3 hown3 hgrow4; have hO4 := fld_own (x := (t, false)) HS.out hown4; obtain ⟨g', cap', rfl⟩ := ownsRow_succ hown4))
                  go_ret2
                  exact ⟨_, ret_two rfl (by rw [((HX.out).2 HC.out).1]; rfl), by rw [((HX.out).2 HC.out).2]; exact hO4, hb4⟩
    · have hs0 : s.size = 0 := by omega
      have hE : s = ByteArray.empty := byt_inj (show byt s = [] from List.eq_nil_of_length_eq_zero (by rw [byt_len]; exact hs0))
      subst hE
      have HX : Hid (splE (byt ByteArray.empty) = 0 ∧ splV (byt ByteArray.empty) = []) := by unfold Hid; decide +kernel
      go_enter Tryd.func22, Tryd.ntmps22
      go_wp2_with fail
      go_ret2
      exact ⟨_, ret_two rfl (by rw [(HX.out).1]; rfl), by rw [(HX.out).2]; exact World.ownsRow_nil _ _ _ _, Below.refl _ _⟩
  · have HX : Hid (splE (byt s) = 3 ∧ splV (byt s) = []) := by
      have : splE (byt s) = 3 := by unfold splE; rw [if_pos (by omega)]
      exact ⟨this, by unfold splV; rw [this]; rfl⟩
    go_enter Tryd.func22, Tryd.ntmps22
    go_wp2_with fail
    go_ret2
    exact ⟨_, ret_two rfl (by rw [(HX.out).1]; rfl), by rw [(HX.out).2]; exact World.ownsRow_nil _ _ _ _, Below.refl _ _⟩
end Go.Proofs.YtakmaijbekaflaaDoor
