/- The reference's quoted. -/
import Derived.Test.YtakmaijbekaflaaDoorQuE
namespace Go.Proofs.YtakmaijbekaflaaDoor
open Go.RowKit

set_option maxRecDepth 100000

theorem byt_inj {a b : ByteArray} (h : byt a = byt b) : a = b := ByteArray.ext (Array.ext' h)
theorem toList_inj {a b : ByteArray} (h : a.toList = b.toList) : a = b := by
  rw [ByteArray.toList_eq, ByteArray.toList_eq] at h; exact byt_inj h
theorem byt_mid (s : ByteArray) (k m : Nat) : byt (s.extract k (k + m)) = ((byt s).drop k).take m := by
  simp only [byt, ByteArray.data_extract, Array.toList_extract, List.extract_eq_take_drop]
  rw [Nat.add_sub_cancel_left]
theorem pre_iff (s : ByteArray) (k : Nat) (p : List UInt8) (form : ByteArray) (hf : byt form = p) :
    isPre p ((byt s).drop k) = true ↔ form.size ≤ s.size - k ∧ s.extract k (k + form.size) = form := by
  have hl : form.size = p.length := by rw [← hf, byt_len]
  rw [isPre_iff]
  constructor
  · rintro ⟨t, h⟩
    have h1 := congrArg List.length h
    rw [List.length_drop, byt_len, List.length_append] at h1
    refine ⟨by omega, byt_inj ?_⟩
    rw [byt_mid, h, hf, hl, List.take_left' rfl]
  · rintro ⟨_, h⟩
    refine ⟨((byt s).drop k).drop p.length, ?_⟩
    have h1 := congrArg byt h
    rw [byt_mid, hl, hf] at h1
    conv => rhs; rw [← h1]
    rw [List.length_take]
    by_cases hq : p.length ≤ ((byt s).drop k).length
    · rw [Nat.min_eq_left hq, List.take_append_drop]
    · have h2 := congrArg List.length h1
      rw [List.length_take] at h2
      omega
theorem rb_no (l : List UInt8) (h : ∀ x : UInt8, x.toNat < 256 → isPre (escF x) l = false) : rb l = none := by
  cases hr : rb l with
  | none => rfl
  | some p =>
    obtain ⟨c, n⟩ := p
    obtain ⟨t, ht⟩ := (escF_rb l c n hr).1
    have := (isPre_iff (escF c) l).2 ⟨t, ht⟩
    rw [h c c.toNat_lt] at this
    cases this
theorem escF_pos (c : UInt8) : 1 ≤ (escF c).length := by
  unfold escF; split
  · simp
  · split <;> simp
theorem pre34 (s : ByteArray) (h : 0 < s.size) : Lib.hasPrefix (byt s) [34] = decide (s[0] = 34) := by
  have h0 := byt_at s 0 h
  match hb : byt s, h0 with
  | c :: r, h0 =>
    simp at h0
    rw [← h0]
    simp only [Lib.hasPrefix]
    by_cases hc : c = 34
    · subst hc; rfl
    · have : ¬ (34 : UInt8) = c := fun e => hc e.symm
      rw [decide_eq_false hc]
      show ((34 : UInt8) == c && _) = false
      rw [beq_eq_false_iff_ne.2 this]; rfl
theorem b34n_t {c : UInt8} (h : c = 34) : ((c.toNat : Int) != 34) = false := by rw [h]; rfl
theorem b34n_f {c : UInt8} (h : c ≠ 34) : ((c.toNat : Int) != 34) = true := by
  rw [bne_iff_ne]; intro e; apply h; rw [← UInt8.toNat_inj]; simp; omega

/-- What the inner loop has found so far. -/
def Seen (s : ByteArray) (w : World) (k : Nat) (done : List UInt8) (j : Nat) (v at_ found : Value) (wr : World) : Prop :=
  (found = .bool false ∧ at_ = .int .i64 k ∧ Bys wr w.heap.size v done ∧ ∀ x : UInt8, x.toNat < j → isPre (escF x) ((byt s).drop k) = false) ∨
  (found = .bool true ∧ ∃ (x : UInt8) (n : Nat), rb ((byt s).drop k) = some (x, n) ∧ at_ = .int .i64 ((k + n : Nat) : Int) ∧ Bys wr w.heap.size v (done ++ [x]))

set_option maxHeartbeats 8000000 in
theorem rquoted_any (s : ByteArray) (w : World) (hs : s.size ≤ 1099511627776) :
    Calls Tryd.prog 39 #[.string s] w fun e w' => e = .returned (.tuple #[.string ⟨(qT (quo (byt s))).toArray⟩, .int .i64 (qN (quo (byt s)))]) ∧ Below w.heap.size w w' := by
  by_cases h0 : s.size = 0
  · have hE : s = ByteArray.empty := byt_inj (show byt s = [] from List.eq_nil_of_length_eq_zero (by rw [byt_len]; exact h0))
    subst hE
    have HF : Hid (quo (byt ByteArray.empty) = none) := rfl
    go_enter Tryd.func39, Tryd.ntmps39
    go_wp2_with fail
    go_ret2
    exact ⟨rfl, Below.refl _ _⟩
  have hp := pre34 s (by omega)
  by_cases hc : s[0] = 34
  · rw [decide_eq_true hc] at hp
    obtain ⟨_, hq⟩ := quo_cons s hp
    have HQ := Lib.hid hq
    have hn := b34n_t hc
    have hz : ((s.size : Int) == 0) = false := by rw [beq_eq_false_iff_ne]; omega
    clear hp hq hc
    obtain ⟨i0, hi, hz0, hz1, hz2⟩ := info_parts info5
    go_enter Tryd.func39, Tryd.ntmps39
    go_wp2_with fail
    go_loopw [4, 5] (fun v i wr => ∃ (k : Nat) (done : List UInt8) (f : Nat), 1 ≤ k ∧ k ≤ s.size ∧ i = .int .i64 k ∧ done.length < k ∧ s.size - k < f ∧ Bys wr w.heap.size v done ∧ Below w.heap.size w wr ∧ Hid (quo (byt s) = (rq f ((byt s).drop k)).map fun q => (done ++ q.1, k + q.2))) (fun _ i _ => s.size - (intOf i).toNat)
    case atStart => exact ⟨1, [], s.size + 1, by omega, by omega, rfl, by simp, by omega, World.ownsRow_nil _ _ _ _, Below.refl _ _, HQ⟩
    case round =>
      obtain ⟨k, done, f, hk1, hk, rfl, hdk, hf, hown, hbl, HT⟩ := hrel
      obtain ⟨f, rfl⟩ : ∃ g, f = g + 1 := ⟨f - 1, by omega⟩
      by_cases hlt : k < s.size
      · have hhd := head_drop s k hlt
        by_cases hc : s[k] = 34
        · have hb := b34n_t hc
          have HE : Hid (quo (byt s) = some (done, k + 1)) := by unfold Hid; rw [HT.out, rq_q f _ (by rw [hhd, hc])]; simp
          have hcv := conv_bys hown
          have hks : ((k : Int) == (s.size : Int)) = false := by rw [beq_eq_false_iff_ne]; omega
          clear hhd hc HT HQ
          go_wp2
          go_ret2
          exact ⟨by rw [HE.out]; rfl, hbl⟩
        · have hb := b34n_f hc
          have hne : ((byt s).drop k).head? ≠ some 34 := by rw [hhd]; simpa using hc
          have hsz := hbl.size
          have HNE := Lib.hid hne
          clear hhd hc hne
          go_wp2_with fail
          go_loopw [4, 5, 6, 7] (fun v i fo c wr => ∃ j : Nat, j ≤ 256 ∧ c = .int .i64 j ∧ Seen s w k done j v i fo wr ∧ Below w.heap.size w wr) (fun _ _ _ c _ => 256 - (intOf c).toNat)
          case atStart => exact ⟨0, by omega, rfl, .inl ⟨rfl, rfl, hown, fun x h => absurd h (Nat.not_lt_zero _)⟩, hbl⟩
          case round =>
            obtain ⟨j, hj, rfl, hseen, hbl2⟩ := hrel
            have hsz2 := hbl2.size
            rcases hseen with ⟨rfl, rfl, hown2, hno⟩ | ⟨rfl, x, n, hrb, rfl, hown2⟩
            · by_cases hj2 : j < 256
              · obtain ⟨x, rfl⟩ : ∃ x : UInt8, j = x.toNat := ⟨UInt8.ofNat j, by rw [UInt8.toNat_ofNat']; omega⟩
                have hwr : IntKind.u8.wrap (x.toNat : Int) = x.toNat := by rw [IntKind.wrap_u8]; omega
                obtain ⟨form, hform⟩ : ∃ form : ByteArray, form = ⟨(escF x).toArray⟩ := ⟨_, rfl⟩
                have hfs : form.size = (escF x).length := by rw [hform]; rfl
                have hpi := pre_iff s k (escF x) form (by rw [hform]; rfl)
                have HFm := Lib.hid hform; clear hform
                have hl4 : form.size ≤ 4 := by have := escF_len x; omega
                have hl1 : 1 ≤ form.size := by have := escF_pos x; omega
                have HFS := Lib.hid hfs; clear hfs
                have hkk : k < s.size := hlt
                cases hpre : isPre (escF x) ((byt s).drop k) with
                | false =>
                  have HN : Hid (∀ y : UInt8, y.toNat < x.toNat + 1 → isPre (escF y) ((byt s).drop k) = false) := fun y hy => by
                    by_cases hyx : y.toNat < x.toNat
                    · exact hno y hyx
                    · rw [show y = x from UInt8.toNat_inj.1 (by omega)]; exact hpre
                  rw [hpre] at hpi
                  by_cases hfit : form.size ≤ s.size - k
                  · have heq : ((s.extract k (k + form.size)).toList == form.toList) = false := by
                      rw [beq_eq_false_iff_ne]; intro e; exact absurd (hpi.2 ⟨hfit, toList_inj e⟩) (by simp)
                    clear hpi hpre hno
                    go_wp2_with (go_at_call 41; refine (escaped_any x _).mono ?_; rintro e w3 ⟨rfl, hb3⟩; have hown3 := own_below hown2 hb3; rw [← HFm.out])
                    go_roundw
                    case rel => exact ⟨x.toNat + 1, by omega, by go_num, .inl ⟨rfl, rfl, hown3, HN⟩, hbl2.trans (hb3.mono hsz2)⟩
                    case measure => simp [intOf]; omega
                  · clear hpi hpre hno
                    go_wp2_with (go_at_call 41; refine (escaped_any x _).mono ?_; rintro e w3 ⟨rfl, hb3⟩; have hown3 := own_below hown2 hb3; rw [← HFm.out])
                    go_roundw
                    case rel => exact ⟨x.toNat + 1, by omega, by go_num, .inl ⟨rfl, rfl, hown3, HN⟩, hbl2.trans (hb3.mono hsz2)⟩
                    case measure => simp [intOf]; omega
                | true =>
                  have HR : Hid (rb ((byt s).drop k) = some (x, form.size)) := by unfold Hid; rw [HFS.out]; exact (isPre_rb _ _).1 hpre
                  obtain ⟨hfit, hex⟩ := hpi.1 hpre
                  have heq : ((s.extract k (k + form.size)).toList == form.toList) = true := by rw [hex]; exact beq_self_eq_true _
                  clear hpi hpre hno hex
                  go_wp2_with (first
                    | (go_at_call 41; refine (escaped_any x _).mono ?_; rintro e w3 ⟨rfl, hb3⟩; have hown3 := own_below hown2 hb3; have hsz3 := hb3.size; rw [← HFm.out])
                    | (at_builtin; refine wpList_append_own _ rfl _ _ 38 rfl w.heap.size 5 i0 (.int .u8 0) 1 1 Tryd.underlying38 hi hz0 hz1 hz2 rfl (by decide) _ _ _ rfl (World.ownsRow.alloc hown3 _) ⟨_, 0, none⟩ 1 1 [.int .u8 x.toNat] rfl rfl (cell_one_new _ _ _) (by simp [Value.oneCell']) (by unfold maxLen; omega) (by omega) (by simp; omega) ?_; intro v4 w4 hown4 hgrow4 _))
                  go_roundw
                  case rel => exact ⟨x.toNat + 1, by omega, by go_num, .inr ⟨rfl, x, form.size, HR.out, by go_num, by unfold Bys; rw [List.length_append, List.map_append]; exact hown4⟩, ((hbl2.trans (hb3.mono hsz2)).alloc (by omega) _).grown hgrow4 (by simp; omega) (fun j e => (World.ownsRow.lt hown3 j e).1)⟩
                  case measure => simp [intOf]; omega
              · have hrn : rb ((byt s).drop k) = none := rb_no _ (fun x hx => hno x (by omega))
                have HE : Hid (quo (byt s) = none) := by unfold Hid; rw [HT.out, rq_none f _ hrn HNE.out]; rfl
                have hj3 : j = 256 := by omega
                subst hj3
                clear hno hrn HT HQ
                go_wp2_with fail
                go_ret2
                exact ⟨by rw [HE.out]; rfl, hbl2⟩
            · have hrl := rb_le _ x n hrb
              rw [List.length_drop, byt_len] at hrl
              obtain ⟨hn1, hn2⟩ := hrl
              have HE : Hid (quo (byt s) = (rq f ((byt s).drop (k + n))).map fun q => ((done ++ [x]) ++ q.1, k + n + q.2)) := by
                unfold Hid; rw [HT.out, rq_some f _ x n hrb HNE.out, List.drop_drop]
                cases rq f ((byt s).drop (k + n)) with
                | none => rfl
                | some q => simp [Nat.add_assoc]
              clear HT HQ hrb
              by_cases hj2 : j < 256
              · go_wp2_with fail
                go_roundw
                case rel => exact ⟨k + n, done ++ [x], f, by omega, by omega, by go_num, by simp; omega, by omega, hown2, hbl2, HE⟩
                case measure => simp [intOf]; omega
              · have hj3 : j = 256 := by omega
                subst hj3
                go_wp2_with fail
                go_roundw
                case rel => exact ⟨k + n, done ++ [x], f, by omega, by omega, by go_num, by simp; omega, by omega, hown2, hbl2, HE⟩
                case measure => simp [intOf]; omega
      · have HE : Hid (quo (byt s) = none) := by
          unfold Hid; rw [HT.out, List.drop_eq_nil_of_le (by rw [byt_len]; omega)]; rfl
        have hke : k = s.size := by omega
        subst hke
        clear HT HQ
        go_wp2
        go_ret2
        exact ⟨by rw [HE.out]; rfl, hbl⟩
  · rw [decide_eq_false hc] at hp
    have HF := Lib.hid (quo_no s hp)
    have hn := b34n_f hc
    have hz : ((s.size : Int) == 0) = false := by rw [beq_eq_false_iff_ne]; omega
    clear hp hc
    go_enter Tryd.func39, Tryd.ntmps39
    go_wp2_with fail
    go_ret2
    exact ⟨by rw [HF.out]; rfl, Below.refl _ _⟩
end Go.Proofs.YtakmaijbekaflaaDoor
