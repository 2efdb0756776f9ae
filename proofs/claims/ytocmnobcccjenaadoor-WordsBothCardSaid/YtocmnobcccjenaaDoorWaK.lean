/- readQuoted, Unquote. -/
import Derived.Test.YtocmnobcccjenaaDoorWaJ
import Derived.Deep.Cut
import Derived.Laws.BytesArg
import Derived.OwnWalk
import Derived.Maps.AppendAt
namespace Go.Proofs.YtocmnobcccjenaaDoor
open Go.RowKit

/-- What stands before the closing quote, and how many bytes are read (with it). -/
def rq : Nat → List UInt8 → Option (List UInt8 × Nat)
  | 0, _ => none
  | _ + 1, [] => none
  | f + 1, c :: r => if c = 34 then some ([], 1) else (rb (c :: r)).bind fun p => (rq f ((c :: r).drop p.2)).map fun q => (p.1 :: q.1, p.2 + q.2)
/-- The string of the quoted form that a text begins with, and how many bytes the form has. -/
def quo : List UInt8 → Option (List UInt8 × Nat)
  | [] => none
  | c :: r => if c = 34 then (rq (r.length + 1) r).map fun q => (q.1, 1 + q.2) else none
def qT (o : Option (List UInt8 × Nat)) : List UInt8 := (o.map (·.1)).getD []
def qN (o : Option (List UInt8 × Nat)) : Int := (((o.map (·.2)).getD 0 : Nat) : Int)

theorem rb_le (l : List UInt8) (c : UInt8) (n : Nat) (h : rb l = some (c, n)) : 1 ≤ n ∧ n ≤ l.length := by
  cases l with
  | nil => cases h
  | cons a r =>
    have e : rb (a :: r) = if a = 92 then rbEsc r else if pl8 a = true then some (a, 1) else none := rfl
    rw [e] at h
    by_cases ha : a = 92
    · rw [if_pos ha] at h
      cases r with
      | nil => cases h
      | cons d t =>
        have e2 : rbEsc (d :: t) = if d = 120 then rbHex t else if unB d.toNat = true then some (UInt8.ofNat (unV d.toNat).toNat, 2) else none := rfl
        rw [e2] at h
        by_cases hd : d = 120
        · rw [if_pos hd] at h
          match t, h with
          | [], h => cases h
          | [_], h => cases h
          | x :: y :: q, h =>
            simp only [rbHex] at h
            split at h
            · injection h with h; injection h with _ h; subst h; simp
            · cases h
        · rw [if_neg hd] at h
          split at h
          · injection h with h; injection h with _ h; subst h; simp
          · cases h
    · rw [if_neg ha] at h
      split at h
      · injection h with h; injection h with _ h; subst h; simp
      · cases h

theorem rq_fuel (f : Nat) : ∀ (g : Nat) (l : List UInt8), l.length < f → l.length < g → rq f l = rq g l := by
  induction f with
  | zero => intro g l h _; omega
  | succ f ih =>
    intro g l h h2
    obtain ⟨g, rfl⟩ : ∃ k, g = k + 1 := ⟨g - 1, by omega⟩
    cases l with
    | nil => rfl
    | cons c r =>
      show (if c = 34 then _ else _) = (if c = 34 then _ else _)
      by_cases hc : c = 34
      · rw [if_pos hc, if_pos hc]
      · rw [if_neg hc, if_neg hc]
        cases hr : rb (c :: r) with
        | none => rfl
        | some p =>
          have := rb_le _ p.1 p.2 hr
          show Option.map _ (rq f _) = Option.map _ (rq g _)
          rw [ih g _ (by simp at this h ⊢; omega) (by simp at this h2 ⊢; omega)]
/-- A row of bytes of the call's own. -/
def Bys (w : World) (base : Nat) (v : Value) (l : List UInt8) : Prop := w.ownsRow base 5 1 v l.length (l.map fun c => .int .u8 (c.toNat : Int))
theorem own_below {w w' : World} {base : Nat} {e : TypeId} {size : Nat} {v : Value} {n : Nat} {xs : List Value} (h : w.ownsRow base e size v n xs) (hb : Below w.heap.size w w') : w'.ownsRow base e size v n xs := by
  obtain ⟨h1, h2⟩ := h
  refine ⟨h1, ?_⟩
  rcases h2 with h2 | ⟨g, cap, cur, hv, hg, hh, r⟩
  · exact .inl h2
  · exact .inr ⟨g, cap, cur, hv, hg, by rw [hb.block g (Array.getElem?_eq_some_iff.1 hh).1]; exact hh, r⟩
theorem Bys.below {w w' : World} {base : Nat} {v : Value} {l : List UInt8} (h : Bys w base v l) (hb : Below w.heap.size w w') : Bys w' base v l := own_below h hb
theorem conv_bys {W : World} {base : Nat} {v : Value} {l : List UInt8} (h : Bys W base v l) :
    (convert 56 9 v).run Tryd.prog W = .ok (.string ⟨l.toArray⟩) W := by
  obtain ⟨h1, h2⟩ := h
  rcases h2 with ⟨rfl, hl⟩ | ⟨g, cap, cur, rfl, hg, hh, hc, hm, hs, ht⟩
  · have : l = [] := List.eq_nil_of_length_eq_zero hl
    subst this
    exact run_convert_bytes_nil W 56 5 Tryd.underlying56 Tryd.underlying5 0 0 9 Tryd.underlying9
  · exact run_convert_bytes_back W 56 9 5 ⟨g, 0, none⟩ cap l Tryd.underlying56 Tryd.underlying5 Tryd.underlying9 (fun j hj => by
      have e : (⟨g, 0, none⟩ : Addr).add j = ⟨g, j, none⟩ := by simp [Addr.add]; intro h; exact h.symm
      rw [e, cell_of_block hh j]
      have : (cur.toList.take (l.length * 1))[j]? = some (.int .u8 (l[j].toNat : Int)) := by rw [ht]; simp [hj]
      rw [List.getElem?_take, if_pos (by omega)] at this
      simpa using this)

theorem byt_drop (s : ByteArray) (k : Nat) : byt (s.extract k s.size) = (byt s).drop k := by
  simp only [byt, ByteArray.data_extract, Array.toList_extract, List.extract_eq_take_drop]
  exact List.take_of_length_le (by simp)
theorem info5 : (Tryd.prog.info? 5).map (fun i => (i.zero, i.size, i.bytes)) = some (some (.int .u8 0), 1, 1) := by kernel_rfl

theorem rq_q (f : Nat) (l : List UInt8) (h : l.head? = some 34) : rq (f + 1) l = some ([], 1) := by
  cases l with
  | nil => cases h
  | cons c r => simp at h; subst h; rfl
theorem rq_none (f : Nat) (l : List UInt8) (h : rb l = none) (hq : l.head? ≠ some 34) : rq (f + 1) l = none := by
  cases l with
  | nil => rfl
  | cons c r =>
    show (if c = 34 then _ else _) = _
    rw [if_neg (by simpa using hq), h]; rfl
theorem rq_some (f : Nat) (l : List UInt8) (c : UInt8) (n : Nat) (h : rb l = some (c, n)) (hq : l.head? ≠ some 34) : rq (f + 1) l = (rq f (l.drop n)).map fun q => (c :: q.1, n + q.2) := by
  cases l with
  | nil => cases h
  | cons d r =>
    show (if d = 34 then _ else _) = _
    rw [if_neg (by simpa using hq), h]; rfl
theorem b34_t {c : UInt8} (h : c = 34) : ((c.toNat : Int) == 34) = true := by rw [h]; rfl
theorem b34_f {c : UInt8} (h : c ≠ 34) : ((c.toNat : Int) == 34) = false := by
  rw [beq_eq_false_iff_ne]; intro e; apply h; rw [← UInt8.toNat_inj]; simp; omega
theorem head_drop (s : ByteArray) (k : Nat) (h : k < s.size) : ((byt s).drop k).head? = some s[k] := by
  rw [List.head?_drop]; exact byt_at s k h
theorem quo_cons (s : ByteArray) (h : Lib.hasPrefix (byt s) [34] = true) : 0 < s.size ∧ quo (byt s) = (rq (s.size + 1) ((byt s).drop 1)).map fun q => (q.1, 1 + q.2) := by
  have hl : (byt s).length = s.size := byt_len s
  match hb : byt s, h, hl with
  | [], h, _ => cases h
  | c :: r, h, hl =>
    have hc : c = 34 := by simp [Lib.hasPrefix] at h; exact h.symm
    subst hc
    simp at hl
    refine ⟨by omega, ?_⟩
    have e : quo (34 :: r) = (rq (r.length + 1) r).map fun q => (q.1, 1 + q.2) := rfl
    rw [e]
    show _ = Option.map (fun q : List UInt8 × Nat => (q.1, 1 + q.2)) (rq (s.size + 1) r)
    rw [rq_fuel (r.length + 1) (s.size + 1) r (by omega) (by omega)]
theorem quo_no (s : ByteArray) (h : Lib.hasPrefix (byt s) [34] = false) : quo (byt s) = none := by
  match hb : byt s, h with
  | [], _ => rfl
  | c :: r, h =>
    have hc : ¬ c = 34 := by intro e; subst e; simp [Lib.hasPrefix] at h
    show (if c = 34 then _ else _) = _
    rw [if_neg hc]

set_option maxRecDepth 100000 in
set_option maxHeartbeats 4000000 in
theorem readQuoted_any (s : ByteArray) (w : World) (hw : Lay w) (hs : s.size ≤ 140737488351232) :
    Calls Tryd.prog 28 #[.string s] w fun e w' => e = .returned (.tuple #[.string ⟨(qT (quo (byt s))).toArray⟩, .int .i64 (qN (quo (byt s))), .bool (quo (byt s)).isSome]) ∧ Below w.heap.size w w' := by
  cases hp : Lib.hasPrefix (byt s) [34]
  · have HF := Lib.hid (quo_no s hp)
    have hp' : Lib.hasPrefix s.data.toList [34] = false := hp
    clear hp
    go_enter Tryd.func28, Tryd.ntmps28
    go_wp2_with (go_at_call 46; refine (hasPrefix_any _ _ _).mono ?_; rintro e w' ⟨rfl, rfl⟩)
    go_ret3
    exact ⟨by rw [HF.out]; rfl, Below.refl _ _⟩
  · obtain ⟨h0, hq⟩ := quo_cons s hp
    have HQ := Lib.hid hq
    have hp' : Lib.hasPrefix s.data.toList [34] = true := hp
    clear hp hq
    obtain ⟨i0, hi, hz0, hz1, hz2⟩ := info_parts info5
    go_enter Tryd.func28, Tryd.ntmps28
    go_wp2_with (go_at_call 46; refine (hasPrefix_any _ _ _).mono ?_; rintro e w' ⟨rfl, rfl⟩)
    go_loopw [5, 6] (fun v i wr => ∃ (k : Nat) (done : List UInt8) (f : Nat), 1 ≤ k ∧ k ≤ s.size ∧ i = .int .i64 k ∧ done.length < k ∧ s.size - k < f ∧ Bys wr w.heap.size v done ∧ Below w.heap.size w wr ∧ Hid (quo (byt s) = (rq f ((byt s).drop k)).map fun q => (done ++ q.1, k + q.2))) (fun _ i _ => s.size - (intOf i).toNat)
    case atStart => exact ⟨1, [], s.size + 1, by omega, by omega, rfl, by simp, by omega, World.ownsRow_nil _ _ _ _, Below.refl _ _, HQ⟩
    case round =>
      obtain ⟨k, done, f, hk1, hk, rfl, hdk, hf, hown, hbl, HT⟩ := hrel
      obtain ⟨f, rfl⟩ : ∃ g, f = g + 1 := ⟨f - 1, by omega⟩
      by_cases hlt : k < s.size
      · have hhd := head_drop s k hlt
        by_cases hc : s[k] = 34
        · have hb := b34_t hc
          have HE : Hid (quo (byt s) = some (done, k + 1)) := by unfold Hid; rw [HT.out, rq_q f _ (by rw [hhd, hc])]; simp
          have hcv := conv_bys hown
          clear hhd hc HT HQ
          go_wp2
          go_ret3
          exact ⟨by rw [HE.out]; rfl, hbl⟩
        · have hb := b34_f hc
          have hne : ((byt s).drop k).head? ≠ some 34 := by rw [hhd]; simpa using hc
          cases hr : rb ((byt s).drop k) with
          | none =>
            have HE : Hid (quo (byt s) = none) := by unfold Hid; rw [HT.out, rq_none f _ hr hne]; rfl
            have hr' := Lib.hid (show rb (byt (s.extract k s.size)) = none by rw [byt_drop]; exact hr)
            have hLw := hw.next hbl
            clear hhd hc HT HQ hr hne
            go_wp2_with (go_at_call 47; refine (readByte_none _ _ hLw (by simp; omega) (by simp; omega) hr'.out).mono ?_; rintro e w' ⟨a, b, rfl, hb2⟩)
            go_ret3
            exact ⟨by rw [HE.out]; rfl, hbl.trans (hb2.mono hbl.size)⟩
          | some p =>
            obtain ⟨c, n⟩ := p
            have hrl := rb_le _ c n hr
            rw [List.length_drop, byt_len] at hrl
            obtain ⟨hn1, hn2⟩ := hrl
            have HE : Hid (quo (byt s) = (rq f ((byt s).drop (k + n))).map fun q => ((done ++ [c]) ++ q.1, k + n + q.2)) := by
              unfold Hid; rw [HT.out, rq_some f _ c n hr hne, List.drop_drop]
              cases rq f ((byt s).drop (k + n)) with
              | none => rfl
              | some q => simp [Nat.add_assoc]
            have hr' := Lib.hid (show rb (byt (s.extract k s.size)) = some (c, n) by rw [byt_drop]; exact hr)
            have hLw := hw.next hbl
            clear hhd hc HT HQ hr hne
            go_wp2_with (first
              | (go_at_call 47; refine (readByte_some _ _ hLw (by simp; omega) (by simp; omega) c n hr'.out).mono ?_; rintro e w' ⟨rfl, hb2⟩; have hown2 := own_below hown hb2; have hsz2 := hb2.size; have hsz1 := hbl.size)
              | (at_builtin; refine wpList_append_own _ rfl _ _ 56 rfl w.heap.size 5 i0 (.int .u8 0) 1 1 Tryd.underlying56 hi hz0 hz1 hz2 rfl (by decide) _ _ _ rfl (hown2.alloc _) ⟨w'.heap.size, 0, none⟩ 1 1 [.int .u8 c.toNat] rfl rfl ?c1 ?c2 ?c3 ?c4 ?c5 ?_; rotate_left 5; intro v' w1 hown' hgrow _))
            case c1 => exact cell_one_new _ _ _
            case c2 => simp [Value.oneCell']
            case c3 => unfold maxLen; omega
            case c4 => omega
            case c5 => simp; omega
            go_roundw
            case rel => exact ⟨k + n, done ++ [c], f, by omega, by omega, by go_num, by simp; omega, by omega, by unfold Bys; rw [List.length_append, List.map_append]; exact hown', (((hbl.trans (hb2.mono hsz1)).alloc (by omega) _)).grown hgrow (by simp; omega) (fun j e => (hown2.lt j e).1), HE⟩
            case measure => simp [intOf]; omega
      · have HE : Hid (quo (byt s) = none) := by
          unfold Hid; rw [HT.out, List.drop_eq_nil_of_le (by rw [byt_len]; omega)]; rfl
        clear HT HQ
        go_wp2
        go_ret3
        exact ⟨by rw [HE.out]; rfl, hbl⟩
end Go.Proofs.YtocmnobcccjenaaDoor
