/- List. -/
import Derived.Test.YtocmnobcccjenaaDoorWaN
import Derived.Test.YtocmnobcccjenaaDoorWaF
import Derived.Test.YtocmnobcccjenaaDoorWaK
import Derived.Shelf.Strings.OnBuilder
namespace Go.Proofs.YtocmnobcccjenaaDoor
open Go.RowKit

/-- As Ints, in a block below B. -/
def IntsB (B : Nat) (w : World) (v : Value) (zs : List Int) : Prop :=
  ∃ a cap, v = .slice a zs.length cap ∧ zs.length ≤ cap ∧ cap ≤ 140737488355328 ∧ (zs ≠ [] → ∃ b off, a = some ⟨b, off, none⟩ ∧ b < B ∧ ∀ j (h : j < zs.length), w.cell? ⟨b, off + j, none⟩ = some (.int .i64 zs[j]))
theorem IntsB.below {B : Nat} {w w' : World} {v : Value} {zs : List Int} (h : IntsB B w v zs) (hb : Below B w w') : IntsB B w' v zs := by
  obtain ⟨a, cap, hv, hc, hc2, h⟩ := h
  refine ⟨a, cap, hv, hc, hc2, fun hn => ?_⟩
  obtain ⟨b, off, ha, hlt, hcell⟩ := h hn
  exact ⟨b, off, ha, hlt, fun j hj => (hb.cell (p := ⟨b, off + j, none⟩) hlt).trans (hcell j hj)⟩
theorem IntsB.ints {B : Nat} {w : World} {v : Value} {zs : List Int} (h : IntsB B w v zs) (hB : B ≤ w.heap.size) : Ints w v zs := by
  obtain ⟨a, cap, hv, hc, _, h⟩ := h
  refine ⟨a, cap, hv, hc, fun hn => ?_⟩
  obtain ⟨b, off, ha, hlt, hcell⟩ := h hn
  exact ⟨b, off, ha, by omega, hcell⟩

/-- The form of the run that a list begins with. -/
def partL (zs : List Int) : List UInt8 := Lib.itoa (zs.getD 0 0) ++ (if 1 < runL zs then 45 :: Lib.itoa (zs.getD (runL zs - 1) 0) else [])
def partsL : Nat → List Int → List (List UInt8)
  | 0, _ => []
  | _ + 1, [] => []
  | f + 1, a :: r => partL (a :: r) :: partsL f ((a :: r).drop (runL (a :: r)))
def listV (zs : List Int) : List UInt8 := if chkE zs = 0 then (if zs = [] then [45] else Lib.join (partsL (zs.length + 1) zs) [44]) else []
theorem partsL_cons (f : Nat) (zs : List Int) (h : zs ≠ []) : partsL (f + 1) zs = partL zs :: partsL f (zs.drop (runL zs)) := by
  cases zs with
  | nil => exact absurd rfl h
  | cons a r => rfl
theorem info9 : (Tryd.prog.info? 9).map (fun i => (i.zero, i.size, i.bytes)) = some (some (.string ByteArray.empty), 1, 16) := by kernel_rfl
theorem chk_rng {zs : List Int} (h : chkE zs = 0) : zs.length ≤ 500 ∧ ∀ x ∈ zs, 0 ≤ x ∧ x ≤ 1000000000 := by
  unfold chkE at h
  split at h
  · cases h
  · split at h
    · cases h
    · rename_i h1 h2
      refine ⟨by omega, fun x hx => ?_⟩
      have ha : zs.all rngB = true := by simpa using h2
      have := (List.all_eq_true.1 ha) x hx
      unfold rngB at this; simpa using this

/-- One run of List's loop: the strings so far own v; the part is appended. -/
def Strs (w : World) (base : Nat) (v : Value) (l : List (List UInt8)) : Prop := w.ownsRow base 9 1 v l.length (l.map fun c => .string ⟨c.toArray⟩)

def lenOf : Value → Nat | .slice _ n _ => n | _ => 0
theorem join_len (l : List (List UInt8)) (sep : List UInt8) (B : Nat) (h : ∀ x ∈ l, x.length ≤ B) : (Lib.join l sep).length ≤ l.length * (B + sep.length) := by
  induction l with
  | nil => simp [Lib.join]
  | cons a r ih =>
    have ha := h a (by simp)
    have hi := ih (fun x hx => h x (by simp [hx]))
    cases r with
    | nil => simp [Lib.join]; omega
    | cons b q =>
      have e : Lib.join (a :: b :: q) sep = a ++ sep ++ Lib.join (b :: q) sep := by simp [Lib.join]
      rw [e]
      simp only [List.length_append, List.length_cons] at hi ⊢
      rw [Nat.add_mul (q.length + 1) 1]
      omega
theorem join_own (base : Nat) (v : Value) (l : List (List UInt8)) (sep : List UInt8) (w : World) (h : Strs w base v l) (hN : l.length ≤ 140737488355328) (hlen : (Lib.join l sep).length ≤ 140737488355328) :
    Calls Tryd.prog 18 #[v, .string ⟨sep.toArray⟩] w fun e w' => e = .returned (.string ⟨(Lib.join l sep).toArray⟩) ∧ Below w.heap.size w w' := by
  obtain ⟨h1, h2⟩ := h
  rcases h2 with ⟨rfl, hl⟩ | ⟨g, cap, cur, rfl, hg, hh, hc, hm, hs, ht⟩
  · have : l = [] := List.eq_nil_of_length_eq_zero hl
    subst this
    exact (Tryd.strings_Join_none none 0 _ w).mono fun e w' he => ⟨he.1, he.2 ▸ Below.refl _ _⟩
  · have hx : (l.map fun c => (⟨c.toArray⟩ : ByteArray)).length = l.length := by simp
    have hy : (l.map fun c => (⟨c.toArray⟩ : ByteArray)).map (·.data.toList) = l := by
      rw [List.map_map]; exact List.map_id'' (fun _ => by simp) l
    have := Tryd.strings_Join g 0 cap (l.map fun c => ⟨c.toArray⟩) ⟨sep.toArray⟩ w (fun j x hj => by
      rw [Nat.zero_add, cell_of_block hh j]
      have e : (cur.toList.take (l.length * 1))[j]? = some (.string x) := by
        rw [ht]; simp only [List.getElem?_map] at hj ⊢
        cases hl : l[j]? with
        | none => rw [hl] at hj; cases hj
        | some c => rw [hl] at hj; simp at hj ⊢; exact hj
      have hjl : j < l.length := by
        rw [List.getElem?_map] at hj
        cases hl : l[j]? with
        | none => rw [hl] at hj; cases hj
        | some c => exact (List.getElem?_eq_some_iff.1 hl).1
      rw [List.getElem?_take, if_pos (by omega)] at e
      simpa using e) (Array.getElem?_eq_some_iff.1 hh).1 (by rw [hx]; exact hN) (by rw [hx]; exact hc) (by rw [hy]; simpa using hlen)
    rw [hx, hy] at this
    simpa using this
theorem partL_one {zs : List Int} (h : runL zs = 1) (hne : 0 < zs.length) : partL zs = Lib.itoa zs[0] := by
  unfold partL; rw [h, if_neg (by omega)]
  rw [List.getD_eq_getElem?_getD, List.getElem?_eq_getElem hne]; simp
theorem partL_many {zs : List Int} (q : Nat) (h : runL zs = q + 1) (h1 : 1 ≤ q) (hne : q < zs.length) : partL zs = Lib.itoa (zs[0]'(by omega)) ++ ([45] ++ Lib.itoa zs[q]) := by
  unfold partL; rw [h, if_pos (by omega)]
  rw [List.getD_eq_getElem?_getD, List.getElem?_eq_getElem (by omega), List.getD_eq_getElem?_getD, Nat.add_sub_cancel, List.getElem?_eq_getElem hne]; simp
theorem partL_len {zs : List Int} (hr : ∀ x ∈ zs, 0 ≤ x ∧ x ≤ 1000000000) : (partL zs).length ≤ 41 := by
  have key : ∀ k, (Lib.itoa (zs.getD k 0)).length ≤ 20 := by
    intro k
    have : 0 ≤ zs.getD k 0 ∧ zs.getD k 0 ≤ 1000000000 := by
      rw [List.getD_eq_getElem?_getD]
      cases h : zs[k]? with
      | none => simp
      | some x => simp; exact hr x (List.mem_of_getElem? h)
    exact itoa_len _ (by omega) (by omega)
  unfold partL
  have h1 := key 0
  have h2 := key (runL zs - 1)
  split <;> simp only [List.length_append, List.length_cons, List.length_nil] <;> omega
set_option maxRecDepth 100000 in
set_option maxHeartbeats 4000000 in
theorem list_any (v : Value) (zs : List Int) (w : World) (hw : Lay w) (hv : IntsB w.heap.size w v zs) :
    Calls Tryd.prog 11 #[v] w fun e w' => e = .returned (.tuple #[.string ⟨(listV zs).toArray⟩, .int .i64 (chkE zs)]) ∧ Below w.heap.size w w' := by
  have hI := hv.ints (Nat.le_refl _)
  obtain ⟨i0, hi, hz0, hz1, hz2⟩ := info_parts info9
  by_cases he : chkE zs = 0
  · obtain ⟨hln, hr⟩ := chk_rng he
    have He := Lib.hid he
    have HR := Lib.hid hr
    by_cases hne : zs = []
    · subst hne
      obtain ⟨a, cap, rfl, _, _⟩ := hv
      clear hr he HR hln hi hz0 hz1 hz2
      go_enter Tryd.func11, Tryd.ntmps11
      go_wp2_with (go_at_call 25; refine (checkList_any _ [] _ hI).mono ?_; rintro e w' ⟨rfl, hb⟩; rw [He.out])
      go_ret2
      exact ⟨rfl, hb⟩
    · have hne2 := Lib.hid hne
      have HL : Hid (listV zs = Lib.join (partsL (zs.length + 1) zs) [44]) := by unfold Hid listV; rw [if_pos he, if_neg hne]
      have hpos : ((zs.length : Int) == 0) = false := by
        rw [beq_eq_false_iff_ne]; intro e; apply hne; exact List.eq_nil_of_length_eq_zero (by omega)
      obtain ⟨a, cap, rfl, hcap, hcap2, hcells⟩ := hv
      have hv2 : IntsB w.heap.size w (.slice a zs.length cap) zs := ⟨a, cap, rfl, hcap, hcap2, hcells⟩
      clear he hr hcells hne
      go_enter Tryd.func11, Tryd.ntmps11
      go_wp2_with (go_at_call 25; refine (checkList_any _ zs _ hI).mono ?_; rintro e w0 ⟨rfl, hb0⟩; rw [He.out])
      go_loopw [0, 5] (fun l v wr => ∃ (rest : List Int) (done : List (List UInt8)) (f : Nat), IntsB w.heap.size wr l rest ∧ done.length + rest.length ≤ 500 ∧ Strs wr w.heap.size v done ∧ Below w.heap.size w wr ∧ Hid (∀ x ∈ done, x.length ≤ 41) ∧ Hid (∀ x ∈ rest, 0 ≤ x ∧ x ≤ 1000000000) ∧ rest.length < f ∧ Hid (partsL (zs.length + 1) zs = done ++ partsL f rest)) (fun l _ _ => lenOf l)
      case atStart => exact ⟨zs, [], zs.length + 1, hv2.below hb0, by simpa using hln, World.ownsRow_nil _ _ _ _, hb0, by simp [Hid], HR, by omega, rfl⟩
      case round =>
        obtain ⟨rest, done, f, hIr, hdr, hown, hbl, HD, HRr, hf, HP⟩ := hrel
        have hIr2 := hIr
        have hszw := hbl.size
        obtain ⟨a2, cap2, rfl, hcapr, hcapr2, hcellr⟩ := hIr
        by_cases hre : rest = []
        · subst hre
          have HE : Hid (listV zs = Lib.join done [44]) := by unfold Hid; rw [HL.out, HP.out]; cases f <;> simp [partsL]
          have hjl := join_len done [44] 41 HD.out
          simp only [List.length_cons, List.length_nil] at hjl hdr
          have HJ := Lib.hid (join_own _ _ done [44] wr hown (by omega) (by omega))
          clear hjl hcellr
          go_wp2_with (go_at_call 18; refine (HJ.out).mono ?_; rintro e w' ⟨rfl, hb3⟩)
          go_ret2
          exact ⟨by rw [HE.out, He.out]; rfl, hbl.trans (hb3.mono hszw)⟩
        · obtain ⟨b, off, rfl, hbB, hcs⟩ := hcellr hre
          have hpos2 : 0 < rest.length := by cases rest with
            | nil => exact absurd rfl hre
            | cons _ _ => simp
          have hrl1 := runL_pos rest
          have hrl2 := runL_le rest hre
          obtain ⟨q, hq⟩ : ∃ q, runL rest = q + 1 := ⟨runL rest - 1, by omega⟩
          have cf : Hid (Calls Tryd.prog 26 #[.slice (some ⟨b, off, none⟩) rest.length cap2] wr fun e w' => e = .returned (.int .i64 ((q : Int) + 1)) ∧ Below wr.heap.size wr w') := by
            have := firstRun_any _ rest wr (hIr2.ints hszw) hre HRr.out (by omega); rw [hq] at this; exact this
          obtain ⟨x, hx, hx0, hx1, hcx⟩ : ∃ x, rest[0]? = some x ∧ 0 ≤ x ∧ x ≤ 1000000000 ∧ wr.cell? ⟨b, off, none⟩ = some (.int .i64 x) :=
            ⟨rest[0], List.getElem?_eq_getElem hpos2, (HRr.out _ (List.getElem_mem hpos2)).1, (HRr.out _ (List.getElem_mem hpos2)).2, hcs 0 hpos2⟩
          obtain ⟨y, hy, hy0, hy1, hcy⟩ : ∃ y, rest[q]? = some y ∧ 0 ≤ y ∧ y ≤ 1000000000 ∧ wr.cell? ⟨b, off + q, none⟩ = some (.int .i64 y) :=
            have hql : q < rest.length := by omega
            ⟨rest[q], List.getElem?_eq_getElem hql, (HRr.out _ (List.getElem_mem hql)).1, (HRr.out _ (List.getElem_mem hql)).2, hcs q hql⟩
          have hlx := itoa_len x (by omega) (by omega)
          have hly := itoa_len y (by omega) (by omega)
          have Hcx := Lib.hid hcx
          have Hcy := Lib.hid hcy
          have hqc : (q : Int) + 1 ≤ (rest.length : Int) := by omega
          have hqn : q + 1 ≤ rest.length := by omega
          have hgd : ∀ (k : Nat) (z : Int), rest[k]? = some z → rest.getD k 0 = z := fun k z h => by rw [List.getD_eq_getElem?_getD, h]; rfl
          have HPL : Hid (partL rest = Lib.itoa x ++ (if 1 < q + 1 then 45 :: Lib.itoa y else [])) := by
            unfold Hid partL; rw [hq, hgd 0 x hx, Nat.add_sub_cancel, hgd q y hy]
          have HP2 : Hid (∃ g, f = g + 1 ∧ partsL (zs.length + 1) zs = (done ++ [partL rest]) ++ partsL g (rest.drop (q + 1))) := by
            refine ⟨f - 1, by omega, ?_⟩
            obtain ⟨g, rfl⟩ : ∃ g, f = g + 1 := ⟨f - 1, by omega⟩
            rw [HP.out, partsL_cons g rest hre, hq]; simp
          have HD2 : Hid (∀ x ∈ done ++ [partL rest], x.length ≤ 41) := by
            intro x hx
            rcases List.mem_append.1 hx with h | h
            · exact HD.out x h
            · simp at h; rw [h]; exact partL_len HRr.out
          have HR2 : Hid (∀ x ∈ rest.drop (q + 1), 0 ≤ x ∧ x ≤ 1000000000) := fun x hx => HRr.out x (List.mem_of_mem_drop hx)
          have hLr := hw.next hbl
          have HIr2 : Hid (∀ W, Below w.heap.size wr W → IntsB w.heap.size W (.slice (if cap2 = q + 1 then some ⟨b, off, none⟩ else some ⟨b, off + (q + 1), none⟩) (rest.length - (q + 1)) (cap2 - (q + 1))) (rest.drop (q + 1))) := by
            intro W hW
            refine ⟨_, _, by rw [List.length_drop], by rw [List.length_drop]; omega, by omega, fun hn => ?_⟩
            by_cases hcap3 : cap2 = q + 1
            · exact absurd (List.eq_nil_of_length_eq_zero (by rw [List.length_drop]; omega)) hn
            · rw [if_neg hcap3]
              refine ⟨b, off + (q + 1), rfl, hbB, fun j hj => ?_⟩
              rw [List.length_drop] at hj
              rw [hW.cell (p := ⟨b, off + (q + 1) + j, none⟩) hbB, List.getElem_drop, show off + (q + 1) + j = off + ((q + 1) + j) from by omega]
              exact hcs _ (by omega)
          clear hcellr hcs hre hq HP HD HRr hne2 HL hx hy hgd hcx hcy hrl1 hrl2
          by_cases hq1 : q = 0
          · subst hq1
            go_wp2_with fail
            refine (cf.out).mono ?_
            rintro e w1 ⟨rfl, hb1⟩
            have hc1 : w1.cell? ⟨b, off, none⟩ = some (.int .i64 x) := (hb1.cell (p := ⟨b, off, none⟩) (show b < wr.heap.size by omega)).trans Hcx.out
            go_wp2_with fail
            refine (digits_any x _ (hLr.next hb1) (by omega) (by omega)).mono ?_
            rintro e w2 ⟨rfl, hb2⟩
            have hown2 := own_below (own_below hown hb1) hb2
            have hs1 := hb1.size
            have hs2 := hb2.size
            go_wp2_with (at_builtin; refine wpList_append_own _ rfl _ _ 39 rfl w.heap.size 9 i0 (.string ByteArray.empty) 1 16 Tryd.underlying39 hi hz0 hz1 hz2 rfl (by decide) _ _ _ rfl (hown2.alloc _) ⟨w2.heap.size, 0, none⟩ 1 1 [.string ⟨(Lib.itoa x).toArray⟩] rfl rfl ?c1 ?c2 ?c3 ?c4 ?c5 ?_; rotate_left 5; intro v' w3 hown' hgrow _)
            case c1 => exact cell_one_new _ _ _
            case c2 => simp [Value.oneCell']
            case c3 => unfold maxLen; omega
            case c4 => omega
            case c5 => simp; omega
            go_roundw
            case rel =>
              obtain ⟨g, hg, hp⟩ := HP2.out
              have hbr : Below w.heap.size wr w2 := (hb1.mono hszw).trans (hb2.mono (by omega))
              have hbr3 : Below w.heap.size wr w3 := (hbr.alloc (by omega) _).grown hgrow (by simp; omega) (fun j e => (hown2.lt j e).1)
              refine ⟨rest.drop (0 + 1), done ++ [partL rest], g, HIr2.out _ hbr3, by simp; omega, ?_, hbl.trans hbr3, HD2, HR2, by simp; omega, hp⟩
              unfold Strs
              rw [List.length_append, List.map_append, HPL.out]
              simpa using hown'
            case measure => simp only [lenOf]; omega
          · have hq2 : (1 : Int) < (q : Int) + 1 := by omega
            go_wp2_with fail
            refine (cf.out).mono ?_
            rintro e w1 ⟨rfl, hb1⟩
            have hc1 : w1.cell? ⟨b, off, none⟩ = some (.int .i64 x) := (hb1.cell (p := ⟨b, off, none⟩) (show b < wr.heap.size by omega)).trans Hcx.out
            go_wp2_with fail
            refine (digits_any x _ (hLr.next hb1) (by omega) (by omega)).mono ?_
            rintro e w2 ⟨rfl, hb2⟩
            have hs1 := hb1.size
            have hs2 := hb2.size
            clear hc1
            have hc2 : w2.cell? ⟨b, off + q, none⟩ = some (.int .i64 y) := (hb2.cell (p := ⟨b, off + q, none⟩) (show b < w1.heap.size by omega)).trans ((hb1.cell (p := ⟨b, off + q, none⟩) (show b < wr.heap.size by omega)).trans Hcy.out)
            have hq3 : (q : Int) < (rest.length : Int) := by omega
            go_wp2_with fail
            refine (digits_any y _ ((hLr.next hb1).next hb2) (by omega) (by omega)).mono ?_
            rintro e w2b ⟨rfl, hb2b⟩
            have hs3 := hb2b.size
            have hown2 := own_below (own_below (own_below hown hb1) hb2) hb2b
            go_wp2_with (at_builtin; refine wpList_append_own _ rfl _ _ 39 rfl w.heap.size 9 i0 (.string ByteArray.empty) 1 16 Tryd.underlying39 hi hz0 hz1 hz2 rfl (by decide) _ _ _ rfl (hown2.alloc _) ⟨w2b.heap.size, 0, none⟩ 1 1 [.string (⟨(Lib.itoa x).toArray⟩ ++ (⟨#[45]⟩ ++ ⟨(Lib.itoa y).toArray⟩))] rfl rfl ?c1 ?c2 ?c3 ?c4 ?c5 ?_; rotate_left 5; intro v' w3 hown' hgrow _)
            case c1 => exact cell_one_new _ _ _
            case c2 => simp [Value.oneCell']
            case c3 => unfold maxLen; omega
            case c4 => omega
            case c5 => simp; omega
            go_roundw
            case rel =>
              obtain ⟨g, hg, hp⟩ := HP2.out
              have hbr : Below w.heap.size wr w2b := ((hb1.mono hszw).trans (hb2.mono (by omega))).trans (hb2b.mono (by omega))
              have hbr3 : Below w.heap.size wr w3 := (hbr.alloc (by omega) _).grown hgrow (by simp; omega) (fun j e => (hown2.lt j e).1)
              refine ⟨rest.drop (q + 1), done ++ [partL rest], g, HIr2.out _ hbr3, by simp; omega, ?_, hbl.trans hbr3, HD2, HR2, by simp; omega, hp⟩
              unfold Strs
              rw [List.length_append, List.map_append, HPL.out]
              have hcat : (⟨(Lib.itoa x).toArray⟩ : ByteArray) ++ (⟨#[45]⟩ ++ ⟨(Lib.itoa y).toArray⟩) = ⟨(Lib.itoa x ++ (if 1 < q + 1 then 45 :: Lib.itoa y else [])).toArray⟩ := by
                rw [if_pos (by omega), show (⟨#[45]⟩ : ByteArray) = ⟨[45].toArray⟩ from rfl, cat_mk, cat_mk]; rfl
              rw [hcat] at hown'
              exact hown'
            case measure => simp only [lenOf]; omega
  · have HE : Hid (listV zs = []) := by unfold Hid listV; rw [if_neg he]
    have hb : (chkE zs != 0) = true := by simpa using he
    clear he hi hz0 hz1 hz2
    go_enter Tryd.func11, Tryd.ntmps11
    go_wp2_with (go_at_call 25; refine (checkList_any _ zs _ hI).mono ?_; rintro e w' ⟨rfl, hb⟩)
    go_ret2
    exact ⟨by rw [HE.out]; rfl, hb⟩
end Go.Proofs.YtocmnobcccjenaaDoor
