/-
  Reading the text of an address: what is read is the address that has the text. Plain: nothing here speaks of the program.
-/
import Derived.Test.YtckakpcjbndijabDoorReadLib
namespace Go.Proofs.YtckakpcjbndijabDoor
open Go.RowKit

/-- The two bytes of a number. -/
def put16N (n : Nat) : List UInt8 := put16 (n : Int)
set_option maxRecDepth 100000 in
theorem put16_words (ns : List Nat) (h : ∀ n ∈ ns, n < 65536) : wordsL (ns.flatMap put16N) = ns.map Int.ofNat := by
  induction ns with
  | nil => rfl
  | cons n ns ih =>
    have hn := h n (by simp)
    have e := ih (fun m hm => h m (by simp [hm]))
    have h1 := byteOf_val ((n : Int) / 256)
    have h2 := byteOf_val (n : Int)
    rw [List.flatMap_cons, List.map_cons, ← e]
    simp only [put16N, put16, List.cons_append, List.nil_append, wordsL]
    congr 1
    simp only [Int.ofNat_eq_natCast]
    omega
set_option maxRecDepth 100000 in
theorem put16_len (ns : List Nat) : (ns.flatMap put16N).length = 2 * ns.length := by
  induction ns with
  | nil => rfl
  | cons n ns ih => rw [List.flatMap_cons, List.length_append, ih]; simp [put16N, put16]; omega
set_option maxRecDepth 100000 in
theorem words_put16 : ∀ bs : List UInt8, bs.length % 2 = 0 → ((wordsL bs).map Int.toNat).flatMap put16N = bs
  | [], _ => rfl
  | [_], h => by simp at h
  | a :: b :: l, h => by
    have ih := words_put16 l (by simp at h; omega)
    have ha := UInt8.toNat_lt a
    have hb := UInt8.toNat_lt b
    simp only [wordsL, List.map_cons, List.flatMap_cons]
    rw [ih]
    have e : (((256 * (a.toNat : Int) + b.toNat).toNat : Nat) : Int) = 256 * a.toNat + b.toNat := by omega
    rw [put16N, e, put16, byteOf_eq _ a (by omega), byteOf_eq _ b (by omega)]
    rfl

/-- What the program reads. -/
def rd4 (s : List UInt8) : Option (List UInt8) := if (splitC 46 s).length = 4 ∧ (splitC 46 s).all part4 = true then some ((splitC 46 s).map byte4) else none
def rd6 (s : List UInt8) : Option (List UInt8) := if (splitC 58 s).length = 8 ∧ (splitC 58 s).all okG = true then some (((splitC 58 s).map valG).flatMap put16N) else none
def rdA (s : List UInt8) : Option Ad := if 58 ∈ s then (rd6 s).map ofA else (rd4 s).map ofA

set_option maxRecDepth 100000 in
theorem numB_no (b c : UInt8) (h : isDig c = false) : c ∉ numB b := fun hm => by
  have := List.all_eq_true.1 (numB_facts b).1 c hm
  rw [h] at this
  cases this
set_option maxRecDepth 100000 in
theorem hexN_no (n : Nat) (h : n < 65536) (c : UInt8) (hc : ¬ hexV c < 16) : c ∉ hexN n := fun hm => by
  have h1 := (okG_hex n h).1
  simp only [okG, Bool.and_eq_true, List.all_eq_true, decide_eq_true_eq] at h1
  exact hc (h1.1.2 c hm)
set_option maxRecDepth 100000 in
theorem text4_split (bs : List UInt8) (h : bs ≠ []) : splitC 46 (text4 bs) = bs.map numB := by
  refine split_join 46 _ (by simpa using h) (fun p hp => ?_)
  obtain ⟨b, _, rfl⟩ := List.mem_map.1 hp
  exact numB_no b 46 (by decide)
set_option maxRecDepth 100000 in
theorem text4_no (bs : List UInt8) : (58 : UInt8) ∉ text4 bs := by
  refine join_not_mem 46 58 (by decide) _ (fun p hp => ?_)
  obtain ⟨b, _, rfl⟩ := List.mem_map.1 hp
  exact numB_no b 58 (by decide)
set_option maxRecDepth 100000 in
theorem words_nat (bs : List UInt8) (n : Int) (h : n ∈ wordsL bs) : n.toNat < 65536 := by
  obtain ⟨j, hj⟩ := List.getElem?_of_mem h
  have := wordsL_le bs j n hj
  omega
set_option maxRecDepth 100000 in
theorem text6_split (bs : List UInt8) (h : wordsL bs ≠ []) : splitC 58 (text6 bs) = (wordsL bs).map hexW := by
  refine split_join 58 _ (by simpa using h) (fun p hp => ?_)
  obtain ⟨n, hn, rfl⟩ := List.mem_map.1 hp
  exact hexN_no _ (words_nat bs n hn) 58 (by decide)
set_option maxRecDepth 100000 in
theorem text6_no (bs : List UInt8) : (46 : UInt8) ∉ text6 bs := by
  refine join_not_mem 58 46 (by decide) _ (fun p hp => ?_)
  obtain ⟨n, hn, rfl⟩ := List.mem_map.1 hp
  exact hexN_no _ (words_nat bs n hn) 46 (by decide)

set_option maxRecDepth 100000 in
theorem rd4_iff (s bs : List UInt8) : rd4 s = some bs ↔ bs.length = 4 ∧ text4 bs = s := by
  unfold rd4
  constructor
  · intro h
    split at h
    · rename_i hc
      obtain ⟨h1, h2⟩ := hc
      have e := Option.some.inj h
      refine ⟨by rw [← e, List.length_map, h1], ?_⟩
      have e2 : bs.map numB = splitC 46 s := by
        rw [← e, List.map_map]
        conv => rhs; rw [← List.map_id (splitC 46 s)]
        refine List.map_congr_left (fun p hp => ?_)
        exact num_part4 p (List.all_eq_true.1 h2 p hp)
      rw [text4, e2, join_split]
    · cases h
  · rintro ⟨h1, rfl⟩
    have e := text4_split bs (by intro e; rw [e] at h1; cases h1)
    rw [e, if_pos ⟨by rw [List.length_map, h1], by
      rw [List.all_eq_true]
      intro p hp
      obtain ⟨b, _, rfl⟩ := List.mem_map.1 hp
      exact (part4_num b).1⟩, List.map_map]
    congr 1
    conv => rhs; rw [← List.map_id bs]
    exact List.map_congr_left (fun b _ => (part4_num b).2)
set_option maxRecDepth 100000 in
theorem rd6_iff (s bs : List UInt8) : rd6 s = some bs ↔ bs.length = 16 ∧ text6 bs = s := by
  unfold rd6
  constructor
  · intro h
    split at h
    · rename_i hc
      obtain ⟨h1, h2⟩ := hc
      have e := Option.some.inj h
      refine ⟨by rw [← e, put16_len, List.length_map, h1], ?_⟩
      have hv : ∀ n ∈ (splitC 58 s).map valG, n < 65536 := fun n hn => by
        obtain ⟨p, hp, rfl⟩ := List.mem_map.1 hn
        exact (hex_okG p (List.all_eq_true.1 h2 p hp)).2
      have e2 : (wordsL bs).map hexW = splitC 58 s := by
        rw [← e, put16_words _ hv, List.map_map, List.map_map]
        conv => rhs; rw [← List.map_id (splitC 58 s)]
        refine List.map_congr_left (fun p hp => ?_)
        exact (hex_okG p (List.all_eq_true.1 h2 p hp)).1
      rw [text6, e2, join_split]
    · cases h
  · rintro ⟨h1, rfl⟩
    have hl : (wordsL bs).length = 8 := by rw [wordsL_length, h1]
    have e := text6_split bs (by intro e; rw [e] at hl; cases hl)
    rw [e, if_pos ⟨by rw [List.length_map, hl], by
      rw [List.all_eq_true]
      intro p hp
      obtain ⟨n, hn, rfl⟩ := List.mem_map.1 hp
      exact (okG_hex _ (words_nat bs n hn)).1⟩, List.map_map]
    congr 1
    conv => rhs; rw [← words_put16 bs (by omega)]
    congr 1
    exact List.map_congr_left (fun n hn => (okG_hex _ (words_nat bs n hn)).2)
set_option maxRecDepth 100000 in
theorem rd6_mem {s bs : List UInt8} (h : rd6 s = some bs) : (58 : UInt8) ∈ s := by
  unfold rd6 at h
  split at h
  · rename_i hc
    exact split_mem 58 s (by omega)
  · cases h
set_option maxRecDepth 100000 in
theorem of4_text (bs : List UInt8) (h : bs.length = 4) : (ofA bs).ok = true ∧ (ofA bs).text = text4 bs ∧ (ofA bs).k = 4 := by
  rw [ofA_four h]
  have hb := be_le4 bs (by omega)
  have hok : (⟨4, 0, 0, 0, (be bs : Int)⟩ : Ad).ok = true := (Ad.ok_iff _).2 (.inl ⟨rfl, rfl, rfl, rfl, by simp, hb⟩)
  refine ⟨hok, ?_, rfl⟩
  unfold Ad.text
  rw [hok, if_pos rfl, if_pos rfl]
  show text4 (put32 (be bs)) = _
  rw [put32_be4 bs h]
set_option maxRecDepth 100000 in
theorem of6_text (bs : List UInt8) (h : bs.length = 16) : (ofA bs).ok = true ∧ (ofA bs).text = text6 bs ∧ (ofA bs).k = 6 := by
  rw [ofA_six h]
  have hok : (unw 6 bs).ok = true := (Ad.ok_iff _).2 (.inr ⟨rfl, ⟨by simp [unw], be_le4 _ (List.length_take_le _ _)⟩, ⟨by simp [unw], be_le4 _ (List.length_take_le _ _)⟩, ⟨by simp [unw], be_le4 _ (List.length_take_le _ _)⟩, by simp [unw], be_le4 _ (List.length_take_le _ _)⟩)
  refine ⟨hok, ?_, rfl⟩
  unfold Ad.text
  rw [hok, if_pos rfl, if_neg (show ¬ (unw 6 bs).k = 4 by simp [unw]), whole_unw 6 bs h]
set_option maxRecDepth 100000 in
/-- What is read is the address that has the text. -/
theorem rdA_iff (s : List UInt8) (x : Ad) : rdA s = some x ↔ x.ok = true ∧ x.text = s := by
  unfold rdA
  constructor
  · intro h
    split at h
    · obtain ⟨bs, h1, rfl⟩ := Option.map_eq_some_iff.1 h
      obtain ⟨hl, rfl⟩ := (rd6_iff s bs).1 h1
      exact ⟨(of6_text bs hl).1, (of6_text bs hl).2.1⟩
    · obtain ⟨bs, h1, rfl⟩ := Option.map_eq_some_iff.1 h
      obtain ⟨hl, rfl⟩ := (rd4_iff s bs).1 h1
      exact ⟨(of4_text bs hl).1, (of4_text bs hl).2.1⟩
  · rintro ⟨hok, rfl⟩
    rcases x.ok_kind hok with hk | hk
    · have e : x.text = text4 (put32 x.d) := by simp [Ad.text, hok, hk]
      rw [e, if_neg (text4_no _), (rd4_iff _ (put32 x.d)).2 ⟨rfl, rfl⟩]
      rw [Option.map_some, ofA_four rfl, be_put32 x.d (x.halves hok).2.2.2]
      have hz := x.ok_four hok hk
      congr 1
      cases x
      simp_all
    · have e : x.text = text6 x.whole := by simp [Ad.text, hok, hk]
      have h6 := (rd6_iff (text6 x.whole) x.whole).2 ⟨x.whole_length, rfl⟩
      rw [e, if_pos (rd6_mem h6), h6, Option.map_some, ofA_six x.whole_length, ← hk, unw_of_ok x hok]
end Go.Proofs.YtckakpcjbndijabDoor
