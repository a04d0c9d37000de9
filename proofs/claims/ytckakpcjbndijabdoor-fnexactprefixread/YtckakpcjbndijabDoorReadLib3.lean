/-
  What the model's reading of an address comes to. Plain: nothing here speaks of the program.
-/
import Derived.Test.YtckakpcjbndijabDoorValueSpec
namespace Go.Proofs.YtckakpcjbndijabDoor
open Go.RowKit

set_option maxRecDepth 100000 in
theorem hexV_dig10 (b : UInt8) (h : isDig b = true) : hexV b = b.toNat - 48 ∧ hexV b < 10 := by
  simp only [isDig, decide_eq_true_eq] at h
  have e : hexV b = b.toNat - 48 := by rw [hexV, if_pos (by omega)]
  exact ⟨e, by omega⟩
set_option maxRecDepth 100000 in
theorem valB_ten (l : List UInt8) (h : l.all isDig = true) : valB 10 l = val l := by
  obtain ⟨n, hn⟩ : ∃ n, l.length = n := ⟨_, rfl⟩
  induction n generalizing l with
  | zero =>
    obtain rfl : l = [] := List.eq_nil_of_length_eq_zero hn
    rfl
  | succ n ih =>
    obtain ⟨i, b, rfl⟩ : ∃ i b, l = i ++ [b] := by
      rcases List.eq_nil_or_concat l with h | ⟨i, b, h⟩
      · rw [h] at hn; cases hn
      · exact ⟨i, b, by rw [h, List.concat_eq_append]⟩
    rw [List.all_append, Bool.and_eq_true] at h
    rw [valB_snoc, val_snoc, ih i h.1 (by simp at hn; omega), (hexV_dig10 b (by simpa using h.2)).1]
set_option maxRecDepth 100000 in
theorem vB_num (b : UInt8) : vB 10 (numB b) = (b.toNat : Int) := by
  obtain ⟨h1, h2, h3, _⟩ := numB_facts b
  have hl := numB_len b
  rw [vB_yes 10 _ h3 (by omega) (fun c hc => (hexV_dig10 c (List.all_eq_true.1 h1 c hc)).2), valB_ten _ h1, h2]
set_option maxRecDepth 100000 in
theorem vB_hex (n : Nat) (h : n < 65536) : vB 16 (hexN n) = (n : Int) := by
  obtain ⟨h1, h2⟩ := okG_hex n h
  simp only [okG, Bool.and_eq_true, decide_eq_true_eq, List.all_eq_true] at h1
  rw [vB_yes 16 _ h1.1.1.1 h1.1.1.2 h1.1.2]
  exact congrArg Int.ofNat h2

set_option maxRecDepth 100000 in
/-- What is read is of one of two forms. -/
theorem rdA_cases {s : List UInt8} {x : Ad} (h : rdA s = some x) :
    (∃ bs, bs.length = 4 ∧ text4 bs = s ∧ x = ofA bs ∧ splitC 46 s = bs.map numB ∧ (splitC 58 s).length = 1) ∨ (∃ bs, bs.length = 16 ∧ text6 bs = s ∧ x = ofA bs ∧ splitC 58 s = (wordsL bs).map hexW ∧ (splitC 46 s).length = 1) := by
  unfold rdA at h
  split at h
  · obtain ⟨bs, h1, rfl⟩ := Option.map_eq_some_iff.1 h
    obtain ⟨hl, rfl⟩ := (rd6_iff s bs).1 h1
    refine .inr ⟨bs, hl, rfl, rfl, text6_split bs (fun e => ?_), by rw [split_one 46 _ (text6_no bs)]; rfl⟩
    have := wordsL_length bs
    rw [e, hl] at this
    cases this
  · obtain ⟨bs, h1, rfl⟩ := Option.map_eq_some_iff.1 h
    obtain ⟨hl, rfl⟩ := (rd4_iff s bs).1 h1
    exact .inl ⟨bs, hl, rfl, rfl, text4_split bs (fun e => by rw [e] at hl; cases hl), by rw [split_one 58 _ (text4_no bs)]; rfl⟩
set_option maxRecDepth 100000 in
theorem none_of {s : List UInt8} (h : ∀ x, rdA s = some x → False) : rdA s = none := by
  cases e : rdA s with
  | none => rfl
  | some x => exact (h x e).elim
set_option maxRecDepth 100000 in
theorem text4_len (bs : List UInt8) (h : bs.length = 4) : (text4 bs).length ≤ 39 := by
  have := joinC_len1 46 3 (bs.map numB) (fun e => by have := congrArg List.length e; simp [h] at this) (fun p hp => by
    obtain ⟨b, _, rfl⟩ := List.mem_map.1 hp
    exact numB_len b)
  rw [List.length_map, h] at this
  unfold text4
  omega
set_option maxRecDepth 100000 in
theorem text6_len (bs : List UInt8) (h : bs.length = 16) : (text6 bs).length ≤ 39 := by
  have hw : (wordsL bs).length = 8 := by rw [wordsL_length, h]
  have := joinC_len1 58 4 ((wordsL bs).map hexW) (fun e => by have := congrArg List.length e; simp [hw] at this) (fun p hp => by
    obtain ⟨n, hn, rfl⟩ := List.mem_map.1 hp
    obtain ⟨j, hj⟩ := List.getElem?_of_mem hn
    exact hexW_len n (wordsL_le bs j n hj).2)
  rw [List.length_map, hw] at this
  unfold text6
  omega
set_option maxRecDepth 100000 in
theorem read_long {s : List UInt8} (h : 39 < s.length) : rdA s = none := none_of fun x e => by
  rcases rdA_cases e with ⟨bs, hl, rfl, _⟩ | ⟨bs, hl, rfl, _⟩
  · have := text4_len bs hl
    omega
  · have := text6_len bs hl
    omega
set_option maxRecDepth 100000 in
theorem read_bad4 {s p : List UInt8} {i : Nat} (h4 : (splitC 46 s).length = 4) (hp : (splitC 46 s)[i]? = some p) (h : vB 10 p < 0 ∨ 255 < vB 10 p) : rdA s = none := none_of fun x e => by
  rcases rdA_cases e with ⟨bs, _, _, _, he, _⟩ | ⟨_, _, _, _, _, he⟩
  · rw [he, List.getElem?_map, Option.map_eq_some_iff] at hp
    obtain ⟨b, _, rfl⟩ := hp
    rw [vB_num] at h
    have := UInt8.toNat_lt b
    omega
  · omega
set_option maxRecDepth 100000 in
theorem read_bad6 {s p : List UInt8} {i : Nat} (h8 : (splitC 58 s).length = 8) (hp : (splitC 58 s)[i]? = some p) (h : vB 16 p < 0) : rdA s = none := none_of fun x e => by
  rcases rdA_cases e with ⟨_, _, _, _, _, he⟩ | ⟨bs, _, _, _, he, _⟩
  · omega
  · rw [he, List.getElem?_map, Option.map_eq_some_iff] at hp
    obtain ⟨n, hn, rfl⟩ := hp
    have e2 : vB 16 (hexW n) = _ := vB_hex n.toNat (words_nat bs n (List.mem_of_getElem? hn))
    rw [e2] at h
    omega
set_option maxRecDepth 100000 in
theorem read_none {s : List UInt8} (h4 : ¬ (splitC 46 s).length = 4) (h8 : ¬ (splitC 58 s).length = 8) : rdA s = none := none_of fun x e => by
  rcases rdA_cases e with ⟨bs, hl, _, _, he, _⟩ | ⟨bs, hl, _, _, he, _⟩
  · exact h4 (by rw [he, List.length_map, hl])
  · exact h8 (by rw [he, List.length_map, wordsL_length, hl])
def byteV (p : List UInt8) : UInt8 := UInt8.ofNat (vB 10 p).toNat
def natV (p : List UInt8) : Nat := (vB 16 p).toNat
set_option maxRecDepth 100000 in
theorem byteV_num (b : UInt8) : byteV (numB b) = b := by
  rw [byteV, vB_num]
  simp
set_option maxRecDepth 100000 in
theorem natV_hex (bs : List UInt8) (n : Int) (h : n ∈ wordsL bs) : natV (hexW n) = n.toNat := by
  have e2 : vB 16 (hexW n) = _ := vB_hex n.toNat (words_nat bs n h)
  rw [natV, e2, Int.toNat_natCast]
set_option maxRecDepth 100000 in
theorem read_end4 {s : List UInt8} (h4 : (splitC 46 s).length = 4) : rdA s = if (ofA ((splitC 46 s).map byteV)).text = s then some (ofA ((splitC 46 s).map byteV)) else none := by
  split
  · rename_i ht
    exact (rdA_iff s _).2 ⟨(of4_text _ (by rw [List.length_map, h4])).1, ht⟩
  · rename_i ht
    refine none_of fun x e => ht ?_
    rcases rdA_cases e with ⟨bs, hl, h1, _, he, _⟩ | ⟨_, _, _, _, _, he⟩
    · have e2 : (splitC 46 s).map byteV = bs := by
        rw [he, List.map_map]
        conv => rhs; rw [← List.map_id bs]
        exact List.map_congr_left (fun b _ => byteV_num b)
      rw [e2, (of4_text bs hl).2.1, h1]
    · omega
set_option maxRecDepth 100000 in
theorem read_end6 {s : List UInt8} (h8 : (splitC 58 s).length = 8) : rdA s = if (ofA (((splitC 58 s).map natV).flatMap put16N)).text = s then some (ofA (((splitC 58 s).map natV).flatMap put16N)) else none := by
  split
  · rename_i ht
    exact (rdA_iff s _).2 ⟨(of6_text _ (by rw [put16_len, List.length_map, h8])).1, ht⟩
  · rename_i ht
    refine none_of fun x e => ht ?_
    rcases rdA_cases e with ⟨_, _, _, _, _, he⟩ | ⟨bs, hl, h1, _, he, _⟩
    · omega
    · have e2 : ((splitC 58 s).map natV).flatMap put16N = bs := by
        rw [he, List.map_map]
        conv => rhs; rw [← words_put16 bs (by omega)]
        congr 1
        exact List.map_congr_left (fun n hn => natV_hex bs n hn)
      rw [e2, (of6_text bs hl).2.1, h1]
set_option maxRecDepth 100000 in
theorem vB_no58 {p : List UInt8} (h : 0 ≤ vB 10 p) : (58 : UInt8) ∉ p := fun hm => by
  unfold vB at h
  split at h
  · rename_i hc
    have := List.all_eq_true.1 hc.2.2 58 hm
    simp [hexV] at this
  · omega
set_option maxRecDepth 100000 in
theorem read_four_one {s : List UInt8} (h : ∀ p ∈ splitC 46 s, 0 ≤ vB 10 p) : (splitC 58 s).length = 1 := by
  have hn : (58 : UInt8) ∉ joinC 46 (splitC 46 s) := join_not_mem 46 58 (by decide) _ (fun p hp => vB_no58 (h p hp))
  rw [join_split] at hn
  rw [split_one 58 s hn]
  rfl
end Go.Proofs.YtckakpcjbndijabDoor
