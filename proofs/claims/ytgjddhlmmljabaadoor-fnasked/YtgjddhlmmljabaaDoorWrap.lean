import Derived.Test.YtgjddhlmmljabaaDoorMath2
import Derived.Test.YtgjddhlmmljabaaDoorMathAll
namespace Go.Proofs.YtgjddhlmmljabaaDoor
open Go.RowKit
set_option linter.unusedVariables false
set_option maxRecDepth 100000 in
set_option maxHeartbeats 400000 in
theorem spec_l1Big (n k:Nat) (w:World) (hn:n<18446744073709551616) (hk:k≤8) :
 Calls Tryd.prog 44 #[.int .u64 n,.int .i64 k] w fun e w'=>e=.returned (.string ⟨(bigB n k).toArray⟩)∧Below w.heap.size w w':=by
 obtain⟨i0,hi0,hz0,hz1,hz2⟩:=info_parts info5
 go_enter Tryd.func44,Tryd.ntmps44
 go_wp2
 go_loopw [5,6] (fun v i wr=>∃ j g cap:Nat,j≤k∧i=.int .i64 ((k:Int) - 1 - j)∧v=.slice (some ⟨g,0,none⟩) j cap∧wr.ownsRow w.heap.size 5 1 (.slice (some ⟨g,0,none⟩) j cap) j (bcells ((bigB n k).take j))∧Below w.heap.size w wr) (fun _ i _=>(intOf i+1).toNat)
 case atStart=>exact⟨0,w.heap.size,0,Nat.zero_le _,by simp,rfl,World.ownsRow_lit w #[] 0 (Nat.le_refl _) (Nat.zero_le _) rfl,(Below.refl _ _).alloc (Nat.le_refl _) _⟩
 case round =>
  obtain⟨j,g,cap,hj,rfl,rfl,hown,hbel⟩:=hrel
  have hsz:=hbel.size
  have hbg:=own_base hown
  by_cases hlt:j<k
  · go_wp2_with (at_builtin;refine wpList_append_lies _ rfl _ _ 22 rfl w.heap.size 5 i0 (.int .u8 0) 1 1 Tryd.underlying22 hi0 hz0 hz1 hz2 rfl (by decide) (.slice (some ⟨g,0,none⟩) j cap) j _ rfl (hown.alloc _) ⟨wr.heap.size,0,none⟩ 1 1 [.int .u8 ((n:Int) / 2 ^ (8*(k - 1 - j)) % 256)] rfl rfl (World.news_of_block (cs:=#[.int .u8 ((n:Int) / 2 ^ (8*(k - 1 - j)) % 256)]) (t:=5) (fr:=(0,0)) (heap_alloc_new wr _)) (by simp[Value.oneCell']) (by omega) (by unfold maxLen;omega) (by omega) (by simp;omega) (wr.heap.size+1) (by simp) ?_;intro g2 cap2 w1 hown1 hgrow hat hlt1)
    have hbel1:=below_app0 hbel hsz hbg hgrow
    go_roundw
    case rel=>exact⟨j+1,g2,cap2,by omega,by go_num,rfl,by rw[bigB_snoc n k j hlt,bcells_snoc,byte_of_div];exact hown1,hbel1⟩
    case measure=>simp[intOf];omega
  · have hcv:=own_string (P:=Tryd.prog) Tryd.underlying22 Tryd.underlying5 Tryd.underlying9 hown
    go_wp2
    go_ret
    exact⟨ret_string (by rw[List.take_of_length_le (by rw[bigB_length];omega)]),hbel⟩
set_option maxRecDepth 100000 in
set_option maxHeartbeats 400000 in
theorem spec_l1Long (n:Nat) (w:World) (h0:0<n) (h1:n<65536) :
 Calls Tryd.prog 57 #[.int .i64 n] w fun e w'=>e=.returned (.string ⟨(numB 8 n).toArray⟩)∧Below w.heap.size w w':=by
 go_enter Tryd.func57,Tryd.ntmps57
 go_wp2_with fail
 refine (spec_l1Big n 4 _ (by omega) (by omega)).mono ?_
 rintro e w1 ⟨rfl,hb1⟩
 have HS:=strip_bigB n h0 h1
 have HZ:=bigB_length n 4
 go_wp2
 go_loop [3] (fun v=>∃ l:List UInt8,v=.string ⟨l.toArray⟩∧l.length≤4∧Hid (strip l=numB 8 n)) (fun v=>match v with | .string s=>s.size | _=>0)
 case atStart=>exact⟨_,rfl,by rw[HZ];omega,HS⟩
 case round =>
  obtain⟨l,rfl,hl,HL⟩:=hrel
  clear HS HZ
  match l,hl,HL with
  | [], hl, HL =>
    go_wp2
    go_ret
    exact⟨ret_string (by rw[←HL.out];rfl),hb1⟩
  | [a], hl, HL =>
    go_wp2
    go_ret
    exact⟨ret_string (by rw[←HL.out];rfl),hb1⟩
  | a :: b :: r, hl, HL =>
    by_cases ha:a=0
    · subst ha
      go_wp2
      go_round
      case rel=>exact⟨b :: r,congrArg Value.string (ba_tail (0 :: b :: r)),by simp at hl ⊢;omega,by rw[Hid,←HL.out,strip_zero]⟩
      case measure=>simp[ByteArray.size]
    · have ha':((((ByteArray.mk (a :: b :: r).toArray)[0]'(by simp[ByteArray.size])).toNat:Int) == 0)=false:=by
       show ((a.toNat:Int) == 0)=false
       simp only[beq_eq_false_iff_ne,ne_eq]
       intro h
       exact ha (UInt8.toNat_inj.1 (by simpa using h))
      have HR:Hid (a :: b :: r=numB 8 n):=by rw[Hid,←HL.out];exact (strip_stop _ (.inr ⟨a,_,rfl,ha⟩)).symm
      go_wp2
      go_ret
      exact⟨ret_string HR.out,hb1⟩
theorem head_byte (n:Nat):(n:Int) % 256=((UInt8.ofNat n).toNat:Int):=(byte_of n).symm
set_option maxRecDepth 100000 in
set_option maxHeartbeats 400000 in
theorem spec_l1Wrap (s:ByteArray) (h:Nat) (w:World) (hs:s.size<65536) (hh:h≤192) :
 Calls Tryd.prog 56 #[.string s,.int .i64 h] w fun e w'=>e=.returned (.string ⟨(wrapB s.data.toList h).toArray⟩)∧Below w.heap.size w w':=by
 have HL:s.data.toList.length=s.size:=by simp
 by_cases hb:s.size≤55
 · obtain⟨c,hc⟩:∃ c,c=UInt8.ofNat (h+s.size):=⟨_,rfl⟩
   have HW:wrapB s.data.toList h=[c] ++ s.data.toList:=by rw[wrapB,if_pos (by omega),HL,hc];rfl
   have hcv:=lit_string [c] #[.int .u8 ((h:Int)+(s.size:Int))] (by simp only[bcells,List.map_cons,List.map_nil];rw[hc,byte_of];congr 2;omega) 1 rfl (by decide)
   rw[HW]
   clear HW HL hc
   go_enter Tryd.func56,Tryd.ntmps56
   go_wp2
   go_ret
   exact⟨congrArg (fun x=>Ending.returned (.string x)) (ba_app [c] s),(Below.refl _ _).alloc (Nat.le_refl _) _⟩
 · have HB:=spec_l1Long s.size w (by omega) hs
   have HN:=numB_length s.size (by omega) hs
   obtain⟨nb,hnb⟩:∃ nb,nb=numB 8 s.size:=⟨_,rfl⟩
   obtain⟨c,hc⟩:∃ c,c=UInt8.ofNat (h+55+nb.length):=⟨_,rfl⟩
   rw[←hnb] at HB HN
   have HW:wrapB s.data.toList h=c :: nb ++ s.data.toList:=by rw[wrapB,if_neg (by omega),HL,←hnb,hc];simp
   have hcv:=lit_string [c] #[.int .u8 ((h:Int)+55+(nb.length:Int))] (by simp only[bcells,List.map_cons,List.map_nil];rw[hc,byte_of];congr 2;omega) 1 rfl (by decide)
   rw[HW]
   clear HW HL hnb hc
   go_enter Tryd.func56,Tryd.ntmps56
   go_wp2_with fail
   refine HB.mono ?_
   rintro e w1 ⟨rfl,hb1⟩
   go_wp2
   go_ret
   refine⟨congrArg (fun x=>Ending.returned (.string x)) ?_,hb1.trans (((Below.refl _ _).alloc (Nat.le_refl _) _).mono hb1.size)⟩
   exact (congrArg (· ++ s) (ba_cons c nb)).trans (ba_app (c :: nb) s)
end Go.Proofs.YtgjddhlmmljabaaDoor
