/-
 Texts that are laid as one: Wrap, TxtC.
-/
import Derived.Test.YtppljdnbhoeeoaaGreatDoorMath2
namespace Go.Proofs.YtppljdnbhoeeoaaGreatDoor
open Go.RowKit
set_option linter.unusedVariables false
set_option maxHeartbeats 400000
set_option maxRecDepth 100000
theorem za4p (n:Nat) (w:World) (hn:n<9223372036854775808) :
 Calls Tryz.prog 171 #[.int .i64 n] w fun e w'=>e=.returned (.string ⟨(numB 8 n).toArray⟩)∧Below w.heap.size w w':=by
 obtain⟨i0,hi0,hz0,hz1,hz2⟩:=info_parts info5
 have HN:Hid (n<256 ^ 8):=by rw[Hid];omega
 go_enter Tryz.func171,Tryz.ntmps171
 go_wp2
 go_loopw [0,3] (fun v t wr=>∃ f m:Nat,∃ l:List UInt8,m≤n∧v=.int .i64 (m:Int)∧t=.string ⟨l.toArray⟩∧Hid (m<256 ^ f)∧Hid (numB f m ++ l=numB 8 n)∧Hid (l.length+f=8)∧Below w.heap.size w wr) (fun v _ _=>(intOf v).toNat)
 case atStart=>exact⟨8,n,[],Nat.le_refl _,rfl,rfl,HN,by rw[Hid];simp,rfl,Below.refl _ _⟩
 case round =>
  obtain⟨f,m,l,hm,rfl,rfl,HF,HL,HZ,hbel⟩:=hrel
  have hsz:=hbel.size
  by_cases hlt:0<m
  · obtain⟨f',hf'⟩:∃ f',f=f'+1:=by
     cases f with
     | zero=>have:=HF.out;simp at this;omega
     | succ f'=>exact⟨f',rfl⟩
    subst hf'
    have hst:=zyv f' m HF.out hlt
    have HF':Hid (m / 256<256 ^ f'):=hst.2
    have HL':Hid (numB f' (m / 256) ++ (UInt8.ofNat m :: l)=numB 8 n):=by rw[Hid,←HL.out,hst.1];simp
    have HZ':Hid ((UInt8.ofNat m :: l).length+f'=8):=by rw[Hid,←HZ.out];simp;omega
    have hcv:=zcv [UInt8.ofNat m] #[.int .u8 (bits BinOp.and IntKind.i64 (m:Int) 255 % 256)] (by rw[zyx m (by omega)];rfl) 1 rfl (by decide)
    have hln:l.length≤8:=by have:=HZ.out;omega
    clear hst
    go_wp2
    go_roundw
    case rel=>exact⟨f',m / 256,UInt8.ofNat m :: l,by omega,by simp,by show Value.string (ByteArray.mk #[UInt8.ofNat m] ++ _)=_;rw[zgh],HF',HL',HZ',hbel.alloc hsz _⟩
    case measure=>simp[intOf];omega
  · have hz:m=0:=by omega
    subst hz
    have HR:Hid (l=numB 8 n):=by rw[Hid,←HL.out,zgg];rfl
    go_wp2
    go_ret
    exact⟨by rw[←HR.out];rfl,hbel⟩
theorem zsi (n k:Nat) (w:World) (hn:n<18446744073709551616) (hk:k≤8) :
 Calls Tryz.prog 124 #[.int .u64 n,.int .i64 k] w fun e w'=>e=.returned (.string ⟨(bigB n k).toArray⟩)∧Below w.heap.size w w':=by
 obtain⟨i0,hi0,hz0,hz1,hz2⟩:=info_parts info5
 go_enter Tryz.func124,Tryz.ntmps124
 go_wp2
 go_loopw [5,6] (fun v i wr=>∃ j g cap:Nat,j≤k∧i=.int .i64 ((k:Int) - 1 - j)∧v=.slice (some ⟨g,0,none⟩) j cap∧wr.ownsRow w.heap.size 5 1 (.slice (some ⟨g,0,none⟩) j cap) j (ze ((bigB n k).take j))∧Below w.heap.size w wr) (fun _ i _=>(intOf i+1).toNat)
 case atStart=>exact⟨0,w.heap.size,0,Nat.zero_le _,by simp,rfl,World.ownsRow_lit w #[] 0 (Nat.le_refl _) (Nat.zero_le _) rfl,(Below.refl _ _).alloc (Nat.le_refl _) _⟩
 case round =>
  obtain⟨j,g,cap,hj,rfl,rfl,hown,hbel⟩:=hrel
  have hsz:=hbel.size
  have hbg:=own_base hown
  by_cases hlt:j<k
  · go_wp2_with (at_builtin;refine wpList_append_lies _ rfl _ _ 150 rfl w.heap.size 5 i0 (.int .u8 0) 1 1 Tryz.underlying150 hi0 hz0 hz1 hz2 rfl (by decide) (.slice (some ⟨g,0,none⟩) j cap) j _ rfl (hown.alloc _) ⟨wr.heap.size,0,none⟩ 1 1 [.int .u8 ((n:Int) / 2 ^ (8*(k - 1 - j)) % 256)] rfl rfl (World.news_of_block (cs:=#[.int .u8 ((n:Int) / 2 ^ (8*(k - 1 - j)) % 256)]) (t:=5) (fr:=(0,0)) (heap_alloc_new wr _)) (by simp[Value.oneCell']) (by omega) (by unfold maxLen;omega) (by omega) (by simp;omega) (wr.heap.size+1) (by simp) ?_;intro g2 cap2 w1 hown1 hgrow hat hlt1)
    have hbel1:=zk2 hbel hsz hbg hgrow
    go_roundw
    case rel=>exact⟨j+1,g2,cap2,by omega,by go_num,rfl,by rw[zpa n k j hlt,zge,zpb];exact hown1,hbel1⟩
    case measure=>simp[intOf];omega
  · have hcv:=zd6 (P:=Tryz.prog) Tryz.underlying150 Tryz.underlying5 Tryz.underlying9 hown
    go_wp2
    go_ret
    exact⟨zcx (by rw[List.take_of_length_le (by rw[zdt];omega)]),hbel⟩
theorem za4q (n:Nat) (w:World) (h0:0<n) (h1:n<65536) :
 Calls Tryz.prog 163 #[.int .i64 n] w fun e w'=>e=.returned (.string ⟨(numB 8 n).toArray⟩)∧Below w.heap.size w w':=by
 go_enter Tryz.func163,Tryz.ntmps163
 go_wp2_with fail
 refine (zsi n 4 _ (by omega) (by omega)).mono ?_
 rintro e w1 ⟨rfl,hb1⟩
 have HS:=zyw n h0 h1
 have HZ:=zdt n 4
 go_wp2
 go_loop [3] (fun v=>∃ l:List UInt8,v=.string ⟨l.toArray⟩∧l.length≤4∧Hid (strip l=numB 8 n)) (fun v=>match v with | .string s=>s.size | _=>0)
 case atStart=>exact⟨_,rfl,by rw[HZ];omega,HS⟩
 case round =>
  obtain⟨l,rfl,hl,HL⟩:=hrel
  clear HS HZ
  match l,hl,HL with
  | [], hl, HL =>
    go_wp2
    go_ret
    exact⟨zcx (by rw[←HL.out];rfl),hb1⟩
  | [a], hl, HL =>
    go_wp2
    go_ret
    exact⟨zcx (by rw[←HL.out];rfl),hb1⟩
  | a :: b :: r, hl, HL =>
    by_cases ha:a=0
    · subst ha
      go_wp2
      go_round
      case rel=>exact⟨b :: r,congrArg Value.string (zyy (0 :: b :: r)),by simp at hl ⊢;omega,by rw[Hid,←HL.out,zhs]⟩
      case measure=>simp[ByteArray.size]
    · have ha':((((ByteArray.mk (a :: b :: r).toArray)[0]'(by simp[ByteArray.size])).toNat:Int) == 0)=false:=by
       show ((a.toNat:Int) == 0)=false
       simp only[beq_eq_false_iff_ne,ne_eq]
       intro h
       exact ha (UInt8.toNat_inj.1 (by simpa using h))
      have HR:Hid (a :: b :: r=numB 8 n):=by rw[Hid,←HL.out];exact (zk5 _ (.inr ⟨a,_,rfl,ha⟩)).symm
      go_wp2
      go_ret
      exact⟨zcx HR.out,hb1⟩
theorem zm0 (s:ByteArray) (h:Nat) (w:World) (hs:s.size<65536) (hh:h≤192) :
 Calls Tryz.prog 127 #[.string s,.int .i64 h] w fun e w'=>e=.returned (.string ⟨(za9 s.data.toList h).toArray⟩)∧Below w.heap.size w w':=by
 have HL:s.data.toList.length=s.size:=by simp
 by_cases hb:s.size≤55
 · obtain⟨c,hc⟩:∃ c,c=UInt8.ofNat (h+s.size):=⟨_,rfl⟩
   have HW:za9 s.data.toList h=[c] ++ s.data.toList:=by rw[za9,if_pos (by omega),HL,hc];rfl
   have hcv:=zcv [c] #[.int .u8 ((h:Int)+(s.size:Int))] (by simp only[ze,List.map_cons,List.map_nil];rw[hc,byte_of];congr 2;omega) 1 rfl (by decide)
   rw[HW]
   clear HW HL hc
   go_enter Tryz.func127,Tryz.ntmps127
   go_wp2
   go_ret
   exact⟨congrArg (fun x=>Ending.returned (.string x)) (zht [c] s),(Below.refl _ _).alloc (Nat.le_refl _) _⟩
 · have HB:=za4q s.size w (by omega) hs
   have HN:=zpc s.size (by omega) hs
   obtain⟨nb,hnb⟩:∃ nb,nb=numB 8 s.size:=⟨_,rfl⟩
   obtain⟨c,hc⟩:∃ c,c=UInt8.ofNat (h+55+nb.length):=⟨_,rfl⟩
   rw[←hnb] at HB HN
   have HW:za9 s.data.toList h=c :: nb ++ s.data.toList:=by rw[za9,if_neg (by omega),HL,←hnb,hc];simp
   have hcv:=zcv [c] #[.int .u8 ((h:Int)+55+(nb.length:Int))] (by simp only[ze,List.map_cons,List.map_nil];rw[hc,byte_of];congr 2;omega) 1 rfl (by decide)
   rw[HW]
   clear HW HL hnb hc
   go_enter Tryz.func127,Tryz.ntmps127
   go_wp2_with fail
   refine HB.mono ?_
   rintro e w1 ⟨rfl,hb1⟩
   go_wp2
   go_ret
   refine⟨congrArg (fun x=>Ending.returned (.string x)) ?_,hb1.trans (((Below.refl _ _).alloc (Nat.le_refl _) _).mono hb1.size)⟩
   exact (congrArg (· ++ s) (zgh c nb)).trans (zht (c :: nb) s)
theorem zix (s:ByteArray) (h:Nat) (w:World) (hs:s.size<65536) (hh:h≤192) :
 Calls Tryz.prog 136 #[.int .i64 h,.string s] w fun e w'=>e=.returned (.string ⟨(za9 s.data.toList h).toArray⟩)∧Below w.heap.size w w':=by
 have HL:s.data.toList.length=s.size:=by simp
 by_cases hb:s.size≤55
 · obtain⟨c,hc⟩:∃ c,c=UInt8.ofNat (h+s.size):=⟨_,rfl⟩
   have HW:za9 s.data.toList h=[c] ++ s.data.toList:=by rw[za9,if_pos (by omega),HL,hc];rfl
   have hcv:=zcv [c] #[.int .u8 ((h:Int)+(s.size:Int))] (by simp only[ze,List.map_cons,List.map_nil];rw[hc,byte_of];congr 2;omega) 1 rfl (by decide)
   rw[HW]
   clear HW HL hc
   go_enter Tryz.func136,Tryz.ntmps136
   go_wp2
   go_ret
   exact⟨congrArg (fun x=>Ending.returned (.string x)) (zht [c] s),(Below.refl _ _).alloc (Nat.le_refl _) _⟩
 · have HB:=za4p s.size w (by omega)
   have HN:=zpc s.size (by omega) hs
   obtain⟨nb,hnb⟩:∃ nb,nb=numB 8 s.size:=⟨_,rfl⟩
   obtain⟨c,hc⟩:∃ c,c=UInt8.ofNat (h+55+nb.length):=⟨_,rfl⟩
   rw[←hnb] at HB HN
   have HW:za9 s.data.toList h=c :: nb ++ s.data.toList:=by rw[za9,if_neg (by omega),HL,←hnb,hc];simp
   have hcv:=zcv [c] #[.int .u8 ((h:Int)+55+(nb.length:Int))] (by simp only[ze,List.map_cons,List.map_nil];rw[hc,byte_of];congr 2;omega) 1 rfl (by decide)
   rw[HW]
   clear HW HL hnb hc
   go_enter Tryz.func136,Tryz.ntmps136
   go_wp2_with fail
   refine HB.mono ?_
   rintro e w1 ⟨rfl,hb1⟩
   go_wp2
   go_ret
   refine⟨congrArg (fun x=>Ending.returned (.string x)) ?_,hb1.trans (((Below.refl _ _).alloc (Nat.le_refl _) _).mono hb1.size)⟩
   exact (congrArg (· ++ s) (zgh c nb)).trans (zht (c :: nb) s)
theorem zsj (s:ByteArray) (w:World) (hs:s.size<65536) :
 Calls Tryz.prog 93 #[.string s] w fun e w'=>e=.returned (.string ⟨(zz s.data.toList).toArray⟩)∧Below w.heap.size w w':=by
 by_cases h1:s.size=1
 · have h1':(s.size:Int)≤1:=by omega
   have hn:0<s.size:=by omega
   have hp:(0:Int)<(s.size:Int):=by omega
   by_cases hb:(s[0]'hn).toNat<128
   · rw[zph s h1 hb]
     have hb':((s[0]'hn).toNat:Int)<128:=by omega
     clear h1
     go_enter Tryz.func93,Tryz.ntmps93
     go_wp2_with fail
     go_ret
     exact⟨congrArg (fun x=>Ending.returned (.string x)) (ba_eq s),Below.refl _ _⟩
   · rw[zpi s h1 hb]
     have hb':¬ ((s[0]'hn).toNat:Int)<128:=by omega
     clear h1
     go_enter Tryz.func93,Tryz.ntmps93
     go_wp2_with fail
     refine (zm0 s 128 _ hs (by omega)).mono ?_
     rintro e w1 ⟨rfl,hb1⟩
     go_wp2
     go_ret
     exact⟨rfl,hb1⟩
 · rw[zpj s.data.toList (by simpa using h1)]
   have h1':((s.size:Int) == 1)=false:=by simp;omega
   go_enter Tryz.func93,Tryz.ntmps93
   go_wp2_with fail
   refine (zm0 s 128 _ hs (by omega)).mono ?_
   rintro e w1 ⟨rfl,hb1⟩
   go_wp2
   go_ret
   exact⟨rfl,hb1⟩
theorem zsk (s:ByteArray) (w:World) (hs:s.size≤1048576) :
 Calls Tryz.prog 100 #[.string s] w fun e w'=>e=.returned (.string ⟨(zgl s.data.toList).toArray⟩)∧Below w.heap.size w w':=by
 by_cases hb:s.size≤60000
 · rw [zgl, if_pos (by simpa using hb)]
   by_cases h1:s.size=1
   · have h1':(s.size:Int)≤1:=by omega
     have hn:0<s.size:=by omega
     have hp:(0:Int)<(s.size:Int):=by omega
     by_cases hc:(s[0]'hn).toNat<128
     · rw[zph s h1 hc]
       have hc':((s[0]'hn).toNat:Int)<128:=by omega
       clear h1
       go_enter Tryz.func100,Tryz.ntmps100
       go_wp2_with fail
       go_ret
       exact⟨congrArg (fun x=>Ending.returned (.string x)) (ba_eq s),Below.refl _ _⟩
     · rw[zpi s h1 hc]
       have hc':¬ ((s[0]'hn).toNat:Int)<128:=by omega
       clear h1
       go_enter Tryz.func100,Tryz.ntmps100
       go_wp2_with fail
       refine (zix s 128 _ (by omega) (by omega)).mono ?_
       rintro e w1 ⟨rfl,hb1⟩
       go_wp2
       go_ret
       exact⟨rfl,hb1⟩
   · rw[zpj s.data.toList (by simpa using h1)]
     have h1':((s.size:Int) == 1)=false:=by simp;omega
     go_enter Tryz.func100,Tryz.ntmps100
     go_wp2_with fail
     refine (zix s 128 _ (by omega) (by omega)).mono ?_
     rintro e w1 ⟨rfl,hb1⟩
     go_wp2
     go_ret
     exact⟨rfl,hb1⟩
 · rw[zgl,if_neg (by simpa using hb)]
   go_enter Tryz.func100,Tryz.ntmps100
   go_wp2_with fail
   go_ret
   exact⟨rfl,Below.refl _ _⟩
end Go.Proofs.YtppljdnbhoeeoaaGreatDoor
