/-
 Texts that are laid as one: MathPair, PairS, StoredS, Open5, PairM, PairOk, Open6, StoredM, StoredG, SFind.
-/
import Derived.Test.YtppljdnbhoeeoaaGreatDoorStrsAll
import Derived.OneCell
import Derived.ProofKit
import Derived.Deep.SlicePairs
namespace Go.Proofs.YtppljdnbhoeeoaaGreatDoor
open Go.RowKit
set_option linter.unusedVariables false
set_option maxHeartbeats 1000000
set_option maxRecDepth 100000
abbrev za:=List UInt8 × List UInt8
def zb:List za→List Value
 | []=>[]
 | p :: ps=>.string ⟨p.1.toArray⟩ :: .string ⟨p.2.toArray⟩ :: zb ps
theorem zbu (ps:List za):(zb ps).length=ps.length*2:=by
 induction ps with
 | nil=>rfl
 | cons p ps ih=>simp[zb,ih];omega
theorem zc2 (a b:List za):zb (a ++ b)=zb a ++ zb b:=by
 induction a with
 | nil=>rfl
 | cons p ps ih=>simp[zb,ih]
theorem zea (ps:List za) (j:Nat) (h:j<ps.length):(zb ps)[j*2]? = some (.string ⟨ps[j].1.toArray⟩)∧(zb ps)[j*2+1]? = some (.string ⟨ps[j].2.toArray⟩):=by
 induction ps generalizing j with
 | nil=>simp at h
 | cons p ps ih =>
   match j,h with
   | 0,_=>exact⟨rfl,rfl⟩
   | j + 1, h =>
     have:=ih j (by simpa using h)
     have e:(j+1)*2=j*2+1+1:=by omega
     rw[e]
     simpa [zb] using this
def IsPairs (w:World) (a:Option Addr) (ps:List za):Prop :=
 ps=[]∨∃ b off,a=some ⟨b,off,none⟩∧∀ j (h:j<ps.length),w.cell? ⟨b,off+j*2,none⟩=some (.string ⟨ps[j].1.toArray⟩)∧w.cell? ⟨b,off+j*2+1,none⟩=some (.string ⟨ps[j].2.toArray⟩)
theorem IsPairs.later {w w':World} {a:Option Addr} {ps:List za} (h:IsPairs w a ps) (hb:Below w.heap.size w w'):IsPairs w' a ps:=by
 rcases h with h | ⟨b,off,h1,h2⟩
 · exact .inl h
 · exact .inr ⟨b,off,h1,fun j h=>⟨(hb.cell (p:=⟨b,off+j*2,none⟩) (World.block_lt_of_cell? w _ (h2 j h).1)).trans (h2 j h).1,(hb.cell (p:=⟨b,off+j*2+1,none⟩) (World.block_lt_of_cell? w _ (h2 j h).2)).trans (h2 j h).2⟩⟩
theorem zac {w:World} {base e n:Nat} {a:Option Addr} {m cap:Nat} {ps:List za} (h:w.ownsRow base e 2 (.slice a m cap) n (zb ps)):m=ps.length∧n=ps.length∧IsPairs w a ps:=by
 have hl:ps.length=n:=by have:=h.1;rw[zbu] at this;omega
 rcases h.2 with ⟨h',h0⟩ | ⟨g,cap',cur,h',_⟩
 · cases h'
   exact⟨by omega,by omega,.inl (List.length_eq_zero_iff.1 (by omega))⟩
 · cases h'
   exact⟨by omega,by omega,.inr ⟨g,0,rfl,fun j hj=>by
    rw[Nat.zero_add,h.cellAt (j*2) (by omega),h.cellAt (j*2+1) (by omega)]
    exact zea ps j hj⟩⟩
theorem zc9 {w:World} {base e n:Nat} {v:Value} {xs:List Value} (h:w.ownsRow base e 2 v n xs) :
 (v=.slice none 0 0∧n=0∧xs=[])∨∃ g cap,v=.slice (some ⟨g,0,none⟩) n cap∧base≤g∧g<w.heap.size∧(∀ j,j<n*2→w.cell? ⟨g,j,none⟩=xs[j]?)∧∀ j,w.frozen? ⟨g,j,none⟩=false:=by
 rcases h.2 with ⟨rfl,hn⟩ | ⟨g,cap,cur,rfl,hb,hg,_⟩
 · exact .inl ⟨rfl,hn,List.length_eq_zero_iff.1 (by rw[h.1,hn])⟩
 · exact .inr ⟨g,cap,rfl,hb,lt_of_block hg,fun j hj=>h.cellAt j hj,fun j=>h.frozenAt j⟩
theorem zfi {w:World} {base e size n:Nat} {v:Value} {xs:List Value} (h:w.ownsRow base e size v n xs):∃ a m c,v=.slice a m c:=by
 rcases h.2 with ⟨rfl,_⟩ | ⟨g,cap,cur,rfl,_⟩
 · exact⟨_,_,_,rfl⟩
 · exact⟨_,_,_,rfl⟩
theorem zaj {w w':World} {b e n:Nat} {v:Value} {xs:List Value} (h:w.ownsRow b e 2 v n xs) (hb:Below w.heap.size w w'):w'.ownsRow b e 2 v n xs :=
 h.kept (row:=none) ⟨hb.os,hb.tape,hb.output,hb.size,fun k hk _=>hb.block k hk⟩ (by cases v.ownBlock with | none=>exact .inl rfl | some k=>exact .inr (by simp))
def zd9 (ps:List za) (j:Nat):List Value:=zb (ps.take j) ++ List.replicate ((ps.length - j)*2) (.string ⟨#[]⟩)
theorem zzo (ps:List za) (j:Nat) (h:j≤ps.length):(zd9 ps j).length=ps.length*2:=by
 simp[zd9,zbu,Nat.min_eq_left h]
 try omega
theorem zzp (ps:List za):zd9 ps ps.length=zb ps:=by simp[zd9]
theorem zzq (ps:List za):zd9 ps 0=List.replicate (ps.length*2) (.string ⟨#[]⟩):=by simp[zd9,zb]
theorem zdv (ps:List za) (j:Nat) (h:j<ps.length):ps.take (j+1)=ps.take j ++ [ps[j]]:=by rw[List.take_succ_eq_append_getElem h]
theorem zzr (ps:List za) (j:Nat) (h:j<ps.length):((zd9 ps j).set (j*2) (.string ⟨ps[j].1.toArray⟩)).set (j*2+1) (.string ⟨ps[j].2.toArray⟩)=zd9 ps (j+1):=by
 have hl:(zb (ps.take j)).length=j*2:=by rw[zbu,List.length_take];omega
 have e:(ps.length - j)*2=(ps.length - (j+1))*2+1+1:=by omega
 simp only[zd9,zdv ps j h,zc2,e,List.replicate_succ]
 rw[List.set_append_right _ _ (by omega),hl,Nat.sub_self,List.set_append_right _ _ (by omega),hl]
 simp[zb]
def zbv (k n:Nat):List za:=(List.range n).map fun i=>(markT (k+2*i),markT (k+2*i+1))
theorem zkq (k n:Nat):(zbv k n).length=n:=by simp[zbv]
theorem zzs (k n j:Nat) (h:j<(zbv k n).length):(zbv k n)[j]=(markT (k+2*j),markT (k+2*j+1)):=by simp[zbv]
theorem zzt (k j:Nat):zbv k (j+1)=zbv k j ++ [(markT (k+2*j),markT (k+2*j+1))]:=by simp[zbv,List.range_succ]
def zdh (k j:Nat) (ps:List za):List Value:=zb (zbv k j) ++ zb (ps.drop j)
theorem zzu (k:Nat) (ps:List za):zdh k 0 ps=zb ps:=by simp[zdh,zbv,zb]
theorem zzv (k:Nat) (ps:List za):zdh k ps.length ps=zb (zbv k ps.length):=by simp[zdh,zb]
theorem zzw (k j:Nat) (ps:List za) (h:j≤ps.length):(zdh k j ps).length=ps.length*2:=by simp[zdh,zbu,zkq];omega
theorem zzx (k j:Nat) (ps:List za) (h:j<ps.length):((zdh k j ps).set (j*2) (.string ⟨(markT (k+2*j)).toArray⟩)).set (j*2+1) (.string ⟨(markT (k+2*j+1)).toArray⟩)=zdh k (j+1) ps:=by
 have hl:(zb (zbv k j)).length=j*2:=by rw[zbu,zkq]
 have e:ps.drop j=ps[j] :: ps.drop (j+1):=by rw[List.drop_eq_getElem_cons h]
 simp only[zdh,zzt,zc2,e,zb]
 rw[List.set_append_right _ _ (by omega),hl,Nat.sub_self,List.set_append_right _ _ (by omega),hl]
 simp
theorem zzy (n:Nat):(madeCells (Value.agg #[.string ⟨#[]⟩,.string ⟨#[]⟩]).cells (n*2)).toList=List.replicate (n*2) (.string ⟨#[]⟩):=by
 apply List.ext_getElem?
 intro j
 by_cases hj:j<n*2
 · rcases Nat.mod_two_eq_zero_or_one j with h | h <;> simp[madeCells,hj,Value.cells,h]
 · simp[madeCells,hj]
def zc3 (ps:List za):Nat:=(ps.map fun p=>p.1.length+p.2.length).sum
theorem zq3 (ps:List za) (j:Nat) (h:j<ps.length):zc3 (ps.take (j+1))=zc3 (ps.take j)+(ps[j].1.length+ps[j].2.length):=by
 rw[zdv ps j h];simp only[zc3,List.map_append,List.sum_append,List.map_cons,List.map_nil,List.sum_cons,List.sum_nil,Nat.add_zero]
theorem zzz (ps:List za) (j:Nat) (h:j<ps.length):ps[j].1.length+ps[j].2.length≤zc3 ps:=by
 have h1:zc3 ps=zc3 (ps.take (j+1))+zc3 (ps.drop (j+1)):=by
  conv=>lhs;rw[←List.take_append_drop (j+1) ps]
  simp only[zc3,List.map_append,List.sum_append]
 rw[h1,zq3 ps j h];omega
theorem zhz:(Tryz.prog.info? 103).map (fun i=>(i.zero,i.size,i.bytes))=some (some (.agg #[.string ⟨#[]⟩,.string ⟨#[]⟩]),2,32):=by kernel_rfl
theorem zeq:(Tryz.prog.info? 59).map (fun i=>(i.zero,i.size,i.bytes))=some (some (.agg #[.string ⟨#[]⟩,.string ⟨#[]⟩]),2,32):=by kernel_rfl
theorem za00 (k v:List UInt8) (w:World) :
 Calls Tryz.prog 52 #[.agg #[.string ⟨k.toArray⟩,.string ⟨v.toArray⟩]] w fun e w'=>e=.returned (.agg #[.string ⟨k.toArray⟩,.string ⟨v.toArray⟩])∧Below w.heap.size w w':=by
 go_enter Tryz.func52,Tryz.ntmps52
 go_wp2
 have hb:(((w.alloc (.cells #[.string ⟨k.toArray⟩,.string ⟨v.toArray⟩] 78)).alloc (.cells #[.string ⟨k.toArray⟩,.string ⟨v.toArray⟩] 59)).alloc (.cells #[.string ⟨k.toArray⟩,.string ⟨v.toArray⟩] 59)).heap[w.heap.size+1]? = some (.cells #[.string ⟨k.toArray⟩,.string ⟨v.toArray⟩] 59 (0,0)):=by
  rw[Below.heap_alloc _ _ _ (by simp)]
  have:=heap_alloc_new (w.alloc (.cells #[.string ⟨k.toArray⟩,.string ⟨v.toArray⟩] 78)) (.cells #[.string ⟨k.toArray⟩,.string ⟨v.toArray⟩] 59)
  simpa using this
 exact bodyPost_ret (v:=.agg #[.string ⟨k.toArray⟩,.string ⟨v.toArray⟩]) (results_cell_row rfl _ _ (w.heap.size+1) 59 _ (0,0) _ rfl hb Tryz.underlying59 rfl (by kernel_rfl)) rfl ⟨rfl,(((Below.refl _ _).alloc (Nat.le_refl _) _).alloc (by simp) _).alloc (by simp;omega) _⟩
theorem za01 (k v:List UInt8) (q:Nat) (w:World) (hq:q≤1048576) (hk:k.length≤9223372036854775807) (hv:v.length≤9223372036854775807) :
 Calls Tryz.prog 39 #[.agg #[.string ⟨k.toArray⟩,.string ⟨v.toArray⟩],.int .i64 (q:Int)] w fun e w'=>((q<k.length+v.length∧e=.returned (.int .i64 (-1)))∨(k.length+v.length≤q∧e=.returned (.int .i64 ((q - (k.length+v.length):Nat):Int))))∧Below w.heap.size w w':=by
 have hb:Below w.heap.size w (w.alloc (.cells #[.string ⟨k.toArray⟩,.string ⟨v.toArray⟩] 78)):=(Below.refl _ _).alloc (Nat.le_refl _) _
 by_cases h1:k.length≤q
 · have h1':(k.length:Int)≤(q:Int):=by omega
   by_cases h2:k.length+v.length≤q
   · have h2':(v.length:Int)≤(q:Int) - (k.length:Int):=by omega
     have HE:Hid ((q:Int) - (k.length:Int) - (v.length:Int)=((q - (k.length+v.length):Nat):Int)):=by rw[Hid];omega
     go_enter Tryz.func39,Tryz.ntmps39
     go_wp2
     go_ret
     exact⟨.inr ⟨h2,by rw[←HE.out];rfl⟩,hb⟩
   · have h2':¬ (v.length:Int)≤(q:Int) - (k.length:Int):=by omega
     go_enter Tryz.func39,Tryz.ntmps39
     go_wp2
     go_ret
     first | exact⟨.inl ⟨by omega,rfl⟩,hb⟩ | exact⟨⟨by omega,rfl⟩,hb⟩
 · have h1':¬ (k.length:Int)≤(q:Int):=by omega
   go_enter Tryz.func39,Tryz.ntmps39
   go_wp2
   go_ret
   first | exact⟨.inl ⟨by omega,rfl⟩,hb⟩ | exact⟨⟨by omega,rfl⟩,hb⟩
theorem za02 (a:Option Addr) (cap:Nat) (ps:List za) (w:World) (hl:ps.length≤1048576) (hs:IsPairs w a ps) :
 Calls Tryz.prog 20 #[.slice a ps.length cap] w fun e w'=>e=.returned (.slice (some ⟨w.heap.size,0,none⟩) ps.length ps.length)∧w'.ownsRow w.heap.size 59 2 (.slice (some ⟨w.heap.size,0,none⟩) ps.length ps.length) ps.length (zb ps)∧Below w.heap.size w w':=by
 obtain⟨i0,hi0,hz0,hz1,hz2⟩:=info_parts zeq
 go_enter Tryz.func20,Tryz.ntmps20
 go_wp2_with (at_make;refine wpList_make_full _ rfl _ _ 31 rfl w.heap.size 59 i0 (.agg #[.string ⟨#[]⟩,.string ⟨#[]⟩]) 2 Tryz.underlying31 hi0 hz0 hz1 _ _ _ _ ps.length rfl rfl (by omega) (by omega) (by rw[hz2];omega) (by unfold maxLen;omega) (Nat.le_refl _) ?_;intro w0 hown0 hgrow0)
 rw[zzy] at hown0
 have hb0:=(Below.refl w.heap.size w).grown hgrow0 (Nat.le_refl _) (by simp)
 have hs0:=hgrow0.size
 rcases hs with rfl | ⟨b,off,rfl,hc⟩
 · refine wp_loop_rounds 1 ?_
   rw[rounds_succ]
   go_wp2
   go_ret
   exact⟨rfl,hown0,hb0⟩
 · clear hgrow0
   go_loopw [4] (fun i wr=>∃ j:Nat,j≤ps.length∧i=.int .i64 (j:Int)∧wr.ownsRow w.heap.size 59 2 (.slice (some ⟨w.heap.size,0,none⟩) ps.length ps.length) ps.length (zd9 ps j)∧Below w.heap.size w wr) (fun i _=>ps.length - (intOf i).toNat)
   case atStart=>exact⟨0,Nat.zero_le _,rfl,by rw[zzq];exact hown0,hb0⟩
   case round =>
    obtain⟨j,hj,rfl,hown,hbel⟩:=hrel
    have hsz:=hbel.size
    by_cases hlt:j<ps.length
    · have hbl:=World.block_lt_of_cell? w _ (hc j hlt).1
      have c1:=(hbel.cell (p:=⟨b,off+j*2,none⟩) hbl).trans (hc j hlt).1
      have c2:=(hbel.cell (p:=⟨b,off+j*2+1,none⟩) hbl).trans (hc j hlt).2
      simp only at hbl
      have hlt2:=zci hown
      have HST:Hid (∀ W,Below wr.heap.size wr W→(W.setCell ⟨w.heap.size,j*2,none⟩ (.string ⟨ps[j].1.toArray⟩)).ownsRow w.heap.size 59 2 (.slice (some ⟨w.heap.size,0,none⟩) ps.length ps.length) ps.length ((zd9 ps j).set (j*2) (.string ⟨ps[j].1.toArray⟩))):=fun W hW=>((zaj hown hW).stored (j*2) _).1
      have HL2:Hid _:=zzr ps j hlt
      have hj0:(0:Int)≤(j:Int):=by omega
      have hj1:(j:Int)<(ps.length:Int):=by omega
      have HOW:=zc hown
      have HLEN:Hid _:=zzo ps j (by omega)
      obtain⟨x,hx⟩:∃ x,x=ps[j].1:=⟨_,rfl⟩
      obtain⟨y,hy⟩:∃ y,y=ps[j].2:=⟨_,rfl⟩
      rw[←hx] at c1 HST HL2
      rw[←hy] at c2 HL2
      have K:=za00 x y wr
      clear hc hx hy hown hown0 hb0
      go_wp2_with fail
      refine K.mono ?_
      rintro e w1 ⟨rfl,b1⟩
      have hO1:=zaj HOW.out b1
      obtain⟨o1,ho1⟩:∃ o,w1.cell? ⟨w.heap.size,j*2,none⟩=some o:=by rw[hO1.cellAt (j*2) (by omega)];exact⟨_,List.getElem?_eq_getElem (by rw[HLEN.out];omega)⟩
      obtain⟨o2,ho2⟩:∃ o,w1.cell? ⟨w.heap.size,j*2+1,none⟩=some o:=by rw[hO1.cellAt (j*2+1) (by omega)];exact⟨_,List.getElem?_eq_getElem (by rw[HLEN.out];omega)⟩
      have hf1:=hO1.frozenAt (j*2)
      have hf2:=hO1.frozenAt (j*2+1)
      have hst:=((hO1.stored (j*2) (.string ⟨x.toArray⟩)).1.stored (j*2+1) (.string ⟨y.toArray⟩)).1
      rw[HL2.out] at hst
      have HS2:=zc hst
      have hb2:=((hbel.trans (b1.mono hsz)).setCell (p:=⟨w.heap.size,j*2,none⟩) (Nat.le_refl _) (.string ⟨x.toArray⟩)).setCell (p:=⟨w.heap.size,j*2+1,none⟩) (Nat.le_refl _) (.string ⟨y.toArray⟩)
      clear hO1 b1 hst HOW HST HL2 K
      go_wp2
      go_roundw
      case rel=>exact⟨j+1,by omega,by go_num,HS2.out,hb2⟩
      case measure=>simp[intOf];omega
    · have hjl:j=ps.length:=by omega
      subst hjl
      rw[zzp] at hown
      clear hown0 hb0
      go_wp2
      go_ret
      exact⟨rfl,hown,hbel⟩
theorem za03 (k v:List UInt8) (w:World) :
 Calls Tryz.prog 66 #[.agg #[.string ⟨k.toArray⟩,.string ⟨v.toArray⟩],.agg #[.string ⟨k.toArray⟩,.string ⟨v.toArray⟩]] w fun e w'=>e=.returned (.bool true)∧Below w.heap.size w w':=by
 go_enter Tryz.func66,Tryz.ntmps66
 go_wp2
 go_ret
 exact⟨rfl,((Below.refl _ _).alloc (Nat.le_refl _) _).alloc (by simp) _⟩
theorem za04 (ps : List za) (a c : Option Addr) (n m : Nat) (w : World) (hl : ps.length ≤ 16777216) (hu : IsPairs w a ps) (hv : IsPairs w c ps) :
 Calls Tryz.prog 31 #[.slice a ps.length n,.slice c ps.length m] w fun e w'=>e=.returned (.bool true)∧Below w.heap.size w w':=by
 rcases hu with rfl | ⟨b,off,rfl,h1⟩
 · go_enter Tryz.func31,Tryz.ntmps31
   go_wp2
   refine wp_loop_rounds 1 ?_
   rw[rounds_succ]
   go_wp2
   go_ret
   exact⟨rfl,Below.refl _ _⟩
 · rcases hv with rfl | ⟨d,of2,rfl,h2⟩
   · go_enter Tryz.func31,Tryz.ntmps31
     go_wp2
     refine wp_loop_rounds 1 ?_
     rw[rounds_succ]
     go_wp2
     go_ret
     exact⟨rfl,Below.refl _ _⟩
   · go_enter Tryz.func31,Tryz.ntmps31
     go_wp2
     go_loopw [5] (fun i wr=>∃ j:Nat,j≤ps.length∧i=.int .i64 (j:Int)∧Below w.heap.size w wr) (fun i _=>ps.length - (intOf i).toNat)
     case atStart=>exact⟨0,Nat.zero_le _,rfl,Below.refl _ _⟩
     case round =>
      obtain⟨j,hj,rfl,hbel⟩:=hrel
      have hsz:=hbel.size
      by_cases hlt:j<ps.length
      · have c1:=(hbel.cell (p:=⟨b,off+j*2,none⟩) (World.block_lt_of_cell? w _ (h1 j hlt).1)).trans (h1 j hlt).1
        have c2:=(hbel.cell (p:=⟨b,off+j*2+1,none⟩) (World.block_lt_of_cell? w _ (h1 j hlt).2)).trans (h1 j hlt).2
        have d1:=(hbel.cell (p:=⟨d,of2+j*2,none⟩) (World.block_lt_of_cell? w _ (h2 j hlt).1)).trans (h2 j hlt).1
        have d2:=(hbel.cell (p:=⟨d,of2+j*2+1,none⟩) (World.block_lt_of_cell? w _ (h2 j hlt).2)).trans (h2 j hlt).2
        have hj0:(0:Int)≤(j:Int):=by omega
        have hj1:(j:Int)<(ps.length:Int):=by omega
        obtain⟨x,hx⟩:∃ x,x=ps[j].1:=⟨_,rfl⟩
        obtain⟨y,hy⟩:∃ y,y=ps[j].2:=⟨_,rfl⟩
        rw[←hx] at c1 d1
        rw[←hy] at c2 d2
        have K:=fun W=>za03 x y W
        clear h1 h2 hx hy
        go_wp2_with fail
        go_region_held3 (fun w'=>w'.cell? ⟨b,off+j*2,none⟩=some (.string ⟨x.toArray⟩)∧w'.cell? ⟨b,off+j*2+1,none⟩=some (.string ⟨y.toArray⟩)∧w'.cell? ⟨d,of2+j*2,none⟩=some (.string ⟨x.toArray⟩)∧w'.cell? ⟨d,of2+j*2+1,none⟩=some (.string ⟨y.toArray⟩))
         (first | (exact⟨by assumption,by assumption,by assumption,by assumption⟩) | go_keep)
         ((go_at_call 66
           refine (K _).mono ?_
           rintro e w1 ⟨rfl,b1'⟩
           have b1:Below wr.heap.size wr w1:=⟨b1'.os,b1'.tape,b1'.output,b1'.size,b1'.block⟩
           have x1:=(b1.cell (p:=⟨b,off+j*2,none⟩) (World.block_lt_of_cell? wr _ c1)).trans c1
           have x2:=(b1.cell (p:=⟨b,off+j*2+1,none⟩) (World.block_lt_of_cell? wr _ c2)).trans c2
           have y1:=(b1.cell (p:=⟨d,of2+j*2,none⟩) (World.block_lt_of_cell? wr _ d1)).trans d1
           have y2:=(b1.cell (p:=⟨d,of2+j*2+1,none⟩) (World.block_lt_of_cell? wr _ d2)).trans d2
           have B1:=hbel.trans (b1.mono hsz)))
        all_goals
         clear K
         go_wp2
         go_roundw
         case rel=>exact⟨j+1,by omega,by go_num,B1⟩
         case measure=>simp[intOf];omega
      · go_wp2
        go_ret
        exact⟨rfl,hbel⟩
open Go.ChangeShapes Go.WideShapes Go.ChangeAt Go.RowKit
def keyAt (ps:List za) (j:Nat):List UInt8:=(ps.getD j ([],[])).1
def zw (ps:List za) (j:Nat):List UInt8:=(ps.getD j ([],[])).2
def okAt (ps:List za) (j:Nat):Bool:=decide ((keyAt ps j).length≤12) && decide (1≤(zw ps j).length) && decide ((zw ps j).length≤60) && (decide (j=0) || Op.bytesLess (keyAt ps (j - 1)) (keyAt ps j))
def za3 (ps:List za):Bool:=decide (ps.length≤60) && (List.range ps.length).all (okAt ps)
theorem zq4 (ps:List za) (h:¬ ps.length≤60):za3 ps=false:=by simp[za3,h]
theorem zq5 (ps:List za) (j:Nat) (h:j<ps.length) (hb:okAt ps j=false):za3 ps=false:=by
 have:(List.range ps.length).all (okAt ps)=false:=by
  rw[List.all_eq_false]
  exact⟨j,List.mem_range.2 h,by simp[hb]⟩
 simp[za3,this]
theorem zq6 (ps:List za) (h60:ps.length≤60) (h:∀ j,j<ps.length→okAt ps j=true):za3 ps=true:=by
 simp only[za3,Bool.and_eq_true,decide_eq_true_eq,List.all_eq_true,List.mem_range]
 exact⟨h60,h⟩
theorem zfj (ps:List za) (h:za3 ps=true):ps.length≤60∧∀ j,j<ps.length→okAt ps j=true:=by
 simpa only[za3,Bool.and_eq_true,decide_eq_true_eq,List.all_eq_true,List.mem_range] using h
theorem zad (ps:List za) (j:Nat) (h:j<ps.length):keyAt ps j=ps[j].1:=by simp[keyAt,h]
theorem zbo (ps:List za) (j:Nat) (h:j<ps.length):zw ps j=ps[j].2:=by simp[zw,h]
theorem zx {B:Nat} {w w':World} {q:Nat} (h:Below B w w'):Below B w (w'.drewN q):=⟨h.os,h.tape,h.output,h.size,h.block⟩
theorem zas (l:List UInt8):(⟨l.toArray⟩:ByteArray).toList=l:=by simp
theorem zi0 (a : Option Addr) (cap : Nat) (ps : List za) (w : World) (hl : ps.length ≤ 1048576) (hm : ∀ p ∈ ps, p.1.length ≤ 1048576 ∧ p.2.length ≤ 1048576) (hs : IsPairs w a ps) :
 Calls Tryz.prog 60 #[.slice a ps.length cap] w fun e w'=>e=.returned (.bool (za3 ps))∧Below w.heap.size w w':=by
 by_cases h60:ps.length≤60
 · have h60' : (ps.length : Int) ≤ 60 := by omega
   rcases hs with rfl | ⟨b,off,rfl,hc⟩
   · go_enter Tryz.func60,Tryz.ntmps60
     go_wp2
     refine wp_loop_rounds 1 ?_
     rw[rounds_succ]
     go_wp2
     go_ret
     exact⟨rfl,Below.refl _ _⟩
   · have hm' : ∀ j (h : j < ps.length), ps[j].1.length ≤ 1048576 ∧ ps[j].2.length ≤ 1048576 := fun j h => hm _ (List.getElem_mem _)
     have hc':∀ j,j<ps.length→w.cell? ⟨b,off+j*2,none⟩=some (.string ⟨(keyAt ps j).toArray⟩)∧w.cell? ⟨b,off+j*2+1,none⟩=some (.string ⟨(zw ps j).toArray⟩):=fun j h=>by rw[zad ps j h,zbo ps j h];exact hc j h
     have hm2:∀ j,j<ps.length→(keyAt ps j).length≤1048576∧(zw ps j).length≤1048576:=fun j h=>by rw[zad ps j h,zbo ps j h];exact hm' j h
     obtain⟨r,hr⟩:∃ r,r=za3 ps:=⟨_,rfl⟩
     have HBAD:Hid (∀ j,j<ps.length→okAt ps j=false→r=false):=fun j h hb=>by rw[hr];exact zq5 ps j h hb
     have HALL:Hid ((∀ j,j<ps.length→okAt ps j=true)→r=true):=fun h=>by rw[hr];exact zq6 ps h60 h
     rw[←hr]
     clear hm hc hm' hr
     go_enter Tryz.func60,Tryz.ntmps60
     go_wp2
     go_loopw [3,4,10] (fun _ _ i wr=>∃ j:Nat,j≤ps.length∧i=.int .i64 (j:Int)∧Hid (∀ k,k<j→okAt ps k=true)∧Below w.heap.size w wr) (fun _ _ i _=>ps.length - (intOf i).toNat)
     case atStart=>exact⟨0,Nat.zero_le _,rfl,fun k hk=>by omega,Below.refl _ _⟩
     case round =>
      obtain⟨j,hj,rfl,HA,hbel⟩:=hrel
      have hsz:=hbel.size
      by_cases hlt:j<ps.length
      · obtain ⟨c1', c2'⟩ := hc' j hlt
        have c1:=(hbel.cell (p:=⟨b,off+j*2,none⟩) (World.block_lt_of_cell? w _ c1')).trans c1'
        have c2:=(hbel.cell (p:=⟨b,off+j*2+1,none⟩) (World.block_lt_of_cell? w _ c2')).trans c2'
        clear c1' c2'
        have m1:=hm2 j hlt
        have hj0:(0:Int)≤(j:Int):=by omega
        have hj1:(j:Int)<(ps.length:Int):=by omega
        have HB:Hid _:=HBAD.out j hlt
        have HN:Hid (okAt ps j=true→∀ k,k<j+1→okAt ps k=true):=fun h k hk=>by
         by_cases e:k=j
         · rw[e];exact h
         · exact HA.out k (by omega)
        have HO:Hid (okAt ps j=(decide ((keyAt ps j).length≤12) && decide (1≤(zw ps j).length) && decide ((zw ps j).length≤60) && (decide (j=0) || Op.bytesLess (keyAt ps (j - 1)) (keyAt ps j)))):=rfl
        by_cases hz:j=0
        · subst hz
          simp only[Nat.zero_mul,Nat.add_zero] at c1 c2
          have hz0:¬ (0:Int)<((0:Nat):Int):=by omega
          have hzb:=decide_eq_false (by omega)
          obtain⟨x,hx⟩:∃ x,x=keyAt ps 0:=⟨_,rfl⟩
          obtain⟨y,hy⟩:∃ y,y=zw ps 0:=⟨_,rfl⟩
          rw[←hx] at c1 m1
          rw[←hy] at c2 m1
          have HO2:Hid (okAt ps 0=(decide (x.length≤12) && decide (1≤y.length) && decide (y.length≤60))):=by rw[Hid,HO.out,←hx,←hy];simp
          clear hc' hm2 hx hy HO HA HBAD HALL
          by_cases q1:x.length≤12
          · have q1':(x.length:Int)≤12:=by omega
            have q1b:=decide_eq_false (by omega)
            by_cases q2:1≤y.length
            · have q2':(1:Int)≤(y.length:Int):=by omega
              have q2b:=decide_eq_false (by omega)
              have q2n:¬ y=[]:=by intro e;rw[e] at q2;simp at q2
              have q2p:0<y.length:=by omega
              by_cases q3:y.length≤60
              · have q3':(y.length:Int)≤60:=by omega
                have q3b:=decide_eq_false (by omega)
                have HT:Hid (okAt ps 0=true):=by rw[Hid,HO2.out];simp[q1,q2,q3]
                go_wp2
                go_quiet (fail)
                go_wp2
                go_roundw
                case rel=>exact⟨1,by omega,by first | rfl | go_num,HN.out HT.out,by first | exact hbel | exact (hbel.alloc hsz _) | exact zx (hbel.alloc hsz _) | exact zx hbel⟩
                case measure=>simp[intOf];omega
              · have q3':¬ (y.length:Int)≤60:=by omega
                have HR:Hid (r=false):=HB.out (by rw[HO2.out];simp[q3])
                go_wp2
                go_ret
                obtain rfl:=HR.out
                exact⟨rfl,by first | exact hbel | exact (hbel.alloc hsz _) | exact zx (hbel.alloc hsz _) | exact zx hbel⟩
            · have q2':¬ (1:Int)≤(y.length:Int):=by omega
              have HR:Hid (r=false):=HB.out (by rw[HO2.out];simp[q2])
              go_wp2
              go_ret
              obtain rfl:=HR.out
              exact⟨rfl,by first | exact hbel | exact (hbel.alloc hsz _) | exact zx (hbel.alloc hsz _) | exact zx hbel⟩
          · have q1':¬ (x.length:Int)≤12:=by omega
            have HR:Hid (r=false):=HB.out (by rw[HO2.out];simp[q1])
            go_wp2
            go_ret
            obtain rfl:=HR.out
            exact⟨rfl,by first | exact hbel | exact (hbel.alloc hsz _) | exact zx (hbel.alloc hsz _) | exact zx hbel⟩
        · obtain ⟨d1', _⟩ := hc' (j - 1) (by omega)
          have d1:=(hbel.cell (p:=⟨b,off+(j - 1)*2,none⟩) (World.block_lt_of_cell? w _ d1')).trans d1'
          clear d1'
          obtain⟨i1,hi1⟩:∃ i1,i1=j - 1:=⟨_,rfl⟩
          rw[←hi1] at d1 HO
          have hz':(0:Int)<(j:Int):=by omega
          have hz'':0<j:=by omega
          have hzb:decide ((0:Int)<(j:Int))=true:=by simp;omega
          have hzi:IntKind.i64.wrap ((j:Int) - 1)=(i1:Int):=by rw[zag _ (by omega) (by omega)];omega
          have hzt:((i1:Int)).toNat=i1:=by omega
          have hi2:(j:Int) - 1=(i1:Int):=by omega
          have hi0:(0:Int)≤(i1:Int):=by omega
          have hi3:(i1:Int)<(ps.length:Int):=by omega
          obtain⟨x,hx⟩:∃ x,x=keyAt ps j:=⟨_,rfl⟩
          obtain⟨y,hy⟩:∃ y,y=zw ps j:=⟨_,rfl⟩
          obtain⟨z,hz2⟩:∃ z,z=keyAt ps i1:=⟨_,rfl⟩
          rw[←hx] at c1 m1
          rw[←hy] at c2 m1
          rw[←hz2] at d1
          have HO2:Hid (okAt ps j=(decide (x.length≤12) && decide (1≤y.length) && decide (y.length≤60) && Op.bytesLess z x)):=by rw[Hid,HO.out,←hx,←hy,←hz2];simp[hz]
          have d1a:(wr.alloc (.cells #[.string ⟨x.toArray⟩,.string ⟨y.toArray⟩] 103)).cell? ⟨b,off+i1*2,none⟩=some (.string ⟨z.toArray⟩):=by rw[World.cell?_alloc_lt _ _ _ (World.block_lt_of_cell? wr _ d1)];exact d1
          clear hc' hm2 hx hy HO HA HBAD HALL hz2 hi1
          by_cases q1:x.length≤12
          · have q1':(x.length:Int)≤12:=by omega
            have q1b:=decide_eq_false (by omega)
            by_cases q2:1≤y.length
            · have q2':(1:Int)≤(y.length:Int):=by omega
              have q2b:=decide_eq_false (by omega)
              have q2n:¬ y=[]:=by intro e;rw[e] at q2;simp at q2
              have q2p:0<y.length:=by omega
              by_cases q3:y.length≤60
              · have q3':(y.length:Int)≤60:=by omega
                have q3b:=decide_eq_false (by omega)
                cases q4:Op.bytesLess z x with
                | true =>
                  have q4':Op.bytesLess (⟨z.toArray⟩:ByteArray).toList (⟨x.toArray⟩:ByteArray).toList=true:=by rw[zas,zas];exact q4
                  have HT:Hid (okAt ps j=true):=by rw[Hid,HO2.out];simp[q1,q2,q3,q4]
                  go_wp2
                  go_quiet (fail)
                  go_wp2
                  go_roundw
                  case rel=>exact⟨j+1,by omega,by go_num,HN.out HT.out,by first | exact hbel | exact (hbel.alloc hsz _) | exact zx (hbel.alloc hsz _) | exact zx hbel⟩
                  case measure=>simp[intOf];omega
                | false =>
                  have q4':Op.bytesLess (⟨z.toArray⟩:ByteArray).toList (⟨x.toArray⟩:ByteArray).toList=false:=by rw[zas,zas];exact q4
                  have HR:Hid (r=false):=HB.out (by rw[HO2.out];simp[q4])
                  go_wp2
                  go_quiet (fail)
                  go_wp2
                  go_ret
                  obtain rfl:=HR.out
                  exact⟨rfl,by first | exact hbel | exact (hbel.alloc hsz _) | exact zx (hbel.alloc hsz _) | exact zx hbel⟩
              · have q3':¬ (y.length:Int)≤60:=by omega
                have HR:Hid (r=false):=HB.out (by rw[HO2.out];simp[q3])
                go_wp2
                go_ret
                obtain rfl:=HR.out
                exact⟨rfl,by first | exact hbel | exact (hbel.alloc hsz _) | exact zx (hbel.alloc hsz _) | exact zx hbel⟩
            · have q2':¬ (1:Int)≤(y.length:Int):=by omega
              have HR:Hid (r=false):=HB.out (by rw[HO2.out];simp[q2])
              go_wp2
              go_ret
              obtain rfl:=HR.out
              exact⟨rfl,by first | exact hbel | exact (hbel.alloc hsz _) | exact zx (hbel.alloc hsz _) | exact zx hbel⟩
          · have q1':¬ (x.length:Int)≤12:=by omega
            have HR:Hid (r=false):=HB.out (by rw[HO2.out];simp[q1])
            go_wp2
            go_ret
            obtain rfl:=HR.out
            exact⟨rfl,by first | exact hbel | exact (hbel.alloc hsz _) | exact zx (hbel.alloc hsz _) | exact zx hbel⟩
      · have hjl:j=ps.length:=by omega
        subst hjl
        have HR:Hid _:=HALL.out (fun k hk=>HA.out k hk)
        clear hc' hm2
        go_wp2
        go_ret
        obtain rfl:=HR.out
        exact⟨rfl,by first | exact hbel | exact (hbel.alloc hsz _) | exact zx (hbel.alloc hsz _) | exact zx hbel⟩
 · have h60':¬ (ps.length:Int)≤60:=by omega
   have HB:Hid _:=zq4 ps h60
   obtain⟨r,hr⟩:∃ r,r=za3 ps:=⟨_,rfl⟩
   rw[←hr] at HB ⊢
   clear hs hm hr
   go_enter Tryz.func60,Tryz.ntmps60
   go_wp2
   go_ret
   obtain rfl:=HB.out
   exact⟨rfl,Below.refl _ _⟩
theorem zi1 (a : Option Addr) (cap : Nat) (ps : List za) (w : World) (hl : ps.length ≤ 1048576) (hm : ∀ p ∈ ps, p.1.length ≤ 1048576 ∧ p.2.length ≤ 1048576) (hs : IsPairs w a ps) :
 Calls Tryz.prog 73 #[.slice a ps.length cap] w fun e w'=>e=.returned (.bool (za3 ps))∧Below w.heap.size w w':=by
 by_cases h60:ps.length≤60
 · have h60' : (ps.length : Int) ≤ 60 := by omega
   rcases hs with rfl | ⟨b,off,rfl,hc⟩
   · go_enter Tryz.func73,Tryz.ntmps73
     go_wp2
     refine wp_loop_rounds 1 ?_
     rw[rounds_succ]
     go_wp2
     go_ret
     exact⟨rfl,Below.refl _ _⟩
   · have hm' : ∀ j (h : j < ps.length), ps[j].1.length ≤ 1048576 ∧ ps[j].2.length ≤ 1048576 := fun j h => hm _ (List.getElem_mem _)
     have hc':∀ j,j<ps.length→w.cell? ⟨b,off+j*2,none⟩=some (.string ⟨(keyAt ps j).toArray⟩)∧w.cell? ⟨b,off+j*2+1,none⟩=some (.string ⟨(zw ps j).toArray⟩):=fun j h=>by rw[zad ps j h,zbo ps j h];exact hc j h
     have hm2:∀ j,j<ps.length→(keyAt ps j).length≤1048576∧(zw ps j).length≤1048576:=fun j h=>by rw[zad ps j h,zbo ps j h];exact hm' j h
     obtain⟨r,hr⟩:∃ r,r=za3 ps:=⟨_,rfl⟩
     have HBAD:Hid (∀ j,j<ps.length→okAt ps j=false→r=false):=fun j h hb=>by rw[hr];exact zq5 ps j h hb
     have HALL:Hid ((∀ j,j<ps.length→okAt ps j=true)→r=true):=fun h=>by rw[hr];exact zq6 ps h60 h
     rw[←hr]
     clear hm hc hm' hr
     go_enter Tryz.func73,Tryz.ntmps73
     go_wp2
     go_loopw [3] (fun i wr=>∃ j:Nat,j≤ps.length∧i=.int .i64 (j:Int)∧Hid (∀ k,k<j→okAt ps k=true)∧Below w.heap.size w wr) (fun i _=>ps.length - (intOf i).toNat)
     case atStart=>exact⟨0,Nat.zero_le _,rfl,fun k hk=>by omega,Below.refl _ _⟩
     case round =>
      obtain⟨j,hj,rfl,HA,hbel⟩:=hrel
      have hsz:=hbel.size
      by_cases hlt:j<ps.length
      · obtain ⟨c1', c2'⟩ := hc' j hlt
        have c1:=(hbel.cell (p:=⟨b,off+j*2,none⟩) (World.block_lt_of_cell? w _ c1')).trans c1'
        have c2:=(hbel.cell (p:=⟨b,off+j*2+1,none⟩) (World.block_lt_of_cell? w _ c2')).trans c2'
        clear c1' c2'
        have m1:=hm2 j hlt
        have hj0:(0:Int)≤(j:Int):=by omega
        have hj1:(j:Int)<(ps.length:Int):=by omega
        have HB:Hid (okAt ps j=false→r=false):=HBAD.out j hlt
        have HN:Hid (okAt ps j=true→∀ k,k<j+1→okAt ps k=true):=fun h k hk=>by
         by_cases e:k=j
         · rw[e];exact h
         · exact HA.out k (by omega)
        have HO:Hid (okAt ps j=(decide ((keyAt ps j).length≤12) && decide (1≤(zw ps j).length) && decide ((zw ps j).length≤60) && (decide (j=0) || Op.bytesLess (keyAt ps (j - 1)) (keyAt ps j)))):=rfl
        by_cases hz:j=0
        · subst hz
          simp only[Nat.zero_mul,Nat.add_zero] at c1 c2
          have hz0:¬ (0:Int)<((0:Nat):Int):=by omega
          have hzb:decide ((0:Int)<((0:Nat):Int))=false:=decide_eq_false (by omega)
          obtain⟨x,hx⟩:∃ x,x=keyAt ps 0:=⟨_,rfl⟩
          obtain⟨y,hy⟩:∃ y,y=zw ps 0:=⟨_,rfl⟩
          rw[←hx] at c1 m1
          rw[←hy] at c2 m1
          have HO2:Hid (okAt ps 0=(decide (x.length≤12) && decide (1≤y.length) && decide (y.length≤60))):=by rw[Hid,HO.out,←hx,←hy];simp
          clear hc' hm2 hx hy HO HA HBAD HALL
          by_cases q1:x.length≤12
          · have q1':(x.length:Int)≤12:=by omega
            have q1b:decide ((12:Int)<(x.length:Int))=false:=decide_eq_false (by omega)
            by_cases q2:1≤y.length
            · have q2':(1:Int)≤(y.length:Int):=by omega
              have q2b:decide ((y.length:Int)<(1:Int))=false:=decide_eq_false (by omega)
              have q2n:¬ y=[]:=by intro e;rw[e] at q2;simp at q2
              have q2p:0<y.length:=by omega
              by_cases q3:y.length≤60
              · have q3':(y.length:Int)≤60:=by omega
                have q3b:decide ((60:Int)<(y.length:Int))=false:=decide_eq_false (by omega)
                have HT:Hid (okAt ps 0=true):=by rw[Hid,HO2.out];simp[q1,q2,q3]
                go_wp2
                go_quiet (fail)
                go_wp2
                go_roundw
                case rel=>exact⟨1,by omega,by first | rfl | go_num,HN.out HT.out,by first | exact hbel | exact (hbel.alloc hsz _) | exact zx (hbel.alloc hsz _) | exact zx hbel⟩
                case measure=>simp[intOf];omega
              · have q3':¬ (y.length:Int)≤60:=by omega
                have HR:Hid (r=false):=HB.out (by rw[HO2.out];simp[q3])
                go_wp2
                go_quiet (fail)
                go_wp2
                go_ret
                obtain rfl:=HR.out
                exact⟨rfl,by first | exact hbel | exact (hbel.alloc hsz _) | exact zx (hbel.alloc hsz _) | exact zx hbel⟩
            · have q2':¬ (1:Int)≤(y.length:Int):=by omega
              have HR:Hid (r=false):=HB.out (by rw[HO2.out];simp[q2])
              go_wp2
              go_quiet (fail)
              go_wp2
              go_ret
              obtain rfl:=HR.out
              exact⟨rfl,by first | exact hbel | exact (hbel.alloc hsz _) | exact zx (hbel.alloc hsz _) | exact zx hbel⟩
          · have q1':¬ (x.length:Int)≤12:=by omega
            have HR:Hid (r=false):=HB.out (by rw[HO2.out];simp[q1])
            go_wp2
            go_quiet (fail)
            go_wp2
            go_ret
            obtain rfl:=HR.out
            exact⟨rfl,by first | exact hbel | exact (hbel.alloc hsz _) | exact zx (hbel.alloc hsz _) | exact zx hbel⟩
        · obtain ⟨d1', _⟩ := hc' (j - 1) (by omega)
          have d1:=(hbel.cell (p:=⟨b,off+(j - 1)*2,none⟩) (World.block_lt_of_cell? w _ d1')).trans d1'
          clear d1'
          obtain⟨i1,hi1⟩:∃ i1,i1=j - 1:=⟨_,rfl⟩
          rw[←hi1] at d1 HO
          have hz':(0:Int)<(j:Int):=by omega
          have hz'':0<j:=by omega
          have hzb:decide ((0:Int)<(j:Int))=true:=by simp;omega
          have hzi:IntKind.i64.wrap ((j:Int) - 1)=(i1:Int):=by rw[zag _ (by omega) (by omega)];omega
          have hzt:((i1:Int)).toNat=i1:=by omega
          have hi2:(j:Int) - 1=(i1:Int):=by omega
          have hi0:(0:Int)≤(i1:Int):=by omega
          have hi3:(i1:Int)<(ps.length:Int):=by omega
          obtain⟨x,hx⟩:∃ x,x=keyAt ps j:=⟨_,rfl⟩
          obtain⟨y,hy⟩:∃ y,y=zw ps j:=⟨_,rfl⟩
          obtain⟨z,hz2⟩:∃ z,z=keyAt ps i1:=⟨_,rfl⟩
          rw[←hx] at c1 m1
          rw[←hy] at c2 m1
          rw[←hz2] at d1
          have HO2:Hid (okAt ps j=(decide (x.length≤12) && decide (1≤y.length) && decide (y.length≤60) && Op.bytesLess z x)):=by rw[Hid,HO.out,←hx,←hy,←hz2];simp[hz]
          clear hc' hm2 hx hy HO HA HBAD HALL hz2 hi1
          by_cases q1:x.length≤12
          · have q1':(x.length:Int)≤12:=by omega
            have q1b:decide ((12:Int)<(x.length:Int))=false:=decide_eq_false (by omega)
            by_cases q2:1≤y.length
            · have q2':(1:Int)≤(y.length:Int):=by omega
              have q2b:decide ((y.length:Int)<(1:Int))=false:=decide_eq_false (by omega)
              have q2n:¬ y=[]:=by intro e;rw[e] at q2;simp at q2
              have q2p:0<y.length:=by omega
              by_cases q3:y.length≤60
              · have q3':(y.length:Int)≤60:=by omega
                have q3b:decide ((60:Int)<(y.length:Int))=false:=decide_eq_false (by omega)
                cases q4:Op.bytesLess z x with
                | true =>
                  have q4':Op.bytesLess (⟨z.toArray⟩:ByteArray).toList (⟨x.toArray⟩:ByteArray).toList=true:=by rw[zas,zas];exact q4
                  have HT:Hid (okAt ps j=true):=by rw[Hid,HO2.out];simp[q1,q2,q3,q4]
                  go_wp2
                  go_quiet (fail)
                  go_wp2
                  go_roundw
                  case rel=>exact⟨j+1,by omega,by go_num,HN.out HT.out,by first | exact hbel | exact (hbel.alloc hsz _) | exact zx (hbel.alloc hsz _) | exact zx hbel⟩
                  case measure=>simp[intOf];omega
                | false =>
                  have q4':Op.bytesLess (⟨z.toArray⟩:ByteArray).toList (⟨x.toArray⟩:ByteArray).toList=false:=by rw[zas,zas];exact q4
                  have HR:Hid (r=false):=HB.out (by rw[HO2.out];simp[q4])
                  go_wp2
                  go_quiet (fail)
                  go_wp2
                  go_ret
                  obtain rfl:=HR.out
                  exact⟨rfl,by first | exact hbel | exact (hbel.alloc hsz _) | exact zx (hbel.alloc hsz _) | exact zx hbel⟩
              · have q3':¬ (y.length:Int)≤60:=by omega
                have HR:Hid (r=false):=HB.out (by rw[HO2.out];simp[q3])
                go_wp2
                go_quiet (fail)
                go_wp2
                go_ret
                obtain rfl:=HR.out
                exact⟨rfl,by first | exact hbel | exact (hbel.alloc hsz _) | exact zx (hbel.alloc hsz _) | exact zx hbel⟩
            · have q2':¬ (1:Int)≤(y.length:Int):=by omega
              have HR:Hid (r=false):=HB.out (by rw[HO2.out];simp[q2])
              go_wp2
              go_quiet (fail)
              go_wp2
              go_ret
              obtain rfl:=HR.out
              exact⟨rfl,by first | exact hbel | exact (hbel.alloc hsz _) | exact zx (hbel.alloc hsz _) | exact zx hbel⟩
          · have q1':¬ (x.length:Int)≤12:=by omega
            have HR:Hid (r=false):=HB.out (by rw[HO2.out];simp[q1])
            go_wp2
            go_quiet (fail)
            go_wp2
            go_ret
            obtain rfl:=HR.out
            exact⟨rfl,by first | exact hbel | exact (hbel.alloc hsz _) | exact zx (hbel.alloc hsz _) | exact zx hbel⟩
      · have hjl:j=ps.length:=by omega
        subst hjl
        have HR:Hid (r=true):=HALL.out (fun k hk=>HA.out k hk)
        clear hc' hm2
        go_wp2
        go_ret
        obtain rfl:=HR.out
        exact⟨rfl,by first | exact hbel | exact (hbel.alloc hsz _) | exact zx (hbel.alloc hsz _) | exact zx hbel⟩
 · have h60':¬ (ps.length:Int)≤60:=by omega
   have HB:Hid (za3 ps=false):=zq4 ps h60
   obtain⟨r,hr⟩:∃ r,r=za3 ps:=⟨_,rfl⟩
   rw[←hr] at HB ⊢
   clear hs hm hr
   go_enter Tryz.func73,Tryz.ntmps73
   go_wp2
   go_ret
   obtain rfl:=HB.out
   exact⟨rfl,Below.refl _ _⟩
open Go.ChangeShapes Go.WideShapes Go.ChangeAt Go.RowKit
def zdi:Value→List UInt8
 | .string s=>s.data.toList
 | _=>[]
theorem za05 {H:Type} {enc:TypeId × Value→H} {W:World} {fuel:Nat} {u:Value} {y:DataW H × List MemPlace} (hf:DataW.trod enc Tryz.prog W 0 (fun _=>true) true fuel 22 [u]=some y) :
 ∃ (a:Option Addr) (ps:List za) (cap:Nat),u=.slice a ps.length cap∧(∀ p∈ps,p.1.length≤9223372036854775807∧p.2.length≤9223372036854775807)∧IsPairs W a ps∧ps.length≤9223372036854775807:=by
 rcases Go.Deep.open_slice_pairs Tryz.underlying22 Tryz.underlying78 (by kernel_rfl) rfl rfl (by kernel_rfl) (by kernel_rfl) hf with ⟨hcs,_⟩ | ⟨a,len,cap,m,n,V0,V1,D0,D1,P0,P1,hcs,_,hl,hm,hmm,_,hx⟩
 · simp at hcs
   exact⟨none,[],0,hcs,by simp,.inl rfl,by simp⟩
 · simp at hcs
   unfold maxLen at hm
   simp only[if_true] at hmm
   have each:∀ i,i<len→W.cell? (a.add (i*2))=some (.string ⟨(zdi (V0 i)).toArray⟩)∧W.cell? (a.add (i*2+1))=some (.string ⟨(zdi (V1 i)).toArray⟩)∧(zdi (V0 i)).length≤9223372036854775807∧(zdi (V1 i)).length≤9223372036854775807:=by
    intro i hi
    obtain⟨e0,e1,t0,t1⟩:=hx i (by omega)
    obtain⟨s0,hs0,_,w0⟩:=DataW.trod_string Tryz.underlying9 t0
    obtain⟨s1,hs1,_,w1⟩:=DataW.trod_string Tryz.underlying9 t1
    simp at hs0 hs1
    unfold maxLen at w0 w1
    rw[hs0] at e0 ⊢
    rw[hs1] at e1 ⊢
    refine⟨by rw[e0];simp[zdi],by rw[e1];simp[zdi],?_,?_⟩
    · simp only[zdi,Array.length_toList];exact w0
    · simp only[zdi,Array.length_toList];exact w1
   refine⟨some a,(List.range len).map (fun i=>(zdi (V0 i),zdi (V1 i))),cap,by rw[hcs];simp,?_,?_,by simp;omega⟩
   · intro p hp
     simp only[List.mem_map,List.mem_range] at hp
     obtain⟨i,hi,rfl⟩:=hp
     exact⟨(each i hi).2.2.1,(each i hi).2.2.2⟩
   · by_cases h0:len=0
     · exact .inl (by simp[h0])
     · obtain⟨b,off,spot⟩:=a
       have hc:=(each 0 (by omega)).1
       have hspot:spot=none:=by simpa [Addr.add] using World.cell?_spot hc
       subst hspot
       refine .inr ⟨b,off,rfl,fun j hj=>?_⟩
       simp at hj
       have hcj:=each j hj
       have e1:(⟨b,off,none⟩:Addr).add (j*2)=⟨b,off+j*2,none⟩:=by simp[Addr.add]
       have e2:(⟨b,off,none⟩:Addr).add (j*2+1)=⟨b,off+j*2+1,none⟩:=by simp[Addr.add,Nat.add_assoc]
       rw[e1,e2] at hcj
       simp only[List.getElem_map,List.getElem_range]
       exact⟨hcj.1,hcj.2.1⟩
theorem za06 (ps:List za) (a:Option Addr) (m cap b1 k:Nat) (w:World) (hl:ps.length≤4000000) (hk:0<k) (hk2:k≤4000000) (hv:w.ownsRow b1 59 2 (.slice a m cap) ps.length (zb ps)) :
 Calls Tryz.prog 34 #[.slice a m cap,.int .i64 k] w fun e w'=>e=.returned (.int .i64 ((k:Int)+2*(ps.length:Int)))∧w'.ownsRow b1 59 2 (.slice a m cap) ps.length (zb (zbv k ps.length))∧w.grownBy w' (Value.slice a m cap).ownBlock:=by
 rcases zc9 hv with ⟨hv0,hn,hx⟩ | ⟨g,cap',hv0,hg1,hg2,hc,hf⟩
 · cases hv0
   have hls:ps=[]:=List.length_eq_zero_iff.1 hn
   subst hls
   go_enter Tryz.func34,Tryz.ntmps34
   go_wp2
   refine wp_loop_rounds 1 ?_
   rw[rounds_succ]
   go_wp2
   go_ret
   exact⟨by simp,hv,World.grownBy.refl _ _⟩
 · cases hv0
   clear hc hf
   go_enter Tryz.func34,Tryz.ntmps34
   go_wp2
   go_loopw [1,5] (fun mm i wr=>∃ j:Nat,j≤ps.length∧i=.int .i64 (j:Int)∧mm=.int .i64 ((k+2*j:Nat):Int)∧wr.ownsRow b1 59 2 (.slice (some ⟨g,0,none⟩) ps.length cap) ps.length (zdh k j ps)∧w.grownBy wr (some g)) (fun _ i _=>ps.length - (intOf i).toNat)
   case atStart=>exact⟨0,Nat.zero_le _,rfl,rfl,by rw[zzu];exact hv,World.grownBy.refl _ _⟩
   case round =>
    obtain⟨j,hj,rfl,rfl,hown,hgr⟩:=hrel
    by_cases hlt:j<ps.length
    · have hj1:(j:Int)<(ps.length:Int):=by omega
      have hj0:(0:Int)≤(j:Int):=by omega
      have HLEN:Hid _:=zzw k j ps (by omega)
      have HSTEP:Hid _:=zzx k j ps hlt
      have K1:=fun W=>zfs (k+2*j) W (by omega) (by omega)
      have K2:=fun W=>zfs (k+2*j+1) W (by omega) (by omega)
      rw[show ((k+2*j+1:Nat):Int)=((k+2*j:Nat):Int)+1 by omega] at K2
      obtain⟨q,hq⟩:∃ q,q=k+2*j:=⟨_,rfl⟩
      rw[←hq] at K1 K2 HSTEP ⊢
      have HQ:Hid _:=hq
      have HO:=zc hown
      have HG:Hid _:=hgr
      have hqs:(q:Int)≤100000000:=by omega
      have hq0:(0:Int)≤(q:Int):=by omega
      obtain⟨t1,ht1⟩:∃ t,t=markT q:=⟨_,rfl⟩
      obtain⟨t2,ht2⟩:∃ t,t=markT (q+1):=⟨_,rfl⟩
      rw[←ht1] at K1 HSTEP
      rw[←ht2] at K2 HSTEP
      clear hown hgr hq ht1 ht2
      go_wp2_with fail
      refine (K1 _).mono ?_
      rintro e w1 ⟨rfl,b1'⟩
      have o1:=zaj HO.out b1'
      have g1:=HG.out.trans (zbw b1' (some g))
      obtain⟨x1,hx1⟩:∃ o,w1.cell? ⟨g,j*2,none⟩=some o:=by rw[o1.cellAt (j*2) (by omega)];exact⟨_,List.getElem?_eq_getElem (by rw[HLEN.out];omega)⟩
      have f1:=o1.frozenAt (j*2)
      have st1:=o1.stored (j*2) (.string ⟨t1.toArray⟩)
      have O2:=zc st1.1
      have HG2:Hid _:=g1.trans st1.2
      clear o1 g1 st1 b1' HO HG
      go_wp2_with fail
      refine (K2 _).mono ?_
      rintro e w2 ⟨rfl,b2'⟩
      have o2:=zaj O2.out b2'
      have g2:=HG2.out.trans (zbw b2' (some g))
      obtain⟨x2,hx2⟩:∃ o,w2.cell? ⟨g,j*2+1,none⟩=some o:=by rw[o2.cellAt (j*2+1) (by omega)];exact⟨_,List.getElem?_eq_getElem (by rw[List.length_set,HLEN.out];omega)⟩
      have f2:=o2.frozenAt (j*2+1)
      have st2:=o2.stored (j*2+1) (.string ⟨t2.toArray⟩)
      rw[HSTEP.out] at st2
      have O3:=zc st2.1
      have HG3:Hid _:=g2.trans st2.2
      clear o2 g2 st2 b2' O2 HG2 hx1 f1
      go_wp2
      go_roundw
      case rel=>exact⟨j+1,by omega,by go_num,by have:=HQ.out;congr 1;omega,O3.out,HG3.out⟩
      case measure=>simp[intOf];omega
    · have hjl:j=ps.length:=by omega
      subst hjl
      rw[zzv] at hown
      go_wp2
      go_ret
      exact⟨by congr 2,hown,hgr⟩
theorem za07 (n : Nat) (a : Option Addr) (m cap b1 k : Nat) (w : World) (hl : n ≤ 4000000) (hk : 0 < k) (hk2 : k ≤ 4000000) (hv : w.ownsRow b1 59 2 (.slice a m cap) n (zb (zbv k n))) :
 Calls Tryz.prog 37 #[.slice a m cap,.int .i64 k] w fun e w'=>e=.returned (.int .i64 ((k:Int)+2*(n:Int)))∧w.grownBy w' none:=by
 rcases zc9 hv with ⟨hv0,hn,hx⟩ | ⟨g,cap',hv0,hg1,hg2,hc,hf⟩
 · cases hv0
   subst hn
   go_enter Tryz.func37,Tryz.ntmps37
   go_wp2
   refine wp_loop_rounds 1 ?_
   rw[rounds_succ]
   go_wp2
   go_ret
   exact⟨by simp,World.grownBy.refl _ _⟩
 · cases hv0
   have hcc:∀ j,j<n→w.cell? ⟨g,j*2,none⟩=some (.string ⟨(markT (k+2*j)).toArray⟩)∧w.cell? ⟨g,j*2+1,none⟩=some (.string ⟨(markT (k+2*j+1)).toArray⟩):=fun j hj=>by
    have hj':j<(zbv k n).length:=by rw[zkq];exact hj
    have:=zea (zbv k n) j hj'
    rw[zzs k n j hj'] at this
    exact⟨(hc _ (by omega)).trans this.1,(hc _ (by omega)).trans this.2⟩
   clear hc hf
   go_enter Tryz.func37,Tryz.ntmps37
   go_wp2
   go_loopw [1,5] (fun mm i wr=>∃ j:Nat,j≤n∧i=.int .i64 (j:Int)∧mm=.int .i64 ((k+2*j:Nat):Int)∧w.grownBy wr none) (fun _ i _=>n - (intOf i).toNat)
   case atStart=>exact⟨0,Nat.zero_le _,rfl,rfl,World.grownBy.refl _ _⟩
   case round =>
    obtain⟨j,hj,rfl,rfl,hgr⟩:=hrel
    by_cases hlt:j<n
    · have hj1:(j:Int)<(n:Int):=by omega
      have hj0:(0:Int)≤(j:Int):=by omega
      have c1:=(hgr.cell_far ⟨g,j*2,none⟩ hg2 (by simp)).trans (hcc j hlt).1
      have c2:=(hgr.cell_far ⟨g,j*2+1,none⟩ hg2 (by simp)).trans (hcc j hlt).2
      have hwlt:=Nat.lt_of_lt_of_le hg2 hgr.size
      have HG:Hid _:=hgr
      have K1:=fun W=>zfs (k+2*j) W (by omega) (by omega)
      have K2:=fun W=>zfs (k+2*j+1) W (by omega) (by omega)
      rw[show ((k+2*j+1:Nat):Int)=((k+2*j:Nat):Int)+1 by omega] at K2
      obtain⟨q,hq⟩:∃ q,q=k+2*j:=⟨_,rfl⟩
      rw[←hq] at K1 K2 c1 c2 ⊢
      have HQ:Hid _:=hq
      have hqs:(q:Int)≤100000000:=by omega
      have hq0:(0:Int)≤(q:Int):=by omega
      obtain⟨t1,ht1⟩:∃ t,t=markT q:=⟨_,rfl⟩
      obtain⟨t2,ht2⟩:∃ t,t=markT (q+1):=⟨_,rfl⟩
      rw[←ht1] at K1 c1
      rw[←ht2] at K2 c2
      clear hcc hgr hv hq ht1 ht2
      go_wp2_with fail
      go_region_held3 (fun w'=>w'.cell? ⟨g,j*2,none⟩=some (.string ⟨t1.toArray⟩))
       (first | assumption | go_keep)
       ((go_at_call 69;refine (K1 _).mono ?_;rintro e w1 ⟨rfl,hb1⟩;have d1:=(hb1.cell (p:=⟨g,j*2,none⟩) (by simp;omega)).trans c1))
      all_goals
       have hb1':Below wr.heap.size wr w1:=⟨hb1.os,hb1.tape,hb1.output,hb1.size,hb1.block⟩
       have e2:=(hb1'.cell (p:=⟨g,j*2+1,none⟩) hwlt).trans c2
       have hw1:=Nat.lt_of_lt_of_le hwlt hb1'.size
       have HG1:Hid _:=HG.out.trans (zbw hb1' none)
       clear hb1
       go_wp2_with fail
       go_region_held3 (fun w'=>w'.cell? ⟨g,j*2+1,none⟩=some (.string ⟨t2.toArray⟩))
        (first | assumption | go_keep)
        ((go_at_call 69;refine (K2 _).mono ?_;rintro e w2 ⟨rfl,hb2⟩;have d2:=(hb2.cell (p:=⟨g,j*2+1,none⟩) (by simp;omega)).trans e2))
       all_goals
        have hb2':Below w1.heap.size w1 w2:=⟨hb2.os,hb2.tape,hb2.output,hb2.size,hb2.block⟩
        have HG2:Hid _:=HG1.out.trans (zbw hb2' none)
        clear hb2
        go_wp2
        go_roundw
        case rel=>exact⟨j+1,by omega,by go_num,by have:=HQ.out;congr 1;omega,HG2.out⟩
        case measure=>simp[intOf];omega
    · have hjl:j=n:=by omega
      subst hjl
      go_wp2
      go_ret
      exact⟨by congr 2,hgr⟩
theorem za08 (L : Nat) (hL : L ≤ 1048576) (a : Option Addr) (cap : Nat) (ps : List za) (w : World) (hl : ps.length ≤ 9223372036854775807) (hm : ∀ p ∈ ps, p.1.length ≤ 9223372036854775807 ∧ p.2.length ≤ 9223372036854775807) (hs : IsPairs w a ps) :
 Calls Tryz.prog 15 #[.slice a ps.length cap,.int .i64 (L:Int)] w fun e w'=>(e=.returned (.int .i64 (-1))∨(ps.length+zc3 ps≤L∧∃ n:Nat,n≤L∧e=.returned (.int .i64 (n:Int))))∧Below w.heap.size w w':=by
 by_cases hb:ps.length≤L
 · rcases hs with rfl | ⟨b, off, rfl, hc⟩
   · go_enter Tryz.func15,Tryz.ntmps15
     go_wp2
     refine wp_loop_rounds 1 ?_
     rw[rounds_succ]
     go_wp2
     go_ret
     exact⟨.inr ⟨by simp[zc3],L,Nat.le_refl _,rfl⟩,Below.refl _ _⟩
   · have hm' : ∀ j (h : j < ps.length), ps[j].1.length ≤ 9223372036854775807 ∧ ps[j].2.length ≤ 9223372036854775807 := fun j h => hm _ (List.getElem_mem _)
     clear hm
     go_enter Tryz.func15,Tryz.ntmps15
     go_wp2
     go_loopw [1,5] (fun v i wr=>∃ j q:Nat,j≤ps.length∧i=.int .i64 (j:Int)∧v=.int .i64 (q:Int)∧q+ps.length+zc3 (ps.take j)=L∧Below w.heap.size w wr) (fun _ i _=>ps.length - (intOf i).toNat)
     case atStart=>exact⟨0,L - ps.length,Nat.zero_le _,rfl,by simp;omega,by simp[zc3];omega,Below.refl _ _⟩
     case round =>
      obtain⟨j,q,hj,rfl,rfl,hq,hbel⟩:=hrel
      have hsz:=hbel.size
      by_cases hlt:j<ps.length
      · have c1:=(hbel.cell (p:=⟨b,off+j*2,none⟩) (World.block_lt_of_cell? w _ (hc j hlt).1)).trans (hc j hlt).1
        have c2:=(hbel.cell (p:=⟨b,off+j*2+1,none⟩) (World.block_lt_of_cell? w _ (hc j hlt).2)).trans (hc j hlt).2
        have m1:=hm' j hlt
        have HS:Hid _:=zq3 ps j hlt
        have hj0:(0:Int)≤(j:Int):=by omega
        have hj1:(j:Int)<(ps.length:Int):=by omega
        have hqs:q≤1048576:=by omega
        have HQ:Hid _:=hq
        obtain⟨x,hx⟩:∃ x,x=ps[j].1:=⟨_,rfl⟩
        obtain⟨y,hy⟩:∃ y,y=ps[j].2:=⟨_,rfl⟩
        rw[←hx] at c1 m1 HS
        rw[←hy] at c2 m1 HS
        have K:=fun W=>za01 x y q W hqs m1.1 m1.2
        clear hc hm' hx hy hq m1
        go_wp2_with fail
        refine (K _).mono ?_
        rintro e w1 ⟨he,b1⟩
        have B1:=hbel.trans (b1.mono hsz)
        clear K b1 hbel
        rcases he with ⟨hn,rfl⟩ | ⟨hn,rfl⟩
        · go_wp2
          go_ret
          exact⟨.inl rfl,B1⟩
        · go_wp2
          go_roundw
          case rel=>exact⟨j+1,_,by omega,by go_num,rfl,by have:=HS.out;have:=HQ.out;omega,B1⟩
          case measure=>simp[intOf];omega
      · have hjl:j=ps.length:=by omega
        subst hjl
        have HQ:Hid (ps.length+zc3 ps≤L):=by rw[Hid];rw[List.take_length] at hq;omega
        have HQL:Hid (q≤L):=by rw[Hid];omega
        clear hq
        go_wp2
        go_ret
        exact⟨.inr ⟨HQ.out,q,HQL.out,rfl⟩,hbel⟩
 · have hb':¬ (ps.length:Int)≤L:=by omega
   clear hs hm
   go_enter Tryz.func15,Tryz.ntmps15
   go_wp2
   go_ret
   exact⟨.inl rfl,Below.refl _ _⟩
def zm (ps:List za) (h:List UInt8):Option (List UInt8):=(ps.find? (fun p=>p.1 == h)).map (·.2)
theorem za09 (ps:List za) (h:List UInt8) (j:Nat) (hj:j<ps.length) (hk:keyAt ps j=h) (ho:∀ q,q<j→keyAt ps q≠h):zm ps h=some (zw ps j):=by
 have:ps.find? (fun p=>p.1 == h)=some ps[j]:=by
  rw[List.find?_eq_some_iff_getElem]
  refine⟨by rw[zad ps j hj] at hk;simp[hk],j,hj,rfl,fun q hq=>?_⟩
  have:=ho q hq
  rw[zad ps q (by omega)] at this
  simp[this]
 rw[zm,this,zbo ps j hj]
 rfl
theorem zq7 (ps:List za) (h:List UInt8) (ho:∀ q,q<ps.length→keyAt ps q≠h):zm ps h=none:=by
 have:ps.find? (fun p=>p.1 == h)=none:=by
  rw[List.find?_eq_none]
  intro p hp
  obtain⟨q,hq,rfl⟩:=List.getElem_of_mem hp
  have:=ho q hq
  rw[zad ps q hq] at this
  simp[this]
 rw[zm,this]
 rfl
theorem zkr (a : Option Addr) (cap : Nat) (ps : List za) (h : List UInt8) (w : World) (hl : ps.length ≤ 1048576) (hs : IsPairs w a ps) :
 Calls Tryz.prog 94 #[.slice a ps.length cap,.string ⟨h.toArray⟩] w fun e w'=>e=.returned (.tuple #[.string ⟨((zm ps h).getD []).toArray⟩,.bool (zm ps h).isSome])∧Below w.heap.size w w':=by
 rcases hs with rfl | ⟨b,off,rfl,hc⟩
 · go_enter Tryz.func94,Tryz.ntmps94
   go_wp2
   refine wp_loop_rounds 1 ?_
   rw[rounds_succ]
   go_wp2
   go_ret2
   exact⟨rfl,Below.refl _ _⟩
 · have hc' : ∀ j, j < ps.length → w.cell? ⟨b, off + j * 2, none⟩ = some (.string ⟨(keyAt ps j).toArray⟩) ∧ w.cell? ⟨b, off + j * 2 + 1, none⟩ = some (.string ⟨(zw ps j).toArray⟩) := fun j h => by rw [zad ps j h, zbo ps j h]; exact hc j h
   obtain⟨r,hr⟩:∃ r,r=zm ps h:=⟨_,rfl⟩
   have HHIT:Hid (∀ j,j<ps.length→keyAt ps j=h→(∀ q,q<j→keyAt ps q≠h)→r=some (zw ps j)):=fun j hj hk ho=>by rw[hr];exact za09 ps h j hj hk ho
   have HNO:Hid ((∀ q,q<ps.length→keyAt ps q≠h)→r=none):=fun ho=>by rw[hr];exact zq7 ps h ho
   rw[←hr]
   clear hc hr
   go_enter Tryz.func94,Tryz.ntmps94
   go_wp2
   go_loopw [6] (fun i wr=>∃ j:Nat,j≤ps.length∧i=.int .i64 (j:Int)∧Hid (∀ q,q<j→keyAt ps q≠h)∧Below w.heap.size w wr) (fun i _=>ps.length - (intOf i).toNat)
   case atStart=>exact⟨0,Nat.zero_le _,rfl,fun k hk=>by omega,Below.refl _ _⟩
   case round =>
    obtain⟨j,hj,rfl,HA,hbel⟩:=hrel
    have hsz:=hbel.size
    by_cases hlt:j<ps.length
    · obtain⟨c1',c2'⟩:=hc' j hlt
      have c1:=(hbel.cell (p:=⟨b,off+j*2,none⟩) (World.block_lt_of_cell? w _ c1')).trans c1'
      have c2:=(hbel.cell (p:=⟨b,off+j*2+1,none⟩) (World.block_lt_of_cell? w _ c2')).trans c2'
      clear c1' c2'
      have hj0:(0:Int)≤(j:Int):=by omega
      have hj1:(j:Int)<(ps.length:Int):=by omega
      have HB:Hid (keyAt ps j=h→r=some (zw ps j)):=fun e=>HHIT.out j hlt e HA.out
      have HN:Hid (keyAt ps j≠h→∀ k,k<j+1→keyAt ps k≠h):=fun e k hk=>by
       by_cases ek:k=j
       · rw[ek];exact e
       · exact HA.out k (by omega)
      obtain⟨x,hx⟩:∃ x,x=keyAt ps j:=⟨_,rfl⟩
      obtain⟨y,hy⟩:∃ y,y=zw ps j:=⟨_,rfl⟩
      rw[←hx] at c1 HB HN
      rw[←hy] at c2 HB
      clear hc' hx hy HA HHIT HNO
      by_cases he:x=h
      · subst he
        have HR:Hid _:=HB.out rfl
        clear HB HN
        go_wp2
        go_ret2
        obtain rfl:=HR.out
        exact⟨rfl,by first | exact hbel | exact zx hbel⟩
      · have heb:(x == h)=false:=by rw[beq_eq_false_iff_ne];exact he
        go_wp2
        go_roundw
        case rel=>exact⟨j+1,by omega,by go_num,HN.out he,by first | exact hbel | exact zx hbel⟩
        case measure=>simp[intOf];omega
    · have hjl:j=ps.length:=by omega
      subst hjl
      have HR:Hid _:=HNO.out HA.out
      clear hc'
      go_wp2
      go_ret2
      obtain rfl:=HR.out
      exact⟨rfl,hbel⟩
end Go.Proofs.YtppljdnbhoeeoaaGreatDoor
