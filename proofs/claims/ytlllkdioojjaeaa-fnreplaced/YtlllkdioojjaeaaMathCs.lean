/-
 Texts that are laid as one: MathRp, MathCr, KeepI.
-/
import Derived.Test.YtlllkdioojjaeaaNewPs
namespace Go.Proofs.Ytlllkdioojjaeaa
open Go.RowKit
set_option linter.unusedVariables false
abbrev DskL:=List PairL × List PairL × List DOpL × Int
def dotNew:List UInt8:=[46,110,101,119]
def stepD (r:DskL) (o:DOpL):DskL:=if r.2.2.2=0 then actL r.1 r.2.1 r.2.2.1 o else r
def repOps (fr:Bool) (nm da:List UInt8):List DOpL:=(if fr=true then [⟨3,nm ++ dotNew,[],[]⟩] else []) ++ [⟨1,nm ++ dotNew,[],da⟩,⟨2,nm ++ dotNew,nm,[]⟩]
def repEnd (live safe:List PairL) (ops:List DOpL) (r:DskL):DskL:=if r.2.2.2=0 then r else (live,safe,ops,r.2.2.2)
def repL (live safe:List PairL) (ops:List DOpL) (nm da:List UInt8):DskL :=
 if diskOk live safe ops=true then repEnd live safe ops ((repOps (decide (0≤atF live (nm ++ dotNew))) nm da).foldl stepD (live,safe,ops,0)) else ([],[],[],1)
theorem act_code (live safe:List PairL) (ops:List DOpL) (o:DOpL):(actL live safe ops o).2.2.2≠1:=by
 unfold actL
 repeat' split
 all_goals simp
theorem act_stays {live safe:List PairL} {ops:List DOpL} {o:DOpL} (h:(actL live safe ops o).2.2.2≠0):actL live safe ops o=(live,safe,ops,(actL live safe ops o).2.2.2):=by
 revert h
 unfold actL
 repeat' split
 all_goals simp
theorem act_ok {live safe:List PairL} {ops:List DOpL} {o:DOpL} (hd:diskOk live safe ops=true) (h:(actL live safe ops o).2.2.2=0):diskOk (actL live safe ops o).1 (actL live safe ops o).2.1 (actL live safe ops o).2.2.1=true:=by
 revert h
 unfold actL
 split
 · simp
 · split
   · simp
   · split
     · simp
     · rename_i h1 h2 h3
       intro _
       simp only[not_or] at h3
       obtain⟨h3,h4⟩:=h3
       have g1:formOk o=true:=by cases h:formOk o with | true=>rfl | false=>exact absurd h h1
       have g2:(doF live o).2=true:=by cases h:(doF live o).2 with | true=>rfl | false=>exact absurd h h2
       have g4:filesOk (doF live o).1=true:=by cases h:filesOk (doF live o).1 with | true=>rfl | false=>exact absurd h h4
       simp only[diskOk,Bool.and_eq_true,decide_eq_true_eq] at hd ⊢
       obtain⟨d1,d2,d3,d4⟩:=hd
       refine⟨g4,d2,by simp only[List.length_append,List.length_cons,List.length_nil];omega,?_⟩
       rw[runF_snoc,d4]
       simp[opGoes,g1,g2,g4]
theorem fold_stay (os:List DOpL) (r:DskL) (h:r.2.2.2≠0):os.foldl stepD r=r:=by
 induction os with
 | nil=>rfl
 | cons o os ih=>rw[List.foldl_cons,stepD,if_neg h];exact ih
theorem fold_ok (os:List DOpL):∀ (r:DskL),diskOk r.1 r.2.1 r.2.2.1=true→(os.foldl stepD r).2.2.2=0→diskOk (os.foldl stepD r).1 (os.foldl stepD r).2.1 (os.foldl stepD r).2.2.1=true:=by
 induction os with
 | nil=>intro r h _;exact h
 | cons o os ih =>
   intro r h h0
   rw[List.foldl_cons] at h0 ⊢
   by_cases hz:(stepD r o).2.2.2=0
   · refine ih _ ?_ h0
     revert hz
     unfold stepD
     split
     · intro hz;exact act_ok h hz
     · rename_i hn;intro hz;exact absurd hz hn
   · rw[fold_stay os _ hz] at h0;exact absurd h0 hz
theorem fold_more {os:List DOpL} {r:DskL} {j:Nat} (hj:j<os.length):(os.take (j+1)).foldl stepD r=stepD ((os.take j).foldl stepD r) os[j]:=by
 rw[List.take_succ_eq_append_getElem hj,List.foldl_append];rfl
theorem fold_stops {os:List DOpL} {r:DskL} {j:Nat} (hj:j≤os.length) (h:((os.take j).foldl stepD r).2.2.2≠0):os.foldl stepD r=(os.take j).foldl stepD r:=by
 conv=>lhs;rw[←List.take_append_drop j os]
 rw[List.foldl_append,fold_stay _ _ h]
def tornO (tn:Int) (o:DOpL):DOpL:=if o.k=1∧tn<(o.d.length:Int) then ⟨o.k,o.n,o.t,o.d.take tn.toNat⟩ else o
def opAt (ops:List DOpL) (p:Int):DOpL:=(ops[p.toNat]?).getD ⟨0,[],[],[]⟩
def plAt (keep:List Int) (i:Nat):Int:=(keep[i]?).getD 0
def keptOp (ops:List DOpL) (keep:List Int) (tn:Int) (i:Nat):DOpL:=if i+1=keep.length then tornO tn (opAt ops (plAt keep i)) else opAt ops (plAt keep i)
def keptTo (ops:List DOpL) (keep:List Int) (tn:Int) (safe:List PairL):Nat→List PairL
 | 0=>safe
 | i+1=>(doF (keptTo ops keep tn safe i) (keptOp ops keep tn i)).1
def placeOk (n:Nat) (keep:List Int) (i:Nat):Bool:=decide (0≤plAt keep i∧plAt keep i≤(n:Int) - 1) && (decide (i=0) || decide (plAt keep (i - 1)<plAt keep i))
def placesOk (n:Nat) (keep:List Int):Bool:=(List.range keep.length).all (placeOk n keep)
def crashB (live safe:List PairL) (ops:List DOpL) (keep:List Int) (tn:Int):Bool:=diskOk live safe ops && (decide (0≤tn) && (placesOk ops.length keep && filesOk (keptTo ops keep tn safe keep.length)))
def crashL (live safe:List PairL) (ops:List DOpL) (keep:List Int) (tn:Int):List PairL:=if crashB live safe ops keep tn=true then keptTo ops keep tn safe keep.length else []
theorem places_bad {n:Nat} {keep:List Int} {i:Nat} (hi:i<keep.length) (h:placeOk n keep i=false):placesOk n keep=false:=by
 unfold placesOk
 rw[List.all_eq_false]
 exact⟨i,by simp[hi],by rw[h];simp⟩
theorem places_end {n:Nat} {keep:List Int} (h:∀ i,i<keep.length→placeOk n keep i=true):placesOk n keep=true:=by
 unfold placesOk
 rw[List.all_eq_true]
 intro i hi
 exact h i (by simpa using hi)
theorem places_at {n:Nat} {keep:List Int} (h:placesOk n keep=true) (i:Nat) (hi:i<keep.length):placeOk n keep i=true:=by
 unfold placesOk at h
 rw[List.all_eq_true] at h
 exact h i (by simpa using hi)
def dsum (ops:List DOpL) (p:Nat):Nat:=((ops.take p).map fun o=>o.d.length).sum
theorem dsum_next {ops:List DOpL} {p:Nat} (h:p<ops.length):dsum ops (p+1)=dsum ops p+ops[p].d.length:=by
 unfold dsum
 rw[List.take_succ_eq_append_getElem h,List.map_append,List.sum_append,List.map_cons,List.map_nil,List.sum_cons,List.sum_nil,Nat.add_zero]
theorem dsum_mono (ops:List DOpL) {p q:Nat} (h:p≤q):dsum ops p≤dsum ops q:=by
 induction q with
 | zero => have : p = 0 := by omega
           rw[this];exact Nat.le_refl _
 | succ q ih =>
   by_cases hq:p≤q
   · refine Nat.le_trans (ih hq) ?_
     by_cases hl:q<ops.length
     · rw[dsum_next hl];omega
     · unfold dsum;rw[List.take_of_length_le (by omega),List.take_of_length_le (by omega)];exact Nat.le_refl _
   · have:p=q+1:=by omega
     rw[this];exact Nat.le_refl _
theorem dsum_le (ops:List DOpL) (p:Nat):dsum ops p≤sizeD ops:=by
 have h1:dsum ops p≤dsum ops (max p ops.length):=dsum_mono ops (Nat.le_max_left _ _)
 refine Nat.le_trans h1 ?_
 unfold dsum sizeD
 rw[List.take_of_length_le (Nat.le_max_right _ _)]
 clear h1
 induction ops with
 | nil=>simp
 | cons o os ih=>simp only[List.map_cons,List.sum_cons,opN];omega
theorem run_forms:∀ (ops:List DOpL) (fs gs:List PairL),runF fs ops=some gs→∀ o∈ops,formOk o=true
 | [],_,_,_,o,ho=>by cases ho
 | p :: ops, fs, gs, h, o, ho => by
   unfold runF at h
   split at h
   · rename_i hg
     rcases List.mem_cons.1 ho with rfl | ho
     · unfold opGoes at hg
       simp only[Bool.and_eq_true] at hg
       exact hg.2.1
     · exact run_forms ops _ gs h o ho
   · cases h
theorem torn_form {tn:Int} {o:DOpL} (h:formOk o=true):formOk (tornO tn o)=true∧(tornO tn o).d.length≤o.d.length∧(tornO tn o).n=o.n∧(tornO tn o).t=o.t∧(tornO tn o).k=o.k:=by
 unfold tornO
 split
 · rename_i hc
   refine⟨?_,by simp;omega,rfl,rfl,rfl⟩
   simp only[formOk,hc.1] at h ⊢
   simpa using h
 · exact⟨h,Nat.le_refl _,rfl,rfl,rfl⟩
theorem opAt_eq {ops:List DOpL} {p:Int} (h0:0≤p) (h:p<(ops.length:Int)):∃ hl:p.toNat<ops.length,opAt ops p=ops[p.toNat]:=by
 have hl:p.toNat<ops.length:=by omega
 exact⟨hl,by simp[opAt,List.getElem?_eq_getElem hl]⟩
theorem kept_inv {live safe:List PairL} {ops:List DOpL} {keep:List Int} {tn:Int} (hd:diskOk live safe ops=true) (hp:placesOk ops.length keep=true) :
 ∀ j,j≤keep.length→Rise (keptTo ops keep tn safe j)∧(∀ p∈keptTo ops keep tn safe j,nameOk p.1=true)∧(keptTo ops keep tn safe j).length≤60+j∧j≤200∧∃ nx:Nat,j≤nx∧nx≤ops.length∧(j=0→nx=0)∧(0<j→(nx:Int)=plAt keep (j - 1)+1)∧∀ p∈keptTo ops keep tn safe j,p.1.length≤100∧p.2.length≤200000+dsum ops nx:=by
 simp only[diskOk,Bool.and_eq_true,decide_eq_true_eq] at hd
 obtain⟨_,hs,hl,hr⟩:=hd
 have hfs:=run_forms ops safe live hr
 have hri:=rise_files hs
 have hsm:=files_small hs
 intro j
 induction j with
 | zero =>
   intro _
   refine⟨hri.1,hri.2.1,by have:=hri.2.2.1;simp only[keptTo];omega,by omega,0,Nat.le_refl _,by omega,fun _=>rfl,fun h=>by omega,fun p hp=>?_⟩
   have:=hsm p hp
   exact⟨this.1,by omega⟩
 | succ j ih =>
   intro hj
   obtain⟨h1,h2,h3,h4,nx,h5,h6,h70,h7,h8⟩:=ih (by omega)
   have hpl:=places_at hp j (by omega)
   simp only[placeOk,Bool.and_eq_true,Bool.or_eq_true,decide_eq_true_eq] at hpl
   obtain⟨⟨q1,q2⟩,q3⟩:=hpl
   obtain⟨hlt,heq⟩:=opAt_eq (ops:=ops) (p:=plAt keep j) q1 (by omega)
   have hfo:=hfs _ (List.getElem_mem hlt)
   have hk:formOk (keptOp ops keep tn j)=true∧(keptOp ops keep tn j).d.length≤(ops[(plAt keep j).toNat]).d.length:=by
    unfold keptOp
    rw[heq]
    split
    · exact⟨(torn_form hfo).1,(torn_form hfo).2.1⟩
    · exact⟨hfo,Nat.le_refl _⟩
   have hnm:=hk.1
   simp only[formOk,nameOk,Bool.and_eq_true,decide_eq_true_eq] at hnm
   have hn1:(keptOp ops keep tn j).n.length≤100:=hnm.2.1.2
   have ht1:(keptOp ops keep tn j).t.length≤100:=by
    have:=hnm.2.2
    split at this
    · simp only[Bool.and_eq_true,decide_eq_true_eq] at this;omega
    · simp only[Bool.and_eq_true,List.isEmpty_iff] at this;rw[this.1];simp
   have hnx:nx≤(plAt keep j).toNat:=by
    by_cases h0:0<j
    · have:=h7 h0
      rcases q3 with h | h
      · omega
      · omega
    · have:=h70 (by omega)
      omega
   have hlen:=do_len h1 (keptOp ops keep tn j)
   refine⟨rise_do h1 _,names_do h1 _ hk.1 h2,by simp only[keptTo];omega,by omega,(plAt keep j).toNat+1,by omega,by omega,fun h=>by omega,fun _=>by simp only[Nat.add_sub_cancel];omega,fun p hp=>?_⟩
   have:=do_small h1 (keptOp ops keep tn j) (A:=100) (M:=200000+dsum ops nx) h8 hn1 ht1 p hp
   have hd1:=dsum_next hlt
   have hd2:=dsum_mono ops hnx
   exact⟨this.1,by omega⟩
def zcells (ks:List Int):List Value:=ks.map fun k=>.int .i64 k
theorem zcells_length (ks:List Int):(zcells ks).length=ks.length:=by simp[zcells]
theorem zcells_at (ks:List Int) (j:Nat) (h:j<ks.length):(zcells ks)[j]? = some (.int .i64 (plAt ks j)):=by
 simp[zcells,plAt,h]
def IsInts (w:World) (a:Option Addr) (ks:List Int):Prop:=ks=[]∨∃ b off,a=some ⟨b,off,none⟩∧∀ j,j<ks.length→w.cell? ⟨b,off+j,none⟩=some (.int .i64 (plAt ks j))
theorem cell_ltK {w:World} {b off:Nat} {v:Value} (h:w.cell? ⟨b,off,none⟩=some v):b<w.heap.size:=by
 unfold World.cell? at h
 simp only at h
 cases hh:w.heap[b]? with
 | none=>rw[hh] at h;cases h
 | some o=>exact (Array.getElem?_eq_some_iff.1 hh).1
theorem IsInts.later {w w':World} {a:Option Addr} {ks:List Int} (h:IsInts w a ks) (hb:Below w.heap.size w w'):IsInts w' a ks:=by
 rcases h with h | ⟨b,off,h1,h2⟩
 · exact .inl h
 · exact .inr ⟨b,off,h1,fun j hj=>(hb.cell (p:=⟨b,off+j,none⟩) (cell_ltK (h2 j hj))).trans (h2 j hj)⟩
theorem IsInts.at {w:World} {a:Option Addr} {ks:List Int} (h:IsInts w a ks) {j:Nat} (hj:j<ks.length):∃ b off,a=some ⟨b,off,none⟩∧∀ i,i<ks.length→w.cell? ⟨b,off+i,none⟩=some (.int .i64 (plAt ks i)):=by
 rcases h with h | h
 · rw[h] at hj;cases hj
 · exact h
set_option maxRecDepth 100000 in
theorem spec_inG (n lo hi:Int) (w:World) :
 Calls Try.prog 62 #[.int .i64 n,.int .i64 lo,.int .i64 hi] w fun e w'=>e=.returned (.bool (decide (lo≤n∧n≤hi)))∧w'=w:=by
 by_cases h1:lo≤n
 · by_cases h2:n≤hi
   · have HR:Hid (decide (lo≤n∧n≤hi)=true):=decide_eq_true ⟨h1,h2⟩
     rw[HR.out]
     go_enter Try.func62,Try.ntmps62
     go_wp2
     go_ret
     exact⟨rfl,rfl⟩
   · have HR:Hid (decide (lo≤n∧n≤hi)=false):=decide_eq_false (fun h=>h2 h.2)
     rw[HR.out]
     go_enter Try.func62,Try.ntmps62
     go_wp2
     go_ret
     exact⟨rfl,rfl⟩
 · have HR:Hid (decide (lo≤n∧n≤hi)=false):=decide_eq_false (fun h=>h1 h.1)
   rw[HR.out]
   go_enter Try.func62,Try.ntmps62
   go_wp2
   go_ret
   exact⟨rfl,rfl⟩
end Go.Proofs.Ytlllkdioojjaeaa
