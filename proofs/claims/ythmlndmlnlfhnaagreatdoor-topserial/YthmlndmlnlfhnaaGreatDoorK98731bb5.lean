import Derived.Stop.LaidErr
import Derived.Lib.LaidTab
import Derived.Test.YthmlndmlnlfhnaaGreatDoorKa6b169bf
import Derived.Test.YthmlndmlnlfhnaaGreatDoorKbf921daf
import Derived.Test.YthmlndmlnlfhnaaGreatDoorKc04492b9
import Derived.Test.YthmlndmlnlfhnaaGreatDoorK50dad543
set_option maxRecDepth 100000
set_option maxHeartbeats 16000000
namespace Go.Proofs.YthmlndmlnlfhnaaGreatDoor
open Go.Lib (hid)
def runV (σ:StoreD) (l:List ActD):StoreD:=l.foldl (fun σ a=>(doV σ a).1) σ
theorem ymp (σ:StoreD) (l:List ActD) (a:ActD):runV σ (l ++ [a])=(doV (runV σ l) a).1:=by simp [runV]
theorem jtj {l:List ActD}:∀ {σ:StoreD},Inv σ→Inv (runV σ l):=by
 induction l with
 | nil=>intro σ h;exact h
 | cons a l ih=>intro σ h;exact ih (h.do_ a)
theorem jtk {l:List ActD} {k:Nat} {a:ActD} (σ:StoreD) (h:l[k]? = some a):runV σ (l.take (k+1))=(doV (runV σ (l.take k)) a).1:=by rw [jai h,ymp]
theorem yde {σ:StoreD} (x:SessD):(jer σ x).1.acts = σ.acts∧(jer σ x).1.sess = σ.sess:=by
 rcases jnh (σ:=σ) x with e | ⟨b,e⟩ <;> rw [e] <;> exact ⟨rfl,rfl⟩
theorem yq6 {σ:StoreD} (h:σ.acts<200) (a:ActD):(doV σ a).1.acts = σ.acts+1:=by
 unfold doV;rw [if_neg (by omega)];split
 ·unfold jmt;split
  ·rfl
  ·split <;> rfl
 ·split
  ·split
   ·unfold ja8;simp only
    repeat' split
    ·rfl
    ·rfl
    ·rfl
    ·rfl
    ·exact (yde _).1
    ·rfl
   ·rfl
  ·rfl
theorem ypr {l:List ActD}:∀ {σ:StoreD},σ.acts+l.length≤200→(runV σ l).acts = σ.acts+l.length:=by
 induction l with
 | nil=>intro σ _;rfl
 | cons a l ih =>
  intro σ h;simp only [List.length_cons] at h ⊢
  show (runV (doV σ a).1 l).acts=_
  have e:=yq6 (σ:=σ) (by omega) a;rw [ih (by omega),e];omega
theorem yl5 {l:List ActD} (h:l.length≤50):(runV newV l).acts=l.length:=by
 have:=ypr (σ:=newV) (l:=l) (by show 0+l.length≤200;omega)
 rw [this];show 0+l.length=_;omega
def ji6 (σ τ:StoreD):Prop:=σ.later = τ.later ∧ σ.sess = τ.sess
theorem ji6.tick (σ:StoreD):ji6 (jbj σ) σ:=⟨rfl,rfl⟩
theorem ypt {σ:StoreD} (n:Nat) (hl:n < σ.sess.length):σ.sess.set n (σ.sessN n) = σ.sess:=by
 apply List.ext_getElem?;intro m;by_cases e:n=m
 ·subst e;rw [List.getElem?_set_self hl];unfold StoreD.sessN;rw [List.getElem?_eq_getElem hl];rfl
 ·rw [List.getElem?_set_ne e]
def jz2 (n:Int):ActD:=⟨7,n,noS,noS,[]⟩
def jsy:ActD:=⟨1,0,noS,noS,[]⟩
theorem yel {σ:StoreD} (hi:Inv σ) (hact:σ.acts<200) (a:ActD) (hc:(doV σ a).2.code≠0) (h4:a.kind≠4) (h5:a.kind≠5) :
  (a.kind=6∧jcp σ a.n=true∧(doV σ a).1=(doV σ (jz2 a.n)).1∧(doV σ (jz2 a.n)).2=jb8 0∧(doV σ a).2.n=0) ∨
  (¬ (a.kind=6∧jcp σ a.n=true)∧(doV σ a).2=jb8 (doV σ a).2.code∧ji6 (doV σ a).1 σ):=by
 have hfull:¬ 200 ≤ σ.acts:=by omega
 by_cases hk1:a.kind=1
 ·refine .inr ⟨by omega,?_⟩;have e:doV σ a=jmt (jbj σ) a.n:=by unfold doV;rw [if_neg hfull,if_pos hk1]
  rw [e] at hc ⊢;unfold jmt at hc ⊢;split at hc
  ·rename_i h;rw [if_pos h];exact ⟨rfl,ji6.tick σ⟩
  ·rename_i h
   rw [if_neg h];split at hc
   ·exact ⟨rfl,ji6.tick σ⟩
   ·exact absurd rfl hc
 ·by_cases hk:2≤a.kind∧a.kind≤7
  ·cases hop:jcp σ a.n
   ·refine .inr ⟨by simp,?_⟩;have e:doV σ a=(jbj σ,jb8 3):=by unfold doV;rw [if_neg hfull,if_neg hk1,if_pos hk,hop];rfl
    rw [e];exact ⟨rfl,ji6.tick σ⟩
   ·obtain ⟨h0,hn4,ho⟩:=jd9.1 hop;have hn:a.n.toNat < σ.sess.length:=by rw [hi.four];omega
    have e:doV σ a=ja8 (jbj σ) a.n.toNat a:=by unfold doV;rw [if_neg hfull,if_neg hk1,if_pos hk,hop];rfl
    have e7:doV σ (jz2 a.n)=(jaq (jbj σ) a.n.toNat jjn,jb8 0):=by
     unfold doV jz2;rw [if_neg hfull];simp only [hop,if_true];unfold ja8;simp
    have hsame:jaq (jbj σ) a.n.toNat ((jbj σ).sessN a.n.toNat)=jbj σ:=by
     show (⟨σ.later,σ.sess.set a.n.toNat (σ.sessN a.n.toNat),σ.acts+1⟩:StoreD)=_
     rw [ypt _ hn];rfl
    rw [e] at hc ⊢;unfold ja8 at hc ⊢;simp only at hc ⊢;by_cases k2:a.kind=2
    ·rw [if_pos k2] at hc ⊢;refine .inr ⟨by omega,?_⟩;simp only at hc ⊢;unfold putV at hc ⊢;simp only at hc ⊢;split at hc
     ·rename_i hp
      rw [if_pos hp];exact ⟨rfl,by rw [hsame];exact ji6.tick σ⟩
     ·split at hc <;> exact absurd rfl hc
    ·rw [if_neg k2] at hc ⊢;by_cases k3:a.kind=3
     ·rw [if_pos k3] at hc ⊢;refine .inr ⟨by omega,?_⟩;simp only at hc ⊢;unfold jky at hc ⊢;split at hc
      ·rename_i hp
       rw [if_pos hp];exact ⟨rfl,by rw [hsame];exact ji6.tick σ⟩
      ·exact absurd rfl hc
     ·rw [if_neg k3,if_neg h4,if_neg h5] at hc ⊢;by_cases k6:a.kind=6
      ·rw [if_pos k6] at hc ⊢;refine .inl ⟨k6,trivial,?_,by rw [e7],?_⟩
       ·rw [e7];rcases jnh (σ:=jaq (jbj σ) a.n.toNat jjn) ((jbj σ).sessN a.n.toNat) with e | ⟨b,e⟩
        ·exact e
        ·exfalso;unfold jer at e hc;split at e
         ·simp at e;have:=congrArg StoreD.later e;simp at this
         ·rename_i hcf
          rw [hcf] at hc;simp only at hc;split at hc
          ·exact hc rfl
          ·rename_i g1
           rw [if_neg g1] at e;split at hc
           ·rename_i g2;rw [if_pos g2] at e;have:=congrArg StoreD.later e;simp at this
           ·rename_i g2
            rw [if_neg g2] at e;simp only at e hc;split at hc
            ·rename_i g3;rw [if_pos g3] at e;have:=congrArg StoreD.later e;simp at this
            ·exact hc rfl
       ·unfold jer at hc ⊢;split at hc
        ·rfl
        ·split at hc
         ·exact absurd rfl hc
         ·rename_i g1
          rw [if_neg g1];split at hc
          ·rename_i g2;rw [if_pos g2];rfl
          ·rename_i g2
           rw [if_neg g2];simp only at hc ⊢;split at hc
           ·rename_i g3;rw [if_pos g3]
           ·exact absurd rfl hc
      ·rw [if_neg k6] at hc;exact absurd rfl hc
  ·refine .inr ⟨by omega,?_⟩;have e:doV σ a=(jbj σ,jb8 10):=by unfold doV;rw [if_neg hfull,if_neg hk1,if_neg hk]
   rw [e];exact ⟨rfl,ji6.tick σ⟩
theorem jvc {b:BookD} {s:ByteArray} (h:s ∉ jdp b):jb2 b s = []:=by
 unfold jb2;have h1:jdj b.doms s=none:=by
  cases hf:jdj b.doms s with
  | none=>rfl
  | some d=>obtain ⟨hd,e⟩:=jgn hf;exact absurd (List.mem_append.2 (.inl (List.mem_map.2 ⟨d,hd,e⟩))) h
 have h2:jb3 b.tabs s=none:=by
  cases hf:jb3 b.tabs s with
  | none=>rfl
  | some d=>obtain ⟨hd,e⟩:=jd8 hf;exact absurd (List.mem_append.2 (.inr (List.mem_map.2 ⟨d,hd,e⟩))) h
 rw [h1,h2]
theorem yaj {a b:BookD} {s:ByteArray} (h:jb2 a s≠jb2 b s):s∈jjs a b:=by
 unfold jjs;refine List.mem_filter.2 ⟨?_,by simpa using h⟩;unfold jgw;rw [jk8];refine .inl ?_;simp only [List.flatMap_cons,List.flatMap_nil,List.append_nil,List.mem_append];by_cases ha:s∈jdp a
 ·exact .inl ha
 ·by_cases hb:s∈jdp b
  ·exact .inr hb
  ·exact absurd (by rw [jvc ha,jvc hb]) h
theorem yne {σ:StoreD} {x:SessD} (h:jh0 σ x=none) {s:ByteArray} (hd:jh1 x s=true):∀ k,x.frm+k ≤ σ.last→jb2 (σ.ver x.frm) s=jb2 (σ.ver (x.frm+k)) s:=by
 intro k;induction k with
 | zero=>intro _;rfl
 | succ k ih =>
  intro hk;rw [ih (by omega)];by_cases e:jb2 (σ.ver (x.frm+k)) s=jb2 (σ.ver (x.frm+(k+1))) s
  ·exact e
  ·exfalso;have hm:s∈jk1 σ x.frm:=by
    unfold jk1;rw [jk8];exact .inl (List.mem_flatMap.2 ⟨k,List.mem_range.2 (by omega),yaj e⟩)
   have:=List.find?_eq_none.1 h s hm
   rw [hd] at this;exact this rfl
theorem yam {σ:StoreD} {x:SessD} (h:(jer σ x).2.code=0):jh0 σ x=none:=by
 unfold jer at h;split at h
 ·cases h
 ·rename_i e;exact e
theorem yq2 {σ:StoreD} {hist:List (List EntD)} (hi:Inv σ) (hh:HInv σ hist) (hact:σ.acts<200) (a:ActD) (hk:a.kind=6) (hc:(doV σ a).2.code=0) (ho:jcp σ a.n=true) :
  jtt (σ.ver (jce σ a.n).frm) ((hist[a.n.toNat]?).getD [])∧((jce σ a.n).strict=true→jtt (σ.ver σ.last) ((hist[a.n.toNat]?).getD [])) ∧
  ∀ s∈(jce σ a.n).gone,jb2 (σ.ver (jce σ a.n).frm) s=jb2 (σ.ver σ.last) s:=by
 obtain ⟨h0,h4,ho'⟩:=jd9.1 ho;have ex:jce σ a.n = σ.sessN a.n.toNat:=by unfold jce;rw [ho];rfl
 rw [ex];have hg:=je5 hi (n:=a.n.toNat) (by omega);have ht:=hh.told _ _ hg ho';have hs:=hi.at a.n.toNat;have e:doV σ a=jer (jaq (jbj σ) a.n.toNat jjn) (σ.sessN a.n.toNat):=by
  unfold doV;rw [if_neg (by omega),if_neg (by omega),if_pos (by omega),ho];simp only [if_true];unfold ja8;simp only;rw [if_neg (by omega),if_neg (by omega),if_neg (by omega),if_neg (by omega),if_pos hk];rfl
 rw [e] at hc;have hcf:=yam hc;have hun:∀ s,jh1 (σ.sessN a.n.toNat) s=true→jb2 (σ.ver (σ.sessN a.n.toNat).frm) s=jb2 (σ.ver σ.last) s:=fun s hd=>by
  have:=yne hcf hd (σ.last-(σ.sessN a.n.toNat).frm) (by show _ ≤ σ.last;have:=hs.frm;omega)
  rw [show (σ.sessN a.n.toNat).frm+(σ.last-(σ.sessN a.n.toNat).frm) = σ.last from by have:=hs.frm;omega] at this;exact this
 refine ⟨ht.snap,fun hst=>?_,fun s hs'=>hun s ?_⟩
 ·refine ht.ser hst _ (jq4 hi _) fun s h=>?_;refine (ymt (jq4 hi _) (jq4 hi _) (hun s ?_)).symm;unfold jh1;rw [hst];rcases h with h | h
  ·simp [jej.2 h]
  ·simp [jej.2 h]
 ·unfold jh1;rw [jej.2 hs'];rfl
open Go.Lib (hid)
def yi7:ByteArray:=⟨#[100,111,109,97,105,110,32,97,32,49,46,46,57]⟩
def jzc:ActD:=⟨2,0,noS,yi7,[]⟩
def jk2:ActD:=⟨6,0,noS,noS,[]⟩
theorem ygg:(doV newV jsy).2=numR 0:=by rfl
theorem yi8:(doV (doV newV jsy).1 jzc).2.code=0:=by decide +kernel
theorem jz5:(doV (doV (doV newV jsy).1 jzc).1 jk2).2.code=0∧(doV (doV (doV newV jsy).1 jzc).1 jk2).2.n=1∧(doV (doV (doV newV jsy).1 jzc).1 jk2).1.later.length=1:=by decide +kernel
open Go.Lib (hid)
open Go.RowKit Go.Shelf
def Enc.act:Enc ActD where
 size:=5
 rd w S a cs:=∃ vi,cs = [.int .i64 a.kind,.int .i64 a.n,.string a.name,.string a.text,vi]∧Sl Enc.int w S a.inp vi
 len:=fun ⟨_,h,_⟩=>by subst h;rfl
 keep:=fun ⟨vi,h,h1⟩ hk=>⟨vi,h,h1.keep hk⟩
 more:=fun ⟨vi,h,h1⟩ hS=>⟨vi,h,h1.more hS⟩
 one:=fun ⟨vi,h,h1⟩ u hu=>by
  obtain ⟨A,c,rfl,_⟩:=h1;subst h;simp at hu;rcases hu with rfl | rfl | rfl | rfl | rfl <;> rfl
def Enc.rep:Enc ReplyD where
 size:=5
 rd w S r cs:=∃ va vt,cs = [.int .i64 r.code,.int .i64 r.n,.string r.text,va,vt]∧Sl Enc.ans w S r.answers va∧Sl Enc.int w S r.at_ vt
 len:=fun ⟨_,_,h,_⟩=>by subst h;rfl
 keep:=fun ⟨va,vt,h,h1,h2⟩ hk=>⟨va,vt,h,h1.keep hk,h2.keep hk⟩
 more:=fun ⟨va,vt,h,h1,h2⟩ hS=>⟨va,vt,h,h1.more hS,h2.more hS⟩
 one:=fun ⟨va,vt,h,h1,h2⟩ u hu=>by
  obtain ⟨A,c,rfl,_⟩:=h1;obtain ⟨B,d,rfl,_⟩:=h2;subst h;simp at hu;rcases hu with rfl | rfl | rfl | rfl | rfl <;> rfl
def jgy (w:World) (S:Nat→Prop) (a:ActD) (v:Value):Prop:=∃ vi,v = .agg #[.int .i64 a.kind,.int .i64 a.n,.string a.name,.string a.text,vi]∧Sl Enc.int w S a.inp vi
theorem Sl.act_at {w:World} {S:Nat→Prop} {l:List ActD} {A:Option Addr} {n c:Nat} (h:Sl Enc.act w S l (.slice A n c)) {k:Nat} (hk:k<l.length) :
  ∃ b o x vi,A=some ⟨b,o,none⟩∧S b∧Hid (l[k]? = some x)∧w.cell? ⟨b,o+k*5,none⟩=some (.int .i64 x.kind)∧w.cell? ⟨b,o+k*5+1,none⟩=some (.int .i64 x.n)∧w.cell? ⟨b,o+k*5+2,none⟩=some (.string x.name)∧w.cell? ⟨b,o+k*5+3,none⟩=some (.string x.text)∧w.cell? ⟨b,o+k*5+4,none⟩=some vi∧Sl Enc.int w S x.inp vi:=by
 obtain ⟨b,o,cs,rfl,hS,hr,hc⟩:=h.at hk;obtain ⟨vi,rfl,h4⟩:=hr;exact ⟨b,o,l[k],vi,rfl,hS,List.getElem?_eq_getElem hk,hc 0 _ rfl,hc 1 _ rfl,hc 2 _ rfl,hc 3 _ rfl,hc 4 _ rfl,h4⟩
theorem Sl.rep_at {w:World} {S:Nat→Prop} {l:List ReplyD} {A:Option Addr} {n c:Nat} (h:Sl Enc.rep w S l (.slice A n c)) {k:Nat} (hk:k<l.length) :
  ∃ b o x va vt,A=some ⟨b,o,none⟩∧S b∧Hid (l[k]? = some x)∧w.cell? ⟨b,o+k*5,none⟩=some (.int .i64 x.code)∧w.cell? ⟨b,o+k*5+1,none⟩=some (.int .i64 x.n)∧w.cell? ⟨b,o+k*5+2,none⟩=some (.string x.text)∧w.cell? ⟨b,o+k*5+3,none⟩=some va∧w.cell? ⟨b,o+k*5+4,none⟩=some vt∧Sl Enc.ans w S x.answers va∧Sl Enc.int w S x.at_ vt:=by
 obtain ⟨b,o,cs,rfl,hS,hr,hc⟩:=h.at hk;obtain ⟨va,vt,rfl,h4,h5⟩:=hr;exact ⟨b,o,l[k],va,vt,rfl,hS,List.getElem?_eq_getElem hk,hc 0 _ rfl,hc 1 _ rfl,hc 2 _ rfl,hc 3 _ rfl,hc 4 _ rfl,h4,h5⟩
def jkr:List Value:=[.bool false,.bool false,.int .i64 0,.slice none 0 0,.slice none 0 0,.slice none 0 0,.slice none 0 0]
abbrev new0:List Value:=[.slice none 0 0,.bool false,.bool false,.int .i64 0,.slice none 0 0,.slice none 0 0,.slice none 0 0,.slice none 0 0,.bool false,.bool false,.int .i64 0,.slice none 0 0,.slice none 0 0,.slice none 0 0,.slice none 0 0,.bool false,.bool false,.int .i64 0,.slice none 0 0,.slice none 0 0,.slice none 0 0,.slice none 0 0,.bool false,.bool false,.int .i64 0,.slice none 0 0,.slice none 0 0,.slice none 0 0,.slice none 0 0,.int .i64 0]
def c1 (g:Nat):Nat→Nat:=fun b=>if b=g then 1 else 0
theorem SessC.zero (w:World) (c:Nat→Nat) (n:Nat):SessC w c n jjn (.slice none 0 0) (.slice none 0 0) (.slice none 0 0) (.slice none 0 0) :=
 ⟨Sl.nil,Sl.nil,OwnT.nil,(fun b hb=>by cases hb),OwnT.nil,(fun b hb=>by cases hb)⟩
theorem StoreC.new (w:World) (e:Nat):StoreC (w.alloc (.cells new0.toArray e)) (c1 w.heap.size) w.heap.size newV new0 (.slice none 0 0) where
 cs:=Cs.new w new0 e
 len:=rfl
 col:=by simp [c1]
 lt:=fun b hb=>by
  unfold c1 at hb;split at hb
  ·rename_i h;subst h;simp
  ·exact absurd rfl hb
 row:=OwnS.nil
 rowC:=fun b hb=>by cases hb
 v0:=rfl
 sess:=fun n x hx=>by
  have hx':x=jjn:=by have:=List.mem_of_getElem? hx;simp [newV] at this;exact this
  have hn:n<4:=by have:=(List.getElem?_eq_some_iff.1 hx).1;exact this
  subst hx';refine ⟨_,_,_,_,SessC.zero _ _ _,fun j v hj=>?_⟩;have hj7:j<7:=by have:=(List.getElem?_eq_some_iff.1 hj).1;exact this
  have:n=0∨n=1∨n=2∨n=3:=by omega
  have:j=0∨j=1∨j=2∨j=3∨j=4∨j=5∨j=6:=by omega
  rcases ‹n=0∨n=1∨n=2∨n=3› with rfl | rfl | rfl | rfl <;> rcases ‹j=0∨_› with rfl | rfl | rfl | rfl | rfl | rfl | rfl <;> exact hj
 acts:=rfl
 inv:=Inv.new
 one:=fun b hb=>by
  unfold c1 at hb;split at hb
  ·assumption
  ·cases hb
theorem jn3 (w:World):Calls Tryz.prog 38 #[] w fun e w'=>e = .returned (.pointer (some ⟨w.heap.size,0,none⟩))∧w'=w.alloc (.cells new0.toArray 91):=by
 go_enter Tryz.func38,Tryz.ntmps38
 go_wp2;go_ret;exact ⟨rfl,rfl⟩
def put7 (w:World) (b:Nat) (x0 x1 x2 x3 x4 x5 x6:Value):World :=
 ((((((w.setCell ⟨b,0,none⟩ x0).setCell ⟨b,1,none⟩ x1).setCell ⟨b,2,none⟩ x2).setCell ⟨b,3,none⟩ x3).setCell ⟨b,4,none⟩ x4).setCell ⟨b,5,none⟩ x5).setCell ⟨b,6,none⟩ x6
theorem jzb {w:World} {b:Nat} {a0 a1 a2 a3 a4 a5 a6:Value} (h:Cs w b [a0,a1,a2,a3,a4,a5,a6]) (x0 x1 x2 x3 x4 x5 x6:Value):Cs (put7 w b x0 x1 x2 x3 x4 x5 x6) b [x0,x1,x2,x3,x4,x5,x6] :=
 ((((((h.set 0 (by simp) x0).set 1 (by simp) x1).set 2 (by simp) x2).set 3 (by simp) x3).set 4 (by simp) x4).set 5 (by simp) x5).set 6 (by simp) x6
theorem yb8 (w:World) (b:Nat) (x0 x1 x2 x3 x4 x5 x6:Value):(put7 w b x0 x1 x2 x3 x4 x5 x6).heap.size=w.heap.size:=by simp [put7,World.setCell]
theorem joc (w:World) (b:Nat) (x0 x1 x2 x3 x4 x5 x6:Value):Below b w (put7 w b x0 x1 x2 x3 x4 x5 x6) :=
 ((((((jal ..).trans (jal ..)).trans (jal ..)).trans (jal ..)).trans (jal ..)).trans (jal ..)).trans (jal ..)
theorem jrx (w:World) (b:Nat) (x0 x1 x2 x3 x4 x5 x6:Value) (k:Nat) (h:k≠b):(put7 w b x0 x1 x2 x3 x4 x5 x6).heap[k]? = w.heap[k]?:=by
 unfold put7;rw [RowKit.Below.heap_setCell _ _ _ _ h,RowKit.Below.heap_setCell _ _ _ _ h,RowKit.Below.heap_setCell _ _ _ _ h,RowKit.Below.heap_setCell _ _ _ _ h,RowKit.Below.heap_setCell _ _ _ _ h,RowKit.Below.heap_setCell _ _ _ _ h,RowKit.Below.heap_setCell _ _ _ _ h]
theorem jtg {fn:Func} {p:Tmp} {tmps:Array Value} {W:World} {b:Nat} {x0 x1 x2 x3 x4 x5 x6:Value} (h:fn.results = #[.cell p 41]) (hp:tmps.getD p undef = .pointer (some ⟨b,0,none⟩)) (ht:Cs W b [x0,x1,x2,x3,x4,x5,x6]) :
  (results fn tmps).run Tryz.prog W = .ok (.agg #[x0,x1,x2,x3,x4,x5,x6]) W:=by
 have q0:=ht.at 0 rfl;have q1:=ht.at 1 rfl;have q2:=ht.at 2 rfl;have q3:=ht.at 3 rfl;have q4:=ht.at 4 rfl;have q5:=ht.at 5 rfl;have q6:=ht.at 6 rfl;have hp':tmps[p]?.getD undef = .pointer (some ⟨b,0,none⟩):=by simpa using hp
 simp [results,h,hp',go_sem,q0,q1,q2,q3,q4,q5,q6]
theorem jr5 (x:SessD) (v:Value) (w:World) (S:Nat→Prop) (h:jhb w S x v) (hS:∀ k,S k→k<w.heap.size) (hm:okB x.mine=true) (hl:x.mine.doms.length≤100000∧x.mine.tabs.length≤100000∧x.gone.length≤1000000∧x.read.length≤1000000) :
  Calls Tryz.prog 50 #[v] w fun e w'=>∃ u,e = .returned u∧jhb w' (jg7 w.heap.size w') x u∧Below w.heap.size w w':=by
 obtain ⟨l1,l2,l3,l4⟩:=hl;obtain ⟨opn,strict,frm,mine,gone,read⟩:=x;simp only at hm l1 l2 l3 l4;have HCB:=hid (jy6 hm (by omega) (by omega));have HS:=hid hS;obtain ⟨vd,vt,vg,vr,rfl,y1,y2,y3,y4⟩:=h;simp only at y1 y2 y3 y4;have HD:=hid y1;have HT:=hid y2;have HG:=hid y3;have HR:=hid y4;obtain ⟨Ad,cd,rfl,-,-⟩:=y1.form;obtain ⟨At,ct,rfl,-,-⟩:=y2.form;obtain ⟨Ag,cg,rfl,-,-⟩:=y3.form;obtain ⟨Ah,ch,rfl,-,-⟩:=y4.form;clear y1 y2 y3 y4 hS hm;have hb0:=jac w (.cells #[.bool opn,.bool strict,.int .i64 frm,.slice Ad mine.doms.length cd,.slice At mine.tabs.length ct,.slice Ag gone.length cg,.slice Ah read.length ch] 41);have S0:=hid (Cs.new w [.bool opn,.bool strict,.int .i64 frm,.slice Ad mine.doms.length cd,.slice At mine.tabs.length ct,.slice Ag gone.length cg,.slice Ah read.length ch] 41);have hz0:(w.alloc (.cells #[.bool opn,.bool strict,.int .i64 frm,.slice Ad mine.doms.length cd,.slice At mine.tabs.length ct,.slice Ag gone.length cg,.slice Ah read.length ch] 41)).heap.size=w.heap.size+1:=by simp
 change Hid (Cs (w.alloc (.cells #[.bool opn,.bool strict,.int .i64 frm,.slice Ad mine.doms.length cd,.slice At mine.tabs.length ct,.slice Ag gone.length cg,.slice Ah read.length ch] 41)) _ _) at S0;generalize hw0:w.alloc (.cells #[.bool opn,.bool strict,.int .i64 frm,.slice Ad mine.doms.length cd,.slice At mine.tabs.length ct,.slice Ag gone.length cg,.slice Ah read.length ch] 41)=w0 at *;have hb1:=jac w0 (.cells #[.bool false,.bool false,.int .i64 0,.slice none 0 0,.slice none 0 0,.slice none 0 0,.slice none 0 0] 41);have R1:=hid (Cs.new w0 jkr 41);have hz1:(w0.alloc (.cells #[.bool false,.bool false,.int .i64 0,.slice none 0 0,.slice none 0 0,.slice none 0 0,.slice none 0 0] 41)).heap.size=w.heap.size+2:=by simp;omega
 change Hid (Cs (w0.alloc (.cells #[.bool false,.bool false,.int .i64 0,.slice none 0 0,.slice none 0 0,.slice none 0 0,.slice none 0 0] 41)) _ _) at R1;rw [hz0] at R1;have S1:=hid (S0.out.next hb1);have hb01:=bx hb0 hb1;generalize hw1:w0.alloc (.cells #[.bool false,.bool false,.int .i64 0,.slice none 0 0,.slice none 0 0,.slice none 0 0,.slice none 0 0] 41)=w1 at *;have k3:=S1.out.at 3 rfl;have k4:=S1.out.at 4 rfl;have HB1:Hid (jar w1 S mine (.agg #[.slice Ad mine.doms.length cd,.slice At mine.tabs.length ct])):=⟨_,_,rfl,HD.out.keep fun p hp=>hb01.cell (HS.out _ hp),HT.out.keep fun p hp=>hb01.cell (HS.out _ hp)⟩;go_enter Tryz.func50,Tryz.ntmps50
 go_wp2_with fail
 clear hw0 hw1 k3 k4 hb0 hb1 S0;refine (jkt mine _ _ S HB1.out (fun k hk=>by have:=HS.out k hk;omega) HCB.out).mono ?_;rintro e w2 ⟨u,rfl,hu,hb2⟩;obtain ⟨ud,ut,rfl,s1,s2⟩:=hu;have HUD:=hid s1;have HUT:=hid s2;obtain ⟨Aq,cq,rfl,-,-⟩:=s1.form;obtain ⟨Bq,dq,rfl,-,-⟩:=s2.form;clear s1 s2;have hs2:=hb2.size;have hb02:=bx hb01 hb2;have S2:=hid (S1.out.next hb2);have R2:=hid (R1.out.next hb2);have m3:=S2.out.at 3 rfl;have m4:=S2.out.at 4 rfl;have z3:=S2.out.2.2 3 (by simp);have z4:=S2.out.2.2 4 (by simp);have S3:=hid ((S2.out.set 3 (by simp) (.slice Aq mine.doms.length cq)).set 4 (by simp) (.slice Bq mine.tabs.length dq));have hsz3:((w2.setCell ⟨w.heap.size,3,none⟩ (.slice Aq mine.doms.length cq)).setCell ⟨w.heap.size,4,none⟩ (.slice Bq mine.tabs.length dq)).heap.size=w2.heap.size:=by simp [World.setCell]
 have hbk3:Hid (∀ b,b≠w.heap.size→((w2.setCell ⟨w.heap.size,3,none⟩ (.slice Aq mine.doms.length cq)).setCell ⟨w.heap.size,4,none⟩ (.slice Bq mine.tabs.length dq)).heap[b]? = w2.heap[b]?):=fun b hb=>by rw [RowKit.Below.heap_setCell _ _ _ _ hb,RowKit.Below.heap_setCell _ _ _ _ hb]
 have hb03:Below w.heap.size w ((w2.setCell ⟨w.heap.size,3,none⟩ (.slice Aq mine.doms.length cq)).setCell ⟨w.heap.size,4,none⟩ (.slice Bq mine.tabs.length dq)):=(hb02.setCell (Nat.le_refl _) _).setCell (Nat.le_refl _) _;have m5:=S3.out.at 5 rfl;go_wp2_with fail
 generalize hw3:(w2.setCell ⟨w.heap.size,3,none⟩ (.slice Aq mine.doms.length cq)).setCell ⟨w.heap.size,4,none⟩ (.slice Bq mine.tabs.length dq)=w3 at *;clear hw3 m3 m4 z3 z4 m5;have HG3:Hid (Sl Enc.str w3 S gone (.slice Ag gone.length cg)):=HG.out.keep fun p hp=>hb03.cell (HS.out _ hp);refine (jrg gone _ _ S HG3.out (by omega)).mono ?_;rintro e w4 ⟨v4,rfl,ho4,hb4⟩;have HO4:=hid ho4;obtain ⟨A4,c4,rfl,-,-,-⟩:=jah ho4;clear ho4;have hs4:=hb4.size;have hb04:=bx hb03 hb4;have S4:=hid (S3.out.next hb4);have m5:=S4.out.at 5 rfl;have z5:=S4.out.2.2 5 (by simp);have S5:=hid (S4.out.set 5 (by simp) (.slice A4 gone.length c4));have hsz5:(w4.setCell ⟨w.heap.size,5,none⟩ (.slice A4 gone.length c4)).heap.size=w4.heap.size:=by simp [World.setCell]
 have hbk5:Hid (∀ b,b≠w.heap.size→(w4.setCell ⟨w.heap.size,5,none⟩ (.slice A4 gone.length c4)).heap[b]? = w4.heap[b]?):=fun b hb=>RowKit.Below.heap_setCell _ _ _ _ hb;have hb05:Below w.heap.size w (w4.setCell ⟨w.heap.size,5,none⟩ (.slice A4 gone.length c4)):=hb04.setCell (Nat.le_refl _) _;have m6:=S5.out.at 6 rfl;go_wp2_with fail
 generalize hw5:w4.setCell ⟨w.heap.size,5,none⟩ (.slice A4 gone.length c4)=w5 at *;clear hw5 m5 z5 m6;have HR5:Hid (Sl Enc.str w5 S read (.slice Ah read.length ch)):=HR.out.keep fun p hp=>hb05.cell (HS.out _ hp);refine (jrg read _ _ S HR5.out (by omega)).mono ?_;rintro e w6 ⟨v6,rfl,ho6,hb6⟩;have HO6:=hid ho6;obtain ⟨A6,c6,rfl,-,-,-⟩:=jah ho6;clear ho6;have hs6:=hb6.size;have hb06:=bx hb05 hb6;have S6:=hid (S5.out.next hb6);have m6:=S6.out.at 6 rfl;have z6:=S6.out.2.2 6 (by simp);have S7:=hid (S6.out.set 6 (by simp) (.slice A6 read.length c6));have hsz7:(w6.setCell ⟨w.heap.size,6,none⟩ (.slice A6 read.length c6)).heap.size=w6.heap.size:=by simp [World.setCell]
 have hbk7:Hid (∀ b,b≠w.heap.size→(w6.setCell ⟨w.heap.size,6,none⟩ (.slice A6 read.length c6)).heap[b]? = w6.heap[b]?):=fun b hb=>RowKit.Below.heap_setCell _ _ _ _ hb;have hb07:Below w.heap.size w (w6.setCell ⟨w.heap.size,6,none⟩ (.slice A6 read.length c6)):=hb06.setCell (Nat.le_refl _) _;have hne:w.heap.size+1≠w.heap.size:=by omega
 have hblk:Hid (∀ b,b≠w.heap.size→b<w2.heap.size→(w6.setCell ⟨w.heap.size,6,none⟩ (.slice A6 read.length c6)).heap[b]? = w2.heap[b]?):=fun b hb hlt=>by
  rw [hbk7.out b hb,hb6.block b (by omega),hbk5.out b hb,hb4.block b (by omega),hbk3.out b hb]
 have R7:=hid (R2.out.keep (hblk.out _ hne (by omega)) (by omega));have q0:=S7.out.at 0 rfl;have q1:=S7.out.at 1 rfl;have q2:=S7.out.at 2 rfl;have q3:=S7.out.at 3 rfl;have q4:=S7.out.at 4 rfl;have q5:=S7.out.at 5 rfl;have q6:=S7.out.at 6 rfl;have r0:=R7.out.at 0 rfl;have r1:=R7.out.at 1 rfl;have r2:=R7.out.at 2 rfl;have r3:=R7.out.at 3 rfl;have r4:=R7.out.at 4 rfl;have r5:=R7.out.at 5 rfl;have r6:=R7.out.at 6 rfl;have f0:=R7.out.2.2 0 (by simp [jkr]);have f1:=R7.out.2.2 1 (by simp [jkr]);have f2:=R7.out.2.2 2 (by simp [jkr]);have f3:=R7.out.2.2 3 (by simp [jkr]);have f4:=R7.out.2.2 4 (by simp [jkr]);have f5:=R7.out.2.2 5 (by simp [jkr]);have f6:=R7.out.2.2 6 (by simp [jkr]);go_wp2
 (try simp only [Exit.inBlock,Exit.then])
 generalize hw7:w6.setCell ⟨w.heap.size,6,none⟩ (.slice A6 read.length c6)=w7 at *;refine bodyPost_ret (jtg (b:=w.heap.size+1) rfl rfl (jzb R7.out _ _ _ _ _ _ _)) rfl ⟨_,rfl,?_,?_⟩
 ·have hsp:=yb8 w7 (w.heap.size+1) (.bool opn) (.bool strict) (.int .i64 frm) (.slice Aq mine.doms.length cq) (.slice Bq mine.tabs.length dq) (.slice A4 gone.length c4) (.slice A6 read.length c6);have hpb:=jrx w7 (w.heap.size+1) (.bool opn) (.bool strict) (.int .i64 frm) (.slice Aq mine.doms.length cq) (.slice Bq mine.tabs.length dq) (.slice A4 gone.length c4) (.slice A6 read.length c6);have hK2:∀ b,w1.heap.size≤b→b<w2.heap.size→(put7 w7 (w.heap.size+1) (.bool opn) (.bool strict) (.int .i64 frm) (.slice Aq mine.doms.length cq) (.slice Bq mine.tabs.length dq) (.slice A4 gone.length c4) (.slice A6 read.length c6)).heap[b]? = w2.heap[b]?:=fun b h1 h2=>(hpb b (by omega)).trans (hblk.out b (by omega) h2);refine ⟨_,_,_,_,rfl,?_,?_,?_,?_⟩
  ·exact (HUD.out.keep fun p hp=>World.cell?_of_block (hK2 _ hp.1 hp.2.1)).more fun k hk=>⟨by have:=hk.1;omega,Nat.lt_of_lt_of_eq (by have:=hk.2.1;omega) hsp.symm,hk.2.2.of (hK2 k hk.1 hk.2.1)⟩
  ·exact (HUT.out.keep fun p hp=>World.cell?_of_block (hK2 _ hp.1 hp.2.1)).more fun k hk=>⟨by have:=hk.1;omega,Nat.lt_of_lt_of_eq (by have:=hk.2.1;omega) hsp.symm,hk.2.2.of (hK2 k hk.1 hk.2.1)⟩
  ·have hlt:=HO4.out.lt;have hk:=HO4.out.keep (fun b hb=>by
    have:=hlt b hb
    exact (hpb b (by omega)).trans ((hbk7.out b (by omega)).trans ((hb6.block b (by omega)).trans (hbk5.out b (by omega)))))
   exact hk.sl (S:=jg7 w.heap.size _) fun b hb=>by have:=jk7 hk b hb;exact ⟨by have:=this.1;omega,this.2⟩
  ·have hlt:=HO6.out.lt;have hk:=HO6.out.keep (fun b hb=>by
    have:=hlt b hb
    exact (hpb b (by omega)).trans (hbk7.out b (by omega)))
   exact hk.sl (S:=jg7 w.heap.size _) fun b hb=>by have:=jk7 hk b hb;exact ⟨by have:=this.1;omega,this.2⟩
 ·have h7:=joc w7 (w.heap.size+1) (.bool opn) (.bool strict) (.int .i64 frm) (.slice Aq mine.doms.length cq) (.slice Bq mine.tabs.length dq) (.slice A4 gone.length c4) (.slice A6 read.length c6);exact jig hb07 h7 (by omega)
theorem ymz {σ:StoreD} {k:Nat} (h:k ≤ σ.last):σ.states[k]? = some (σ.ver k):=by
 unfold StoreD.ver;have:k < σ.states.length:=by unfold StoreD.states;unfold StoreD.last at h;simp;omega
 rw [List.getElem?_eq_getElem this];rfl
theorem jmc (σ:StoreD):σ.states.length = σ.last+1:=by simp [StoreD.states,StoreD.last]
theorem jzp (σ:StoreD) (c:Nat→Nat) (g:Nat) (vs:List Value) (vl:Value) (w:World) (h:StoreC w c g σ vs vl) :
  Calls Tryz.prog 16 #[.pointer (some ⟨g,0,none⟩)] w fun e w'=>∃ v,e = .returned v∧OwnU Enc.book w' w.heap.size w.heap.size 38 v σ.states∧Below w.heap.size w w':=by
 have HH:=hid h;have HCL:=hid h.lt;have HIV:=hid h.inv;have hl39:σ.last≤39:=h.inv.some_;have HSL:=hid (jmc σ);have HSA:Hid (∀ k,k ≤ σ.last → σ.states[k]? = some (σ.ver k)):=fun k hk=>ymz hk;have hwl:IntKind.i64.wrap ((σ.last:Int)+1)=(σ.last:Int)+1:=by rw [IntKind.wrap_i64];omega
 clear h;go_enter Tryz.func16,Tryz.ntmps16
 go_wp2_with fail
 refine (jgr σ c g vs vl _ HH.out).mono ?_;rintro e w1 ⟨rfl,hw1⟩;replace hw1:=hw1.symm;subst hw1;go_wp2;go_loopw [3,10] (fun u i wr=>∃ k:Nat,k ≤ σ.last+1∧i = .int .i64 k∧Hid (OwnU Enc.book wr w.heap.size w.heap.size 38 u (σ.states.take k))∧Below w.heap.size w wr) (fun _ i _=>σ.last+1-(intOf i).toNat)
 case atStart=>exact ⟨0,Nat.zero_le _,rfl,OwnS.nil,Below.refl _ _⟩
 case round =>
  obtain ⟨k,hk,rfl,HO,hb⟩:=hrel;by_cases hlt:k < σ.last+1
  ·have hlt':(k:Int)<(σ.last:Int)+1:=by omega
   have HX:=hid (HSA.out k (by omega));have hsz:=hb.size;go_wp2_with fail
   refine (jgs σ c g vs vl _ (HH.out.next hb) k (by omega)).mono ?_;rintro e w2 ⟨ud,ut,rfl,hu,hb2⟩;have HU:=hid hu;obtain ⟨qd,qt,eq,s1,s2⟩:=hu;injection eq with eq;injection eq with eq;injection eq with eq1 eq2;injection eq2 with eq2 _;subst eq1 eq2;obtain ⟨A2,c2,rfl,-,-⟩:=s1.form;obtain ⟨B2,d2,rfl,-,-⟩:=s2.form;clear s1 s2;have hsz2:=hb2.size;have hvl:=jn7 HIV.out k;go_wp2_with fail
   refine (jkt (σ.ver k) _ _ (Im c) HU.out (fun q hq=>by have:=HCL.out q (by rw [show c q=11 from hq];decide);omega) (jy6 (jq4 HIV.out k) (by omega) (by omega))).mono ?_;rintro e w3 ⟨u3,rfl,hu3,hb3⟩;obtain ⟨td,tt,rfl,s1,s2⟩:=hu3;have hb23:=bx hb2 hb3;have hsz3:=hb23.size;obtain ⟨A3,c3,e3,-,-⟩:=s1.form;obtain ⟨B3,d3,e4,-,-⟩:=s2.form;subst e3 e4;generalize hV:σ.ver k=V at *;have hb4:=jac w3 (.cells #[.slice A3 V.doms.length c3,.slice B3 V.tabs.length d3] 38);have HOa:=hid (OwnU.next (OwnU.next HO.out hb23) hb4);have hb34:=bx hb hb23;have hb44:=bx hb34 hb4;have HY:Hid (Enc.book.rd (w3.alloc (.cells #[.slice A3 V.doms.length c3,.slice B3 V.tabs.length d3] 38)) (OffU w.heap.size (w3.alloc (.cells #[.slice A3 V.doms.length c3,.slice B3 V.tabs.length d3] 38)) u3) V [.slice A3 V.doms.length c3,.slice B3 V.tabs.length d3]):=by
    have off:∀ q,jg7 w2.heap.size w3 q→OffU w.heap.size (w3.alloc (.cells #[.slice A3 V.doms.length c3,.slice B3 V.tabs.length d3] 38)) u3 q:=jg7.off (by omega) (fun k hk=>by have:=(OwnS.lt HO.out k hk).2;omega) hb4;exact ⟨_,_,rfl,(s1.keep fun p hp=>hb4.cell hp.2.1).more off,(s2.keep fun p hp=>hb4.cell hp.2.1).more off⟩
   have hN:Hid ((σ.states.take k).length=k):=by show _=_;rw [List.length_take,HSL.out];omega
   have hbs:w.heap.size≤(w3.alloc (.cells #[.slice A3 V.doms.length c3,.slice B3 V.tabs.length d3] 38)).heap.size:=hb44.size;have HT:Hid (σ.states.take (k+1) = σ.states.take k ++ [V]):=jai HX.out;have hlo:=OwnS.lt HO.out;clear s1 s2 HU hvl;go_wp2_with (at_builtin;refine jvq (E:=Enc.book) _ rfl _ _ 32 rfl w.heap.size w.heap.size 38 48 (.agg #[.slice none 0 0,.slice none 0 0]) ye5 yjh rfl (by decide) _ _ rfl HOa.out ⟨w3.heap.size,0,none⟩ V [.slice A3 V.doms.length c3,.slice B3 V.tabs.length d3] rfl HY.out (jwn _ _ _ _) (by rw [hN.out];omega) (by rw [hN.out];unfold maxLen;omega) hbs ?_;intro v5 w5 ho5 hg5 hm5)
   refine ⟨⟨k+1,by omega,by go_num,?_,?_⟩,by simp [intOf];omega⟩
   ·rw [HT.out];exact ho5
   ·exact hb44.grown hg5 hbs (fun q hq=>(hlo q hq).1)
  ·have hnl:¬ (k:Int)<(σ.last:Int)+1:=by omega
   have ek:σ.states.take k = σ.states:=List.take_of_length_le (by rw [HSL.out];omega);rw [ek] at HO;go_wp2;go_ret;exact ⟨_,rfl,HO.out,hb⟩
theorem jhq (σ:StoreD) (c:Nat→Nat) (g:Nat) (vs:List Value) (vl:Value) (w:World) (h:StoreC w c g σ vs vl) :
  Calls Tryz.prog 16 #[.pointer (some ⟨g,0,none⟩)] w fun e w'=>∃ v,e = .returned v∧Sl Enc.book w' (From w.heap.size w') σ.states v∧Below w.heap.size w w' :=
 (jzp σ c g vs vl w h).mono fun _ _ ⟨v,h1,h2,h3⟩=>⟨v,h1,(OwnU.sl h2 (Nat.le_refl _)).more fun _ hk=>⟨hk.1,hk.2.1⟩,h3⟩
theorem jv5 (σ:StoreD) (c:Nat→Nat) (g:Nat) (vs:List Value) (vl:Value) (w:World) (h:StoreC w c g σ vs vl) (n:Int) :
  Calls Tryz.prog 18 #[.pointer (some ⟨g,0,none⟩),.int .i64 n] w fun e w'=>∃ u,e = .returned u∧jhb w' (jg7 w.heap.size w') (jce σ n) u∧Below w.heap.size w w':=by
 have HH:=hid h;have HCL:=hid h.lt;have HIV:=hid h.inv;have hac:=h.inv.acts;have hb1:=jac w (.cells #[.bool false,.bool false,.int .i64 0,.slice none 0 0,.slice none 0 0,.slice none 0 0,.slice none 0 0] 41);have R1:=hid (Cs.new w jkr 41);have hz1:(w.alloc (.cells #[.bool false,.bool false,.int .i64 0,.slice none 0 0,.slice none 0 0,.slice none 0 0,.slice none 0 0] 41)).heap.size=w.heap.size+1:=by simp
 change Hid (Cs (w.alloc (.cells #[.bool false,.bool false,.int .i64 0,.slice none 0 0,.slice none 0 0,.slice none 0 0,.slice none 0 0] 41)) _ _) at R1;generalize hw1:w.alloc (.cells #[.bool false,.bool false,.int .i64 0,.slice none 0 0,.slice none 0 0,.slice none 0 0,.slice none 0 0] 41)=w1 at *;have H1:=hid (HH.out.next hb1);go_enter Tryz.func18,Tryz.ntmps18
 go_wp2_with fail
 clear hw1;refine (jgh σ c g vs vl _ H1.out n).mono ?_;rintro e w2 ⟨rfl,hw2⟩;replace hw2:=hw2.symm;subst hw2;have r0:=R1.out.at 0 rfl;have r1:=R1.out.at 1 rfl;have r2:=R1.out.at 2 rfl;have r3:=R1.out.at 3 rfl;have r4:=R1.out.at 4 rfl;have r5:=R1.out.at 5 rfl;have r6:=R1.out.at 6 rfl;have f0:=R1.out.2.2 0 (by simp [jkr]);have f1:=R1.out.2.2 1 (by simp [jkr]);have f2:=R1.out.2.2 2 (by simp [jkr]);have f3:=R1.out.2.2 3 (by simp [jkr]);have f4:=R1.out.2.2 4 (by simp [jkr]);have f5:=R1.out.2.2 5 (by simp [jkr]);have f6:=R1.out.2.2 6 (by simp [jkr]);cases hop:jcp σ n
 ·have HE:Hid (jce σ n=jjn):=by show _=_;unfold jce;rw [hop];rfl
  clear hop;go_wp2
  (try simp only [Exit.inBlock,Exit.then])
  refine bodyPost_ret (jtg (b:=w.heap.size) rfl rfl (jzb R1.out _ _ _ _ _ _ _)) rfl ⟨_,rfl,?_,?_⟩
  ·rw [HE.out];exact ⟨_,_,_,_,rfl,Sl.nil,Sl.nil,Sl.nil,Sl.nil⟩
  ·exact jig hb1 (joc _ _ _ _ _ _ _ _ _) (Nat.le_refl _)
 ·obtain ⟨h0,h4,-⟩:=jd9.1 hop;have HE:Hid (jce σ n = σ.sessN n.toNat):=by show _=_;unfold jce;rw [hop];rfl
  clear hop;obtain ⟨k,rfl⟩:∃ k:Nat,n=k:=⟨n.toNat,by omega⟩;have hk:k<4:=by omega
  have ekk:((k:Int)).toNat=k:=by simp
  rw [ekk] at HE;have hSO:=hid (HIV.out.at k);obtain ⟨vd,vt,vg,vr,hC,-,-,hcell⟩:=H1.out.sessAt (je5 HIV.out hk);generalize hX:σ.sessN k=X at *;have HX1:=hid hC.at;obtain ⟨Ad,cd,rfl,-,-⟩:=hC.doms.form;obtain ⟨At,ct,rfl,-,-⟩:=hC.tabs.form;obtain ⟨Ag,cg,rfl,-,-,-⟩:=jah hC.gone;obtain ⟨Ah,ch,rfl,-,-,-⟩:=jah hC.read;have c0:w1.cell? ⟨g,1+k*7,none⟩=some (.bool X.opn):=(hcell 0 _ rfl).1;have c1:=(hcell 1 _ rfl).1;have c2:=(hcell 2 _ rfl).1;have c3:=(hcell 3 _ rfl).1;have c4:=(hcell 4 _ rfl).1;have c5:=(hcell 5 _ rfl).1;have c6:=(hcell 6 _ rfl).1;have l1:=hSO.out.ds;have l2:=hSO.out.ts;have l3:=hSO.out.gs;have l4:=hSO.out.rs;clear hcell hC hX r0 r1 r2 r3 r4 r5 r6 f0 f1 f2 f3 f4 f5 f6;go_wp2_with fail
  clear c0 c1 c2 c3 c4 c5 c6;refine (jr5 X _ _ (Cd c) HX1.out (fun q hq=>by have:=HCL.out q hq;omega) hSO.out.mine ⟨by omega,by omega,by omega,by omega⟩).mono ?_;rintro e w3 ⟨u3,rfl,hu3,hb3⟩;have HU3:=hid hu3;obtain ⟨td,tt,tg,tr,rfl,s1,s2,s3,s4⟩:=hu3;obtain ⟨A3,c3,rfl,-,-⟩:=s1.form;obtain ⟨B3,d3,rfl,-,-⟩:=s2.form;obtain ⟨C3,e3,rfl,-,-⟩:=s3.form;obtain ⟨D3,f3,rfl,-,-⟩:=s4.form;clear s1 s2 s3 s4;have R3:=hid (R1.out.next hb3);have r0:=R3.out.at 0 rfl;have r1:=R3.out.at 1 rfl;have r2:=R3.out.at 2 rfl;have r3:=R3.out.at 3 rfl;have r4:=R3.out.at 4 rfl;have r5:=R3.out.at 5 rfl;have r6:=R3.out.at 6 rfl;have g0:=R3.out.2.2 0 (by simp [jkr]);have g1:=R3.out.2.2 1 (by simp [jkr]);have g2:=R3.out.2.2 2 (by simp [jkr]);have g3:=R3.out.2.2 3 (by simp [jkr]);have g4:=R3.out.2.2 4 (by simp [jkr]);have g5:=R3.out.2.2 5 (by simp [jkr]);have g6:=R3.out.2.2 6 (by simp [jkr]);go_wp2
  (try simp only [Exit.inBlock,Exit.then])
  refine bodyPost_ret (jtg (b:=w.heap.size) rfl rfl (jzb R3.out _ _ _ _ _ _ _)) rfl ⟨_,rfl,?_,?_⟩
  ·rw [HE.out];exact (HU3.out.keepS fun q hq=>jrx _ _ _ _ _ _ _ _ _ q (by have:=hq.1;omega)).moreS fun q hq=>⟨by have:=hq.1;omega,Nat.lt_of_lt_of_eq hq.2.1 (yb8 _ _ _ _ _ _ _ _ _).symm,hq.2.2.of (jrx _ _ _ _ _ _ _ _ _ q (by have:=hq.1;omega))⟩
  ·exact jig (bx hb1 hb3) (joc _ _ _ _ _ _ _ _ _) (Nat.le_refl _)
theorem jjx (σ:StoreD) (c:Nat→Nat) (g:Nat) (vs:List Value) (vl:Value) (w:World) (h:StoreC w c g σ vs vl) (n:Int) :
  Calls Tryz.prog 18 #[.pointer (some ⟨g,0,none⟩),.int .i64 n] w fun e w'=>∃ u,e = .returned u∧jhb w' (From w.heap.size w') (jce σ n) u∧Below w.heap.size w w' :=
 (jv5 σ c g vs vl w h n).mono fun _ _ ⟨v,h1,h2,h3⟩=>⟨v,h1,h2.moreS fun _ hk=>⟨hk.1,hk.2.1⟩,h3⟩
open Go.Lib (hid)
open Go.ChangeShapes Go.WideShapes Go.ChangeAt Go.RowKit Go.Deep
def yff (a:ActD):Prop:=a.name.size≤reachBytes∧a.text.size≤reachBytes∧ykc a.inp
abbrev ActP:=Int × Int × ByteArray × ByteArray × List Int
def ActD.of (y:ActP):ActD:=⟨y.1,y.2.1,y.2.2.1,y.2.2.2.1,y.2.2.2.2⟩
def Enc.actP:Enc ActP:=Enc.int.pair (Enc.int.pair (Enc.str.pair (Enc.str.pair Enc.int.slice)))
theorem Enc.act_of {w:World} {S:Nat→Prop} {y:ActP} {cs:List Value} (h:Enc.actP.rd w S y cs):Enc.act.rd w S (ActD.of y) cs:=by
 obtain ⟨c1,_,rfl,h1,c2,_,rfl,h2,c3,_,rfl,h3,c4,_,rfl,h4,v,rfl,h5⟩:=h;have h1':c1 = [.int .i64 y.1]:=h1;have h2':c2 = [.int .i64 y.2.1]:=h2;have h3':c3 = [.string y.2.2.1]:=h3;have h4':c4 = [.string y.2.2.2.1]:=h4;subst h1' h2' h3' h4';exact ⟨v,rfl,h5⟩
theorem ylh {fs:Array Field} (hu:Tryz.prog.underlying 24=some (.struct fs)) {f0 f1 f2 f3 f4:Field} (hf:fs = #[f0,f1,f2,f3,f4]) (o0:f0.offset=0) (o1:f1.offset=1) (o2:f2.offset=2) (o3:f3.offset=3) (o4:f4.offset=4)
  (t0:f0.type=3) (t1:f1.type=3) (t2:f2.type=9) (t3:f3.type=9) (t4:f4.type=22):jfq Tryz.prog Enc.act 24 yff:=by
 have h:=jf7 (E:=Enc.actP) (t:=24) hu (by kernel_rfl) (by
  rw [hf];exact jcs (off:=0) o0 (by rw [t0];kernel_rfl) (by rw [t0];exact jh7 Tryz.underlying3) (jcs o1 (by rw [t1];kernel_rfl) (by rw [t1];exact jh7 Tryz.underlying3) (jcs o2 (by rw [t2];kernel_rfl) (by rw [t2];exact jl4 Tryz.underlying9)
   (jcs o3 (by rw [t3];kernel_rfl) (by rw [t3];exact jl4 Tryz.underlying9) (jit o4 (by rw [t4];kernel_rfl) (by rw [t4];exact ylo))))))
 intro H enc W base spare held fuel cs x h1 h2;obtain ⟨y,hy,_,_,f2,f3,f4⟩:=h H enc W base spare held fuel cs x h1 h2;exact ⟨ActD.of y,Enc.act_of hy,f2,f3,f4⟩
theorem yfq:jfq Tryz.prog Enc.act 24 yff:=ylh Tryz.underlying24 rfl rfl rfl rfl rfl rfl rfl rfl rfl rfl rfl
theorem ytw:Tryz.prog.underlying 44=some (.slice 24):=by kernel_rfl
theorem ys5:jfq Tryz.prog Enc.act.slice 44 (fun l=>l.length*72≤reachBytes∧∀ a,a∈l→yff a) :=
 (@jeu _ ⟨⟨0,0,⟨#[]⟩,⟨#[]⟩,[]⟩⟩ _ _ 44 24 _ (by kernel_rfl) (by kernel_rfl) (by decide) yfq).mono fun l h=>⟨by have:=h.1;rw [show Tryz.prog.bytesOf 24=72 from by kernel_rfl] at this;exact this,h.2⟩
open Go.Lib (hid)
open Go.ChangeShapes Go.WideShapes Go.ChangeAt Go.RowKit Go.Deep
theorem jyf {H:Type} {enc:TypeId × Value→H} {P:Program} {w:World} {base:Nat} {sp:Nat→Bool} {held:Bool} {fuel:Nat} {t e:TypeId} {n:Nat} {cs:List Value} {zs:List (List UInt8)} {p:List MemPlace}
  (ht:P.underlying t=some (.array n e)) (he:P.underlying e=some .string) (hce:P.cellsOf e=1) (hct:P.cellsOf t=n)
  (h:DataW.trod enc P w base sp held fuel t cs=some (.agg (zs.map fun z=>(DataW.lit (.string z):DataW H)),p)):cs=zs.map fun z=>Value.string (bs z):=by
 cases fuel with
 | zero=>simp [DataW.trod] at h
 | succ fuel =>
  simp only [DataW.trod,ht,hce,hct,Nat.mul_one] at h;split at h
  ·rename_i hl
   obtain ⟨xs,hm,hx⟩:=Option.map_eq_some_iff.1 h;have hxs:xs.map (·.1)=zs.map fun z=>(DataW.lit (.string z):DataW H):=by
    have:=congrArg Prod.fst hx
    simpa using this
   have hxl:xs.length=n:=by simpa using Lib.mapM_length hm
   have hzl:zs.length=n:=by
    have:=congrArg List.length hxs
    simp at this;omega
   apply List.ext_getElem?;intro i;by_cases hi:i<n
   ·obtain ⟨b,hb,hf⟩:=Lib.mapM_at hm i i (by simp [hi]);obtain ⟨s,hc,rfl,_⟩:=DataW.trod_string he hf;have h1:cs[i]? = some (.string s):=by
     have:=congrArg (·[0]?) hc
     simpa [List.getElem?_take,List.getElem?_drop] using this
    have h2:(xs.map (·.1))[i]? = some (DataW.lit (.string s.data.toList):DataW H):=by simp [hb]
    rw [hxs] at h2;simp only [List.getElem?_map,Option.map_eq_some_iff,DataW.lit.injEq,Lit.string.injEq] at h2;obtain ⟨z,hz,e⟩:=h2;rw [h1,List.getElem?_map,hz];simp only [Option.map_some];rw [e,ygm]
   ·rw [List.getElem?_eq_none (by omega),List.getElem?_eq_none (by simp;omega)]
  ·cases h
theorem ycm {P:Program} {W:World} {name:String} {zs:List (List UInt8)} {rest:List (String × DataW Unit)} {g:Nat} {t e:TypeId} {n:Nat}
  (hg:P.globalNamed name=some g) (hty:(P.globals[g]?).map (·.type)=some t) (ht:P.underlying t=some (.array n e)) (he:P.underlying e=some .string) (hce:P.cellsOf e=1) (hct:P.cellsOf t=n)
  (h:laidMet P ((name,.agg (zs.map fun z=>.lit (.string z))) :: rest) W):W.var? P name=some ((zs.map fun z=>Value.string (bs z)).toArray):=by
 obtain ⟨ps,⟨g',t',cs,fuel,p,q,hg',ht',hvar,hd,_,_⟩,_⟩:=h;obtain rfl:=Option.some.inj (hg.symm.trans hg');obtain rfl:=Option.some.inj (hty.symm.trans ht');rw [hvar,← jyf ht he hce hct hd]
theorem yqs : "*" ++ "errors.errorString" = "*errors.errorString":=by decide
theorem yte (u:TypeId) (h:Tryz.prog.typeName? 3 u=some "*errors.errorString"):u=313 :=
 typeName_ptr_named (nm:= "errors.errorString") (by rw [yqs];kernel_rfl) (by kernel_rfl) (by decide) u (by rw [yqs];exact h)
theorem yed:(Rows.laid_internal_strconv_uint64pow10:DataW Unit)=Lib.tabData .u64 Lib.pow10Tab:=by rfl
theorem yl8:(Rows.laid_ratebook_text_policies:DataW Unit) = .agg (([] :: polW).map fun z=>.lit (.string z)):=by rfl
theorem yqr {W:World} {x1 x2 x4:String × DataW Unit} {r:List (String × DataW Unit)}
  (h:laidMet Tryz.prog (x1 :: x2 :: ("internal/strconv.uint64pow10",Rows.laid_internal_strconv_uint64pow10) :: x4 :: ("strconv.ErrRange",Rows.laid_strconv_ErrRange) :: ("strconv.ErrSyntax",Rows.laid_strconv_ErrSyntax) :: ("ratebook/text.policies",Rows.laid_ratebook_text_policies) :: r) W):VarsOk W:=by
 have h3:=h.tail.tail;have h5:=h3.tail.tail;have h6:=h5.tail;have h7:=h6.tail;rw [yed] at h3;rw [yl8] at h7;obtain ⟨a5,s5,v5,-,-,-⟩:=laid_sentinel h5 (g:=3) (by kernel_rfl) (by kernel_rfl) Tryz.underlying143 yte Tryz.underlying313 Tryz.underlying315 rfl rfl Tryz.underlying9 (by kernel_rfl) (by kernel_rfl);obtain ⟨a6,s6,v6,-,-,-⟩:=laid_sentinel h6 (g:=2) (by kernel_rfl) (by kernel_rfl) Tryz.underlying143 yte Tryz.underlying313 Tryz.underlying315 rfl rfl Tryz.underlying9 (by kernel_rfl) (by kernel_rfl);exact ⟨Lib.tabIs_of_head (g:=4) (t:=295) (e:=277) (n:=20) (by kernel_rfl) (by kernel_rfl) (by kernel_rfl) (by kernel_rfl) (by kernel_rfl) (by kernel_rfl) h3,
  ⟨_,_,v6⟩,⟨_,_,v5⟩,
  ycm (g:=0) (t:=214) (e:=9) (n:=8) (by kernel_rfl) (by kernel_rfl) (by kernel_rfl) (by kernel_rfl) (by kernel_rfl) (by kernel_rfl) h7⟩
end Go.Proofs.YthmlndmlnlfhnaaGreatDoor
