/- Part 48 of the proof that the card of HostNone holds. -/
import Derived.Test.YtbafmljidapmgaaGreatDoorN48b
set_option maxHeartbeats 16000000
set_option maxRecDepth 100000
namespace Go.Proofs.YtbafmljidapmgaaGreatDoor.Hos
open Go RowKit Com Rw Lns Emu Scn
section
variable {Z Z' B:Zn} {W w w1 w2 w':World} {h d t:Nat} {p p':HP} {H H':Hst} {X:Tri} {T:Ter} {v sv:Value} {s b l:List Int} {ao:Option Addr} {n cp c:Nat}
theorem tnew_z (hT:Tbl w) (rows cols most:Nat) (hr1:1<=rows) (hr5:rows<=512) (hc1:1<=cols) (hc5:cols<=512) (hm:most<=10000):Calls Tryz.prog 36 #[.int .i64 rows,.int .i64 cols,.int .i64 most] w fun e w'=>∃ d t Z,e=.returned (.tuple #[.pointer (some ⟨d,0,none⟩),.int .i64 0])/\w.heap.size<=d/\Block w' d 150 #[.pointer (some ⟨t,0,none⟩)]/\TM Z w' t (newT rows cols most)/\¬ Z d/\(∀ k,Z k->w.heap.size<=k)/\Below w.heap.size w w':=by
 have hln:=J0 (new_yes most hm w)
 have hbg:Hid (∀ w1,SX w.heap.size w1 w.heap.size 1 most (.slice none 0 0) []->Below w.heap.size w w1->Calls Tryz.prog 65 #[.pointer (some ⟨w1.heap.size,0,none⟩),.int .i64 rows,.int .i64 cols] (w1.alloc (.cells (Bg4 w.heap.size) 148)) fun e w'=>e=.returned (.int .i64 0)/\TM (fun k=>w.heap.size<=k) w' w1.heap.size (newT rows cols most)/\Below w.heap.size w w'):=J0 fun w1 hs hb=>by
  have hba:=Aa1 w1 (.cells (Bg4 w.heap.size) 148)
  have hb2:=Aa0 hb hba
  have hbl:=Block.made w1 148 (Bg4 w.heap.size)
  rw [Cb4 w.heap.size most] at hbl
  have hsz:=hb.size
  have h6:=hT.1
  have hbare:Bare (fun k=>w.heap.size<=k) (w1.alloc (.cells (Bg4 w.heap.size) 148)) w1.heap.size (Cp1 most) w.heap.size (.slice none 0 0) (.slice none 0 0) (.pointer none) (.pointer none) (.pointer none) :=
   ⟨by rw [Cb4 w.heap.size most];exact hbl,World.ownsRow_nil _ _ _ _,Kys.Row.nil _ _ _,hsz,fun g hg=>(by cases hg),fun g hg=>(by cases hg),fun k hk=>Nat.le_trans hb2.size hk,fun k hk hz=>(by omega),hT.below hb2⟩
  have hsto:Sto (fun k=>w.heap.size<=k) (w1.alloc (.cells (Bg4 w.heap.size) 148)) w.heap.size 1 most (.slice none 0 0) [] :=
   ⟨(sx_zero hs).below hba,⟨J5 _,fun g hg=>(by cases hg),fun e he=>(by cases he),fun k hk=>Nat.le_trans hb2.size hk⟩,by simp,by simp⟩
  refine (Ah5 (T:=Cp1 most) hbare hsto rows cols hr1 hr5 hc1 hc5 (by show 1+512<=10000000000;omega)).mono fun e w' ⟨he,h1,hf⟩=>⟨he,h1,?_⟩
  exact ⟨hf.os.trans hb2.os,hf.tape.trans hb2.tape,hf.output.trans hb2.output,Nat.le_trans hb2.size hf.size,fun k hk=>(hf.block k (Nat.lt_of_lt_of_le hk hb2.size) (.inl (by omega))).trans (hb2.block k hk)⟩
 simp only [Bg4] at hbg
 generalize newT rows cols most=T at hbg |-
 clear hT
 go_enter Tryz.func36,Tryz.ntmps36
 go_wp2_with (first
  |(go_at_call 64;(with_reducible refine (hln.out).mono ?_);rintro e w1 ⟨rfl,hs,hb1⟩)
  |(go_at_call 65;(with_reducible refine (hbg.out _ hs hb1).mono ?_);rintro e w3 ⟨rfl,h3,hb3⟩))
 have hb4:=Aa1 w3 (.cells #[.pointer (some ⟨w1.heap.size,0,none⟩)] 150)
 go_ret2
 obtain ⟨P,hP⟩:=h3
 have hs3:=hb3.size
 have hs4:(w3.alloc (.cells #[.pointer (some ⟨w1.heap.size,0,none⟩)] 150)).heap.size=w3.heap.size+1:=by simp
 have hk:Keep (fun k=>w.heap.size<=k) (re (fun k=>w.heap.size<=k) w3 (w3.alloc (.cells #[.pointer (some ⟨w1.heap.size,0,none⟩)] 150))) w3 (w3.alloc (.cells #[.pointer (some ⟨w1.heap.size,0,none⟩)] 150)):=⟨hb4.size,fun k hk _=>hb4.block k hk,fun k hk hz=>.inl ⟨hz,hk⟩,fun k hk=>.inr hk⟩
 refine ⟨_,_,re (fun k=>w.heap.size<=k) w3 (w3.alloc (.cells #[.pointer (some ⟨w1.heap.size,0,none⟩)] 150)),rfl,hb3.size,Block.made w3 150 #[.pointer (some ⟨w1.heap.size,0,none⟩)],⟨P,hP.keep hk (fun k hk hz=>?_) (hP.tbl.below hb4)⟩,fun hz=>?_,fun k hz=>?_,Aa0 hb3 hb4⟩
 ·rcases hz with hz|hz
  ·exact hP.low k hk hz.1
  ·have:=hP.tbl.1
   omega
 ·rcases hz with hz|hz
  ·have:=hz.2
   omega
  ·omega
 ·rcases hz with hz|hz
  ·exact hz.1
  ·omega
def newH (r c b:Nat):Hst:=⟨Utf.zero,Prs.start,newT r c b,[]⟩
theorem hnew_fin {T:Ter} {dp:Nat} (hT:Tbl W) (hbW:Below W.heap.size W w) (ok:Ok T) (hd:w.heap.size<=d) (hbk:Block w1 d 150 #[.pointer (some ⟨t,0,none⟩)]) (hz:∀ k,Z k->w.heap.size<=k) (hnd:¬ Z d) (hTM:TM Z w1 t T) (hb1:Below w.heap.size w w1) (hdec:Utf.DecIn w2 w1.heap.size Utf.zero) (ho:Only [] w1 w2) (hdp:w2.heap.size=dp) :
  HB (fun k=>w.heap.size<=k) W (((w2.alloc (.cells (Prs.parL Prs.start (.slice none 0 0)).toArray 160)).alloc (.cells #[.pointer (some ⟨w1.heap.size,0,none⟩),.pointer (some ⟨dp,0,none⟩),.pointer (some ⟨d,0,none⟩),.slice none 0 0] 103)).alloc (.cells #[.pointer (some ⟨dp+1,0,none⟩)] 88)) (dp+2) ⟨Utf.zero,Prs.start,T,[]⟩ /\
   Below w.heap.size w (((w2.alloc (.cells (Prs.parL Prs.start (.slice none 0 0)).toArray 160)).alloc (.cells #[.pointer (some ⟨w1.heap.size,0,none⟩),.pointer (some ⟨dp,0,none⟩),.pointer (some ⟨d,0,none⟩),.slice none 0 0] 103)).alloc (.cells #[.pointer (some ⟨dp+1,0,none⟩)] 88)):=by
 subst hdp
 have hb2:Below w1.heap.size w1 w2:=ho.nil
 have hlt2:=hdec.lt
 have hd1:=Block.lt hbk
 have hs1:=hb1.size
 have hsW:=hbW.size
 have m3:=Block.made w2 160 (Prs.parL Prs.start (.slice none 0 0)).toArray
 have b3:=Aa1 w2 (.cells (Prs.parL Prs.start (.slice none 0 0)).toArray 160)
 have s3:(w2.alloc (.cells (Prs.parL Prs.start (.slice none 0 0)).toArray 160)).heap.size=w2.heap.size+1:=by simp
 generalize w2.alloc (.cells (Prs.parL Prs.start (.slice none 0 0)).toArray 160)=w3 at *
 have m4:=Block.made w3 103 #[.pointer (some ⟨w1.heap.size,0,none⟩),.pointer (some ⟨w2.heap.size,0,none⟩),.pointer (some ⟨d,0,none⟩),.slice none 0 0]
 have b4:=Aa1 w3 (.cells #[.pointer (some ⟨w1.heap.size,0,none⟩),.pointer (some ⟨w2.heap.size,0,none⟩),.pointer (some ⟨d,0,none⟩),.slice none 0 0] 103)
 have s4:(w3.alloc (.cells #[.pointer (some ⟨w1.heap.size,0,none⟩),.pointer (some ⟨w2.heap.size,0,none⟩),.pointer (some ⟨d,0,none⟩),.slice none 0 0] 103)).heap.size=w2.heap.size+2:=by simp [s3]
 generalize w3.alloc (.cells #[.pointer (some ⟨w1.heap.size,0,none⟩),.pointer (some ⟨w2.heap.size,0,none⟩),.pointer (some ⟨d,0,none⟩),.slice none 0 0] 103)=w4 at *
 have m5:=Block.made w4 88 #[.pointer (some ⟨w2.heap.size+1,0,none⟩)]
 have b5:=Aa1 w4 (.cells #[.pointer (some ⟨w2.heap.size+1,0,none⟩)] 88)
 have s5:(w4.alloc (.cells #[.pointer (some ⟨w2.heap.size+1,0,none⟩)] 88)).heap.size=w2.heap.size+3:=by simp [s4]
 generalize w4.alloc (.cells #[.pointer (some ⟨w2.heap.size+1,0,none⟩)] 88)=w5 at *
 rw [s3] at m4
 rw [s4] at m5
 have h25:=Aa0 (Aa0 b3 b4) b5
 have h15:=Aa0 hb2 h25
 have hTZ:TZ Z W w1 d t T:=⟨⟨hbk,hTM⟩,ok,Aa0 hbW hb1,fun k hk hz'=>by have:=hz k hz';omega⟩
 have hTZ5:TZ (re Z w1 w5) W w5 d t T:=TZ.re hTZ (Hf.of_below (fun _=>False) h15) (fun _ _ _ h=>h) (fun h=>h) (fun _ _ h=>h) hT.1
 have keep:∀ {a b:World} {k:Nat} {ty:TypeId} {cs:Array Value},Block a k ty cs->Below a.heap.size a b->Block b k ty cs:=fun hb hbl=>Block.only hb (Only.of_below hbl []) (by simp)
 refine ⟨⟨re Z w1 w5,⟨w2.heap.size+1,w1.heap.size,w2.heap.size,d,t,.slice none 0 0,.slice none 0 0⟩,⟨m5,keep m4 b5,keep hdec h25,⟨keep m3 (Aa0 b4 b5),Own.nil _ _ _ _,by show W.heap.size<=w2.heap.size;omega⟩,Kys.Row.nil _ _ _,hTZ5,fun k hk hz'=>?_,⟨by omega,by show W.heap.size<=w2.heap.size+1;omega,by show W.heap.size<=w1.heap.size;omega,by show W.heap.size<=d;omega⟩,hT.1⟩,fun k hk=>?_⟩,Aa0 hb1 h15⟩
 ·have h1:k<w5.heap.size/\(k=d\/w1.heap.size<=k):=by
   rcases hk with hk|hk|hk|hk|hk|hk|hk
   ·omega
   ·have hk:k=w2.heap.size+1:=hk
    omega
   ·have hk:k=w1.heap.size:=hk
    omega
   ·have hk:k=w2.heap.size:=hk
    omega
   ·have hk:k=d:=hk
    omega
   ·cases hk
   ·cases hk
  rcases hz' with hz'|hz'
  ·rcases h1.2 with e|e
   ·subst e;exact hnd hz'.1
   ·omega
  ·omega
 ·rcases hk with hk|hk
  ·rcases hk with hk|hk
   ·exact hz k hk.1
   ·show w.heap.size<=k
    have:=h15.size
    omega
  ·show w.heap.size<=k
   rcases hk with hk|hk|hk|hk|hk|hk|hk
   ·omega
   ·have hk:k=w2.heap.size+1:=hk
    omega
   ·have hk:k=w1.heap.size:=hk
    omega
   ·have hk:k=w2.heap.size:=hk
    omega
   ·have hk:k=d:=hk
    omega
   ·cases hk
   ·cases hk
theorem hnew_yes (hT:Tbl W) (hbW:Below W.heap.size W w) (r c b:Nat) (hr1:1<=r) (hr5:r<=512) (hc1:1<=c) (hc5:c<=512) (hb5:b<=10000):Calls Tryz.prog 9 #[.int .i64 r,.int .i64 c,.int .i64 b] w fun e w'=>∃ h,e=.returned (.tuple #[.pointer (some ⟨h,0,none⟩),.int .i64 0])/\HB (fun k=>w.heap.size<=k) W w' h (newH r c b)/\Below w.heap.size w w':=by
 have hn:=J0 (tnew_z (hT.below hbW) r c b hr1 hr5 hc1 hc5 hb5)
 have hun:=fun w1=>J0 (Utf.new_any w1)
 have hpn:=fun w1=>J0 (Prs.new_any w1)
 have hok:=Cn8 r c b hr1 hr5 hc1 hc5
 unfold newH
 generalize newT r c b=T at hn hok |-
 have hfin:=J0 (fun w1 w2 Z d t (h1:w.heap.size<=d) h2 h3 h4 h5 h6 h7 h8=>hnew_fin (w1:=w1) (w2:=w2) (Z:=Z) (d:=d) (t:=t) (dp:=w2.heap.size) hT hbW hok h1 h2 h3 h4 h5 h6 h7 h8 rfl)
 clear hT hbW hok
 go_enter Tryz.func9,Tryz.ntmps9
 go_wp2_with (first
  |(go_at_call 36;(with_reducible refine (hn.out).mono ?_);rintro e w1 ⟨d,t,Z,rfl,h1,h2,h3,h4,h5,h6⟩)
  |(go_at_call 37;(with_reducible refine ((hun _).out).mono ?_);rintro e w2 ⟨rfl,h7,h8⟩)
  |(go_at_call 38;(with_reducible refine ((hpn _).out).mono ?_);rintro e w3 ⟨rfl,rfl⟩))
 go_ret2
 have hF:=hfin.out w1 w2 Z d t h1 h2 h5 h4 h3 h6 h7 h8
 exact ⟨_,rfl,hF.1,hF.2⟩
end
end Go.Proofs.YtbafmljidapmgaaGreatDoor.Hos
namespace Go.Proofs.YtbafmljidapmgaaGreatDoor.Emu
open Go RowKit Com Rw Lns Scn
section
variable {W w w':World}
theorem new_not (_:Tbl W) (r c b:Int) (h:¬ (Bf4 r c/\0<=b/\b<=10000)):Calls Tryz.prog 36 #[.int .i64 r,.int .i64 c,.int .i64 b] W fun e w'=>e=.returned (.tuple #[.pointer none,.int .i64 2])/\Below W.heap.size W w':=by
 by_cases hb:0<=b/\b<=10000
 ·obtain ⟨b,rfl⟩:=Int.eq_ofNat_of_zero_le hb.1
  refine tnew_size r c b (by omega) ?_ W
  by_cases h1:1<=r/\r<=512
  ·exact .inr fun h2=>h ⟨⟨h1,h2⟩,hb⟩
  ·exact .inl h1
 ·exact tnew_back r c b (by omega) W
end
section
variable {W w w':World}
theorem row_text {a:Option Addr} {n c:Nat} {l:List Int} (h:Kys.Row w 0 5 (.slice a n c) l):(convert 32 9 (.slice a n c)).run Tryz.prog w=.ok (.string (strOfNums l)) w:=by
 obtain ⟨a',c',e,_,_,hn⟩:=h.shape
 rw [e]
 exact Kys.text_of hn c'
end
