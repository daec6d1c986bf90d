package tests

import (
	"fmt"
	"math/rand"
	"regexp"
	"slices"
	"strconv"
	"strings"
	"sync"
	"testing"

	"loop.example/g00226/impl"
)

// scriptForm: the lines of the chapter's table, with one blank between two words.
var scriptForm = regexp.MustCompile(strings.NewReplacer("N", "(?:0|[1-9][0-9]{0,5})", "K", "[a-z0-9]{1,12}").Replace(
	`^(?:(?:log|sync) N N(?: K(?:=K)?){1,12}|(?:save|open)(?: N)?|crash N N|files|root|all|prove K)$`))

var scriptBlanks = regexp.MustCompile(`\x20+`)

// plainScript: by the document's words, on what the tests of the journal have.
func plainScript(t *testing.T, text string) string {
	t.Helper()
	if len(text) > 4000 || strings.Count(text, "\n") > 40 || text != "" && text[len(text)-1] != '\n' {
		return "too long\n"
	}
	said := ""
	d := impl.Disk{}
	for line := range strings.SplitSeq(text, "\n") {
		line = scriptBlanks.ReplaceAllString(strings.Trim(line, "\x20"), "\x20")
		if line == "" {
			continue
		}
		says := "what"
		if scriptForm.MatchString(line) {
			d, says = plainLine(t, d, strings.Split(line, "\x20"))
		}
		said += says + "\n"
	}
	return said
}

// plainLine wants the words of a line of the table.
func plainLine(t *testing.T, d impl.Disk, words []string) (impl.Disk, string) {
	t.Helper()
	number := func(word string) int64 {
		n, err := strconv.Atoi(word)
		if err != nil {
			t.Fatal(err)
		}
		return int64(n)
	}
	a := impl.Act{Power: -1}
	switch words[0] {
	case "log", "sync":
		a.Kind, a.Sync = impl.AcLog, words[0] == "sync"
		a.Batch = impl.Batch{Client: number(words[1]), Number: number(words[2])}
		for _, word := range words[3:] {
			key, value, put := strings.Cut(word, "=")
			a.Batch.Ops = append(a.Batch.Ops, impl.Op{Key: key, Value: value, Cut: !put})
		}
	case "save", "open":
		a.Kind = map[string]int64{"save": impl.AcSave, "open": impl.AcOpen}[words[0]]
		if len(words) > 1 {
			a.Power = number(words[1])
		}
	case "crash":
		a.Kind, a.Torn = impl.AcCrash, number(words[2])
		a.Keep = places(int(min(number(words[1]), int64(len(d.Ops)))))
	default:
		return d, plainAsked(t, d, words)
	}
	d, code := plainAct(t, d, a)
	if code != impl.StOk {
		return d, fmt.Sprint("no ", code)
	}
	return d, "ok"
}

func plainAsked(t *testing.T, d impl.Disk, words []string) string {
	t.Helper()
	if words[0] == "files" {
		said := "files"
		for _, f := range d.Live {
			said += " " + f.Name
		}
		return said
	}
	r, _, broken := plainView(t, d)
	if broken {
		return "no 2"
	}
	pairs, _ := impl.ReplicaPairs(r)
	switch words[0] {
	case "root":
		return fmt.Sprintf("root %d %x", r.Index, r.Root[:4])
	case "all":
		said := "all"
		for _, p := range pairs {
			said += " " + p.Key + "=" + p.Value
		}
		return said
	}
	key := words[1]
	var way []string
	if len(pairs) > 0 {
		way = plainWay(t, r.Store, r.Root, key)
	}
	says := "absent"
	if value := valueIn(pairs, key); value != "" {
		says = "has " + value
	}
	return fmt.Sprintf("%s by %d of %d", says, len(way), len(strings.Join(way, "")))
}

func shownScript(text string) string { return fmt.Sprintf("%.300q (%d bytes)", text, len(text)) }

// wantScript asks twice, with another script between; from an empty disk on no disk is full, torn or broken.
func wantScript(t *testing.T, why, text, want string) {
	t.Helper()
	got := impl.RunScript(text)
	impl.RunScript("sync 9 9 between=calls\n")
	if again := impl.RunScript(text); again != got {
		t.Errorf("RunScript, %s: of %s: %q, then %q", why, shownScript(text), got, again)
	}
	if got != want {
		t.Errorf("RunScript, %s: of %s: %.300q; want %.300q", why, shownScript(text), got, want)
	}
	for _, never := range []int{impl.StDisk, impl.StBad, impl.StFull, impl.StTorn} {
		if strings.Contains("\n"+got, fmt.Sprintf("\nno %d\n", never)) {
			t.Errorf("RunScript, %s: of %s: %.300q", why, shownScript(text), got)
		}
	}
}

func wantPlainScript(t *testing.T, why, text string) string {
	t.Helper()
	want := plainScript(t, text)
	wantScript(t, why, text, want)
	return want
}

// wantLine: what one line says on an empty disk, and that it changes nothing when it is none.
func wantLine(t *testing.T, why, line, want string) {
	t.Helper()
	wantScript(t, why, line+"\n", want+"\n")
	const ahead, asked = "sync 1 1 a=1\nlog 1 2 b=2\nsave 2\nlog 2 1 c=3\n", "files\nroot\nall\nprove b\nsave 1\ncrash 9 9\nroot\n"
	if want == "what" {
		plain := impl.RunScript(ahead + asked)
		said := impl.RunScript(ahead)
		wantScript(t, why, ahead+line+"\n"+asked, said+"what\n"+strings.TrimPrefix(plain, said))
	}
}

// The roots, and how many texts and bytes a proof has, were worked out apart from the program.
func TestKnownScripts(t *testing.T) {
	for _, c := range [][2]string{
		{"root\nall\nfiles\nprove a\nprove abcdefghijkl\nlog 1 1 a=1\nroot\nfiles\n",
			"root 0 76be8b52\nall\nfiles\nabsent by 0 of 0\nabsent by 0 of 0\nok\nroot 1 92306af8\nfiles log\n"},
		{"sync 7 1 dog=puppy do=verb\nroot\nlog 3 5 doge=coin horse=stallion\nroot\nall\nprove dog\nprove do\nprove doge\nprove horse\nprove d\nprove dogs\nprove cat\nprove z\nprove horses\nprove 0\n",
			"ok\nroot 1 b804ed1e\nok\nroot 2 116e1645\nall do=verb dog=puppy doge=coin horse=stallion\nhas puppy by 6 of 299\nhas verb by 4 of 209\nhas coin by 7 of 306\nhas stallion by 3 of 134\nabsent by 3 of 155\nabsent by 6 of 299\nabsent by 2 of 118\nabsent by 1 of 35\nabsent by 3 of 134\nabsent by 1 of 35\n"},
		{"log 1 1 a=1 b=2 c=3\nlog 1 2 b\nall\nroot\nlog 1 3 a c\nall\nroot\nprove a\nlog 1 4 nothere\nroot\nlog 1 4 a=9\nroot\nlog 1 3 a=9\nroot\nall\n",
			"ok\nok\nall a=1 c=3\nroot 2 cb1561aa\nok\nall\nroot 3 76be8b52\nabsent by 0 of 0\nok\nroot 4 76be8b52\nok\nroot 5 76be8b52\nok\nroot 6 76be8b52\nall\n"},
		{"log 1 1 a=1 a=2 a a=3\nall\nlog 1 2 a=4 a\nall\nroot\nprove a\n",
			"ok\nall a=3\nok\nall\nroot 2 76be8b52\nabsent by 0 of 0\n"},
		{"log 999999 999999 abcdefghijkl=abcdefghijkl\nprove abcdefghijkl\nprove abcdefghijk\nroot\nall\nlog 999999 999999 a=1\nroot\n",
			"ok\nhas abcdefghijkl by 1 of 28\nabsent by 1 of 28\nroot 1 acd02c54\nall abcdefghijkl=abcdefghijkl\nok\nroot 2 acd02c54\n"},
		{"sync 1 1 a=1\nlog 1 2 a=2\nlog 1 3 b=3\ncrash 1 12\nfiles\nroot\nall\nlog 1 4 c=4\nfiles\ncrash 5 0\nroot\nfiles\nlog 1 5 c=5\ncrash 1 999999\nroot\nall\nfiles\n",
			"ok\nok\nok\nok\nfiles base\nroot 1 92306af8\nall a=1\nok\nfiles base log\nok\nroot 1 92306af8\nfiles base log\nok\nok\nroot 2 76a69892\nall a=1 c=5\nfiles base log\n"},
		{"log 1 1 a=1\nsave 2\nfiles\ncrash 1 5\nfiles\nroot\nsave 3\nfiles\nlog 1 2 b=2\ncrash 1 999999\nfiles\nroot\nsave\nfiles\nroot\nprove a\n",
			"ok\nno 5\nfiles base.new log\nok\nfiles base.new log\nroot 1 92306af8\nno 5\nfiles log\nok\nok\nfiles log\nroot 2 f9443eb4\nok\nfiles base\nroot 2 f9443eb4\nhas 1 by 3 of 121\n"},
		{"log 1 1 k1=1 k2=2\nlog 2 1 k3=3\nlog 3 1 k4=4\nlog 4 1 k5=5\nlog 5 1 k6=6\nlog 6 1 k7=7\nroot\nlog 7 1 k8=8\nroot\nprove k8\nlog 6 2 k8=8\nroot\nprove k8\nprove k1\nall\n",
			"ok\nok\nok\nok\nok\nok\nroot 6 43bde564\nok\nroot 7 43bde564\nabsent by 2 of 280\nok\nroot 8 e9011412\nhas 8 by 3 of 316\nhas 1 by 3 of 316\nall k1=1 k2=2 k3=3 k4=4 k5=5 k6=6 k7=7 k8=8\n"},
		{"log 0 1 a=1\nlog 1 0 a=1\nsync 0 0 a=1\nroot\nfiles\nlog 1 1 a=1\nsync 0 5 a\nroot\nfiles\n",
			"no 3\nno 3\nno 3\nroot 0 76be8b52\nfiles\nok\nno 3\nroot 1 92306af8\nfiles log\n"},
	} {
		wantScript(t, "known", c[0], c[1])
		if plain := plainScript(t, c[0]); plain != c[1] {
			t.Errorf("plainScript of %s: %q", shownScript(c[0]), plain)
		}
	}
}

func TestLengthOfScripts(t *testing.T) {
	const empty, tooLong = "root 0 76be8b52\n", "too long\n"
	long := func(text string, bytes int) string { return strings.Repeat(" ", bytes-len(text)) + text }
	for _, c := range []struct{ why, text, want string }{
		{"no text", "", ""}, {"a line feed", "\n", ""}, {"line feeds", "\n\n\n", ""}, {"blanks", "   \n \n", ""}, {"empty lines among others", "\n\nroot\n\n  \nall\n\n", empty + "all\n"},
		{"40 lines", strings.Repeat("root\n", 40), strings.Repeat(empty, 40)}, {"41 lines", strings.Repeat("root\n", 41), tooLong}, {"many lines", strings.Repeat("root\n", 300), tooLong}, {"40 lines and one that is not ended", strings.Repeat("root\n", 40) + "root", tooLong},
		{"40 empty lines", strings.Repeat("\n", 40), ""}, {"41 empty lines", strings.Repeat("\n", 41), tooLong}, {"40 lines of blanks", strings.Repeat(" \n", 40), ""}, {"41 lines of blanks", strings.Repeat(" \n", 41), tooLong},
		{"one line and 39 of blanks", "root\n" + strings.Repeat(" \n", 39), empty}, {"one line and 40 of blanks", "root\n" + strings.Repeat(" \n", 40), tooLong}, {"40 of blanks and one line", strings.Repeat("\n", 40) + "root\n", tooLong}, {"39 of blanks and one line", strings.Repeat("\n", 39) + "root\n", empty},
		{"40 lines that are none", strings.Repeat("fly\n", 40), strings.Repeat("what\n", 40)}, {"41 lines that are none", strings.Repeat("fly\n", 41), tooLong},
		{"3999 bytes", long("root\n", 3999), empty}, {"4000 bytes", long("root\n", 4000), empty}, {"4001 bytes", long("root\n", 4001), tooLong}, {"many bytes", long("root\n", 100000), tooLong}, {"4000 bytes of blanks", long("\n", 4000), ""}, {"4001 bytes of blanks", long("\n", 4001), tooLong},
		{"4000 bytes in a word", strings.Repeat("a", 3999) + "\n", "what\n"}, {"4001 bytes in a word", strings.Repeat("a", 4000) + "\n", tooLong}, {"4000 bytes in 40 lines", strings.Repeat(long("root\n", 100), 40), strings.Repeat(empty, 40)}, {"4001 bytes in 40 lines", " " + strings.Repeat(long("root\n", 100), 40), tooLong},
		{"4001 bytes, the last of them a blank line", strings.Repeat(long("root\n", 100), 39) + long("root\n", 99) + " \n", tooLong}, {"4000 bytes and 41 lines", strings.Repeat(long("root\n", 100), 39) + long("root\n", 99) + "\n", tooLong},
		{"not ended", "root", tooLong}, {"one that is not ended behind others", "root\nall\nroot", tooLong}, {"blanks that are not ended", "root\n ", tooLong}, {"a blank alone", " ", tooLong}, {"a carriage return at the end", "root\r", tooLong}, {"a carriage return behind the line feed", "root\n\r", tooLong}, {"a nought behind the line feed", "root\n\x00", tooLong}, {"what was done ahead is not told", "sync 1 1 a=1\nroot\nfiles", tooLong},
		{"4000 bytes, not ended", long("root", 4000), tooLong},
	} {
		wantScript(t, c.why, c.text, c.want)
		if plain := plainScript(t, c.text); plain != c.want {
			t.Errorf("plainScript, %s: %.100q", c.why, plain)
		}
	}
	// Each limit, line by line and byte by byte.
	for n := range 44 {
		want := strings.Repeat("what\n", n)
		if n > impl.MaxScript {
			want = tooLong
		}
		wantScript(t, "lines", strings.Repeat("x\n", n), want)
	}
	for n := 3990; n < 4010; n++ {
		want := empty
		if n > impl.MaxLines {
			want = tooLong
		}
		wantScript(t, "bytes", "root"+strings.Repeat(" ", n-5)+"\n", want)
	}
}

func TestBlanksPartWords(t *testing.T) {
	for _, line := range []string{"log 1 1 a=1 b", " log 1 1 a=1 b", "log 1 1 a=1 b ", "    log 1 1 a=1 b     ", "log  1   1     a=1  b", "  log  1  1  a=1  b  "} {
		wantScript(t, "blanks", line+"\nall\n", "ok\nall a=1\n")
	}
	for _, line := range []string{"crash 1 3", "save 9", "open", "open 0", "sync 1 1 a"} {
		wantLine(t, "blanks", "  "+strings.ReplaceAll(line, " ", "   ")+"  ", "ok")
	}
	for _, other := range []string{"\t", "\r", "\v", "\f", "\x00", "\x1f", "\x21", "\x7f", "\xa0", "\x85", "\u00a0", "\u0085", "\u2003", "\u2028", "\u3000", "\ufeff", "\xff", ",", ";"} {
		for _, line := range []string{"root" + other, other + "root", other, other + " root", "root " + other, "prove" + other + "a", "prove a" + other, "prove " + other + "a", "log" + other + "1 1 a=1", "log 1" + other + "1 a=1", "log 1 1" + other + "a=1", "log 1 1 a=1" + other + "b=2", "log 1 1 a=1" + other, "log 1 1 a" + other + "=1", "save" + other, "save 1" + other, "save" + other + "1", "crash 1" + other + "1", "files" + other, "all" + other} {
			wantLine(t, "a byte that is no blank", line, "what")
		}
	}
	wantScript(t, "carriage returns", "root\r\nsync 1 1 a=1\r\nall\r\n\r\n", "what\nwhat\nwhat\nwhat\n")
	wantScript(t, "a blank ahead of a carriage return", "sync 1 1 a=1 \r\nsave \r\nall\n", "what\nwhat\nall\n")
}

func TestLinesThatAreNone(t *testing.T) {
	for _, line := range []string{
		"fly", "what", "ok", "no", "no 5", "l", "lo", "logs", "loga", "1", "0", "a", "a=1", "=", "#", "\"root\"", "-", "log1", "synced", "saves", "crashes", "file", "roots", "alls", "proves", "proof a", "import a", "help",
		"LOG 1 1 a=1", "Log 1 1 a=1", "lOG 1 1 a=1", "SYNC 1 1 a=1", "Sync 1 1 a=1", "SAVE", "Save", "Save 1", "OPEN", "Open", "CRASH 0 0", "Crash 0 0", "FILES", "Files", "ROOT", "Root", "ALL", "All", "PROVE a", "Prove a",
		"log", "log 1", "log 1 1", "log a=1", "log 1 a=1", "log a=1 1 1", "log 1 a=1 1", "log 1 1 1 a= ", "sync", "sync 1", "sync 1 1", "sync a=1", "sync 1 a=1",
		"save x", "save 1 2", "save 1 x", "save save", "save a=1", "save -1", "open x", "open 1 2", "open open", "open a", "open -1",
		"crash", "crash 1", "crash 1 2 3", "crash x 1", "crash 1 x", "crash a=1 1", "crash -1 0", "crash 0 -1", "crash 0 0 0",
		"files x", "files 1", "files files", "root x", "root 1", "root root", "all x", "all 1", "all all",
		"prove", "prove a b", "prove a=b", "prove a=", "prove =a", "prove =", "prove A", "prove a-b", "prove a.b", "prove abcdefghijklm", "prove a 1",
	} {
		wantLine(t, "none", line, "what")
	}
	// Each line of the table, with each of its words left out, doubled, put in capitals or told behind it.
	for _, line := range []string{"log 1 1 a=1", "sync 1 1 a=1", "save", "save 3", "open", "open 3", "crash 1 1", "files", "root", "all", "prove a"} {
		words := strings.Fields(line)
		wantPlainScript(t, "of the table", line+"\n")
		for i := range words {
			wantPlainScript(t, "a word less", strings.Join(slices.Delete(slices.Clone(words), i, i+1), " ")+"\n")
			wantPlainScript(t, "a word twice", strings.Join(slices.Insert(slices.Clone(words), i, words[i]), " ")+"\n")
			capitals := slices.Clone(words)
			capitals[i] = strings.ToUpper(words[i])
			wantPlainScript(t, "capitals", strings.Join(capitals, " ")+"\n")
			for _, more := range []string{"0", "x", "a=1", "!", "A", "log"} {
				wantPlainScript(t, "a word more", strings.Join(slices.Insert(slices.Clone(words), i+1, more), " ")+"\n")
			}
		}
	}
}

func TestNumbersInScripts(t *testing.T) {
	right := []string{"0", "1", "7", "9", "10", "12", "99", "100", "1000", "12345", "99999", "100000", "999999"}
	wrong := []string{"1000000", "9999999", "1000000000000", "9223372036854775807", "9223372036854775808", "18446744073709551617", "00", "01", "07", "000000", "000001", "0000001", "0999999", "-1", "-0", "+1", "+0", "--1", "1-", "1.0", "1,0", "1e3", "0x1", "0b1", "0o1", "1_0", "1_000", "x", "a1", "1a", "=1", "1=", "1=1", "\u0661", "\uff11", "\x00", "\x001", "1\x00", "NaN", "Inf"}
	for _, n := range right {
		said := "ok"
		if n == "0" {
			said = "no 3"
		}
		for _, line := range []string{"log " + n + " 1 a=1", "log 1 " + n + " a=1", "sync " + n + " 1 a=1", "sync 1 " + n + " a=1"} {
			wantLine(t, "a Client or a Number", line, said)
		}
		power := "ok"
		if len(n) == 1 && n < "4" {
			power = "no 5"
		}
		wantLine(t, "the power of a save", "save "+n, power)
		wantLine(t, "the power of an open", "open "+n, "ok")
		wantLine(t, "the ops that a crash keeps", "crash "+n+" 1", "ok")
		wantLine(t, "the bytes that a crash keeps", "crash 1 "+n, "ok")
	}
	for _, n := range wrong {
		for _, line := range []string{"log N 1 a=1", "log 1 N a=1", "log N N a=1", "sync N 1 a=1", "sync 1 N a=1", "log 0 N a=1", "log N 0 a=1", "save N", "open N", "crash N 1", "crash 1 N", "crash N N"} {
			wantLine(t, "no number", strings.ReplaceAll(line, "N", n), "what")
		}
	}
	// Clients and numbers come through as they are.
	for _, n := range []int64{1, 6, 255, 256, 999998} {
		text := fmt.Sprintf("log %d 5 a=1\nlog %d 5 a=2\nlog %d 6 a=3\nlog 7 %d b=1\nlog 7 %d b=2\nlog 7 %d b=3\nall\n", n, n+1, n, n, n, n+1)
		wantScript(t, "numbers", text, strings.Repeat("ok\n", 6)+"all a=3 b=3\n")
	}
}

func TestNamesInScripts(t *testing.T) {
	const letters = "abcdefghijklmnopqrstuvwxyz0123456789"
	for n := 1; n <= 14; n++ {
		name := letters[len(letters)-n:]
		all, absent := "ok\nall "+name+"="+name+"\n", "absent by 0 of 0"
		if n > impl.MaxKey {
			all, absent = "what\nall\n", "what"
		}
		wantScript(t, "length of names", "log 1 1 "+name+"="+name+"\nall\n", all)
		wantScript(t, "length of keys", "log 1 1 "+name+"=1\nall\n", strings.Replace(all, "="+name, "=1", 1))
		wantScript(t, "length of values", "log 1 1 k="+name+"\nall\n", strings.Replace(all, name+"=", "k=", 1))
		wantScript(t, "length of keys that are cut", "log 1 1 "+name+"\nall\n", strings.Split(all, "\n")[0]+"\nall\n")
		wantLine(t, "length of keys that are asked", "prove "+name, absent)
	}
	for b := range 256 {
		c := oneByte(b)
		if c == " " || c == "\n" || c == "=" {
			continue
		}
		for _, name := range []string{c, c + "a", "a" + c, "a" + c + "z"} {
			done, all, absent := "what\n", "all\n", "what\n"
			if strings.Contains(letters, c) {
				done, all, absent = "ok\n", "all K=V\n", "absent by 0 of 0\n"
			}
			told := func(key, value string) string {
				return done + strings.NewReplacer("K", key, "V", value).Replace(all)
			}
			wantScript(t, "a key", "log 1 1 "+name+"=1\nall\n", told(name, "1"))
			wantScript(t, "a value", "log 1 1 k="+name+"\nall\n", told("k", name))
			wantScript(t, "a key that is cut", "log 1 1 "+name+"\nall\n", done+"all\n")
			wantScript(t, "a key behind others", "log 1 1 x=1 x "+name+"=1\nall\n", told(name, "1"))
			wantScript(t, "a key that is asked", "prove "+name+"\n", absent)
		}
	}
}

func TestOpsInScripts(t *testing.T) {
	for _, op := range []string{"=", "==", "a=", "=a", "=1", "a==1", "a=1=", "=a=1", "a=1=2", "a=b=c", "a==", "==a", "a=1,b=2", "a:1", "a=\"1\"", "a=A", "A=a", "A", "a-", "-a", "a=-1", "a=1.5", "abcdefghijklm", "abcdefghijklm=1", "a=abcdefghijklm", "a=\u00e9", "\u00e9=a"} {
		for _, line := range []string{"log 1 1 OP", "sync 1 1 OP", "log 1 1 OP b=2", "log 1 1 b=2 OP", "sync 1 1 b=2 OP c=3", "log 0 0 OP", "log 1 1 b OP"} {
			wantLine(t, "no op", strings.Replace(line, "OP", op, 1), "what")
		}
	}
	wantScript(t, "blanks beside the sign", "log 1 1 a =1\nlog 1 1 a= 1\nlog 1 1 a = 1\nall\n", "what\nwhat\nwhat\nall\n")
	wantScript(t, "names of digits", "log 1 1 1=2 0 007=00\nall\nlog 1 2 1 0=1\nall\n", "ok\nall 007=00 1=2\nok\nall 0=1 007=00\n")
	wantScript(t, "words of the table as names", "log 1 1 log=sync save open=crash\nall\nprove log\n", "ok\nall log=sync open=crash\nhas sync by 3 of 128\n")
	for _, word := range []string{"log", "sync"} {
		for n := range 15 {
			var puts, cuts []string
			for i := range n {
				puts = append(puts, fmt.Sprintf("k%02d=v%d", i, i))
				cuts = append(cuts, fmt.Sprintf("k%02d", i))
			}
			all, said := "all", "ok\n"
			if n == 0 || n > impl.MaxBatch {
				said = "what\n"
			} else {
				all += " " + strings.Join(puts, " ")
			}
			head := word + " 1 1 "
			wantScript(t, "how many ops", head+strings.Join(puts, " ")+"\nall\n", said+all+"\n")
			wantScript(t, "how many ops that cut", strings.Replace(head, "1 1", "1 2", 1)+strings.Join(cuts, " ")+"\nall\n", said+"all\n")
			wantPlainScript(t, "ops by turns", head+strings.Join(puts, " ")+"\n"+word+" 1 2 "+strings.Join(cuts[:n/2], " ")+"\nall\nroot\n")
		}
	}
}

// What Applied refuses is logged all the same: the index goes on, the pairs stay.
func TestFullReplicasInScripts(t *testing.T) {
	text, want := "", ""
	for i := range 5 {
		text += fmt.Sprintf("log 1 %d", i+1)
		for k := range 12 {
			text += fmt.Sprintf(" k%02d=v", 12*i+k)
		}
		text += "\n"
		want += "ok\n"
	}
	wantScript(t, "60 pairs", text+"root\nprove k59\n", want+"root 5 d9a6e631\nhas v by 5 of 626\n")
	wantScript(t, "61 pairs", text+"log 1 6 k60=v\nroot\nprove k60\n", want+"ok\nroot 6 d9a6e631\nabsent by 2 of 248\n")
	wantScript(t, "60 pairs, one put and one cut", text+"log 1 6 k60=v k00\nprove k60\nprove k00\n", want+"ok\nhas v by 3 of 285\nabsent by 4 of 623\n")
	for _, c := range []string{"log 1 6 k60=v\n", "log 1 6 k60=v k00\nall\n", "log 1 6 k60=v\nsave\nlog 1 6 k00\nall\n", "save\nfiles\nlog 1 6 k00=w\nprove k00\nroot\n", "save 2\ncrash 1 700\nsave 6\nfiles\nroot\n", "log 1 6 k00\ncrash 9 15\nroot\nall\n"} {
		wantPlainScript(t, "60 pairs", text+c)
	}
}

// saveSteps: what is seen behind each number of steps of a save, and what is left of that when power is lost.
type saveSteps struct {
	why, ahead string
	seen, left []string
}

func TestPowerInScripts(t *testing.T) {
	for _, c := range []saveSteps{
		{"an empty disk", "", []string{"", "", " base.new", " base", " base"}, []string{"", "", "", "", " base"}},
		{"a log", "log 1 1 a=1\n", []string{" log", " log", " base.new log", " base log", " base log", " base", " base"}, []string{"", " log", " log", " log", " base log", " base log", " base"}},
		{"a base", "log 1 1 a=1\nsave\n", []string{" base", " base", " base base.new", " base", " base"}, []string{" base", " base", " base", " base", " base"}},
		{"base.new and a log", "sync 1 1 a=1\nsave 2\ncrash 1 15\n", []string{" base.new log", " base.new log", " log", " log", " base.new log", " base log", " base log", " base", " base"}, []string{" base.new log", " base.new log", " base.new log", " log", " log", " log", " base log", " base log", " base"}},
	} {
		ahead := plainScript(t, c.ahead)
		steps := len(c.seen) - 1
		index := min(1, len(c.ahead))
		for power := range steps + 3 {
			said := "no 5\n"
			if power >= steps {
				said = "ok\n"
			}
			at := min(power, steps)
			text := fmt.Sprintf("%ssave %d\n", c.ahead, power)
			wantScript(t, "save, "+c.why, text+"files\n", ahead+said+"files"+c.seen[at]+"\n")
			wantScript(t, "save and crash, "+c.why, text+"crash 0 0\nfiles\n", ahead+said+"ok\nfiles"+c.left[at]+"\n")
			wantScript(t, "all kept, "+c.why, text+"crash 9 999999\nfiles\n", ahead+said+"ok\nfiles"+c.seen[at]+"\n")
			if !strings.Contains(impl.RunScript(text+"root\n"), fmt.Sprintf("root %d ", index)) {
				t.Errorf("save %d, %s: %q", power, c.why, impl.RunScript(text+"root\n"))
			}
			// The log is good, so there is nothing to do.
			wantScript(t, "open, "+c.why, fmt.Sprintf("%sopen %d\nfiles\n", c.ahead, power), ahead+"ok\nfiles"+c.seen[0]+"\n")
			wantScript(t, "open behind a save, "+c.why, fmt.Sprintf("%sopen %d\nfiles\n", text, power), ahead+said+"ok\nfiles"+c.seen[at]+"\n")
		}
		for _, line := range []string{"save\n", "save 999999\n"} {
			wantScript(t, "save, "+c.why, c.ahead+line+"files\n", ahead+"ok\nfiles base\n")
		}
	}
}

func TestCrashesInScripts(t *testing.T) {
	const two = "sync 1 1 a=1\nlog 1 2 a=2\nlog 1 3 a=3\n"
	// A row's frame has 20 bytes here.
	for _, c := range []struct {
		keep, torn int
		want       string
	}{
		{0, 0, "files log\nroot 1 92306af8\nall a=1"}, {0, 20, "files log\nroot 1 92306af8\nall a=1"}, {0, 999999, "files log\nroot 1 92306af8\nall a=1"},
		{1, 0, "files log\nroot 1 92306af8\nall a=1"}, {1, 1, "files base\nroot 1 92306af8\nall a=1"}, {1, 12, "files base\nroot 1 92306af8\nall a=1"}, {1, 19, "files base\nroot 1 92306af8\nall a=1"}, {1, 20, "files log\nroot 2 8de8f726\nall a=2"}, {1, 21, "files log\nroot 2 8de8f726\nall a=2"}, {1, 999999, "files log\nroot 2 8de8f726\nall a=2"},
		{2, 0, "files log\nroot 2 8de8f726\nall a=2"}, {2, 1, "files base\nroot 2 8de8f726\nall a=2"}, {2, 19, "files base\nroot 2 8de8f726\nall a=2"}, {2, 20, "files log\nroot 3 bd60a84a\nall a=3"}, {2, 999999, "files log\nroot 3 bd60a84a\nall a=3"},
		{3, 0, "files log\nroot 2 8de8f726\nall a=2"}, {3, 19, "files base\nroot 2 8de8f726\nall a=2"}, {3, 20, "files log\nroot 3 bd60a84a\nall a=3"}, {999999, 999999, "files log\nroot 3 bd60a84a\nall a=3"}, {999999, 0, "files log\nroot 2 8de8f726\nall a=2"},
	} {
		wantScript(t, "crash", fmt.Sprintf("%scrash %d %d\nfiles\nroot\nall\n", two, c.keep, c.torn), "ok\nok\nok\nok\n"+c.want+"\n")
	}
	for torn := range 23 {
		for keep := range 4 {
			wantPlainScript(t, "each torn byte", fmt.Sprintf("%scrash %d %d\nfiles\nroot\nlog 1 4 b=4\nall\n", two, keep, torn))
		}
	}
	wantScript(t, "an empty disk", "crash 0 0\ncrash 5 5\nfiles\nroot\n", "ok\nok\nfiles\nroot 0 76be8b52\n")
	wantScript(t, "nothing synced", "log 1 1 a=1\ncrash 0 0\nfiles\nroot\n", "ok\nok\nfiles\nroot 0 76be8b52\n")
	wantScript(t, "nothing but the file", "log 1 1 a=1\ncrash 1 0\nfiles\nroot\n", "ok\nok\nfiles log\nroot 0 76be8b52\n")
	wantScript(t, "a number that was lost", "sync 1 1 a=1\nlog 1 2 a=2\ncrash 0 0\nlog 1 2 a=3\nall\nroot\n", "ok\nok\nok\nok\nall a=3\nroot 2 bd60a84a\n")
	wantScript(t, "ops of a save", "sync 1 1 a=1\nsave 3\nlog 1 2 a=2\ncrash 2 0\nfiles\nall\n", "ok\nno 5\nok\nok\nfiles base log\nall a=1\n")
	wantScript(t, "ops of a save, the row too", "sync 1 1 a=1\nsave 3\nlog 1 2 a=2\ncrash 3 99\nfiles\nall\n", "ok\nno 5\nok\nok\nfiles base log\nall a=2\n")
}

// doingLines: each act that can matter on a small disk.
func doingLines() []string {
	list := []string{"log 1 1 a=1", "log 1 2 a b=2", "sync 1 2 ab=3", "sync 2 1 a=4 c=5", "log 0 1 a=1", "save", "open", "open 0", "fly", ""}
	for n := range 8 {
		list = append(list, fmt.Sprint("save ", n))
	}
	for _, c := range []string{"0 0", "1 0", "1 15", "1 99", "2 15", "2 99", "9 999999"} {
		list = append(list, "crash "+c)
	}
	return list
}

const askingLines = "files\nroot\nall\nprove a\nprove ab\n"

func TestScriptsByTheWords(t *testing.T) {
	lines := doingLines()
	for _, first := range lines {
		for _, second := range lines {
			for _, ahead := range []string{"", "sync 1 1 a=1\nlog 1 2 ab=2\n"} {
				wantPlainScript(t, "two lines", ahead+first+"\n"+askingLines+second+"\n"+askingLines)
			}
		}
	}
}

func randomName(source *rand.Rand) string {
	const bytes = "abcdefghijklmnopqrstuvwxyz0123456789"
	if source.Intn(2) == 0 {
		return []string{"a", "b", "ab", "abc", "dog", "do", "doge"}[source.Intn(7)]
	}
	name := ""
	for range 1 + source.Intn(12) {
		name += oneByte(int(bytes[source.Intn(len(bytes))]))
	}
	return name
}

func randomLine(source *rand.Rand) string {
	lines := doingLines()
	switch n := source.Intn(10); {
	case n < 4:
		line := fmt.Sprintf("%s %d %d", []string{"log", "log", "sync"}[source.Intn(3)], 1+source.Intn(8), 1+source.Intn(20))
		for range 1 + source.Intn(4) {
			line += " " + randomName(source)
			if source.Intn(4) > 0 {
				line += "=" + randomName(source)
			}
		}
		return line
	case n < 6:
		return lines[source.Intn(len(lines))]
	case n < 7:
		return fmt.Sprintf("crash %d %d", source.Intn(6), source.Intn(60))
	case n < 9:
		return []string{"files", "root", "all", "prove a", "prove dog", "prove " + randomName(source)}[source.Intn(6)]
	}
	line := []byte(lines[source.Intn(len(lines))] + " ")
	line[source.Intn(len(line))] = byte(source.Intn(256))
	return strings.ReplaceAll(string(line), "\n", " ")
}

func randomScript(source *rand.Rand) string {
	text := ""
	for range source.Intn(30) {
		text += randomLine(source) + "\n"
	}
	return text
}

func TestRandomScripts(t *testing.T) {
	source := rand.New(rand.NewSource(24))
	said := ""
	for range 150 {
		said += wantPlainScript(t, "by chance", randomScript(source))
	}
	for _, some := range []string{"ok\n", "no 3\n", "no 5\n", "what\n", "has ", "absent by 0 of 0\n", "absent by 2 ", "files base\n", "files base log\n", "files base.new log\n"} {
		if strings.Count(said, some) < 3 {
			t.Errorf("%q was said %d times", some, strings.Count(said, some))
		}
	}
	const bytes = "logsync 1=a\n\n\r\t\x00\xff"
	for range 300 {
		text := make([]byte, source.Intn(60))
		for i := range text {
			text[i] = bytes[source.Intn(len(bytes))]
		}
		wantPlainScript(t, "bytes by chance", string(text))
		source.Read(text)
		wantPlainScript(t, "any bytes by chance", string(text)+"\n")
	}
}

// scriptsToGoOn: for what is promised of a script that grows.
func scriptsToGoOn() []string {
	source := rand.New(rand.NewSource(25))
	list := []string{
		"", "\n \n", "fly\nlog 1 1\n", "sync 1 1 a=1 b=2\nlog 1 2 a\nroot\nsave\nfiles\nall\n",
		"log 1 1 a=1\nsave 2\ncrash 1 9\nfiles\nlog 1 2 b=2\nsave 5\nlog 2 1 c=3\ncrash 1 15\nroot\nsave\nopen\nall\n",
		"sync 3 9 k=v\nlog 0 1 a=1\nlog 3 8 k=w\ncrash 1 30\nall\nlog 3 10 k\nprove k\ncrash 0 0\nprove k\n",
		"log 1 1 a=1\nlog 2 1 b=1\nlog 3 1 c=1\nsave 3\nlog 4 1 d=1\ncrash 2 0\nroot\nlog 5 1 e=1\nlog 6 1 f=1\nlog 7 1 g=1\nall\n",
	}
	for range 12 {
		lines := strings.SplitAfter(randomScript(source), "\n")
		list = append(list, strings.Join(lines[:min(len(lines), 12)], ""))
	}
	return list
}

// P16: what was said stays said.
func TestScriptsGoOn(t *testing.T) {
	mores := []string{"", "\n", "  \n", "root\n", "fly\n", "save 3\n", "crash 0 0\nfiles\n", "log 9 9 more=lines\nall\n", "\xff\x00\n"}
	for _, text := range scriptsToGoOn() {
		lines := strings.SplitAfter(text, "\n")
		whole := impl.RunScript(text)
		words := 0
		for n := range lines {
			said := impl.RunScript(strings.Join(lines[:n], ""))
			if !strings.HasPrefix(whole, said) || strings.Count(said, "\n") != words {
				t.Errorf("the first %d lines of %s: %q, all of it: %q", n, shownScript(text), said, whole)
			}
			if strings.Trim(lines[n], " \n") != "" {
				words++
			}
		}
		for _, more := range mores {
			if said := impl.RunScript(text + more); !strings.HasPrefix(said, whole) || len(said) > len(whole) != (strings.Trim(more, " \n") != "") {
				t.Errorf("%s, and %q: %q, then %q", shownScript(text), more, whole, said)
			}
		}
		full := text + strings.Repeat("\n", 40-strings.Count(text, "\n"))
		wantScript(t, "up to 40 lines", full, whole)
		wantScript(t, "41 lines", full+"\n", "too long\n")
		wantScript(t, "up to 4000 bytes", text+strings.Repeat(" ", 3999-len(text))+"\n", whole)
		wantScript(t, "4001 bytes", text+strings.Repeat(" ", 4000-len(text))+"\n", "too long\n")
	}
}

// withoutLine: the text, of which this line is left out.
func withoutLine(text string, place int) string {
	lines := strings.SplitAfter(text, "\n")
	if place >= len(lines) {
		return text
	}
	return strings.Join(slices.Delete(lines, place, place+1), "")
}

// P16: lines that ask change nothing, wherever they stand, nor do lines that are none or that say nothing.
func TestAskingChangesNothing(t *testing.T) {
	for _, text := range scriptsToGoOn() {
		lines := strings.SplitAfter(text, "\n")
		lines = lines[:len(lines)-1]
		whole := impl.RunScript(text)
		words := 0
		for n := range len(lines) + 1 {
			for _, asked := range []string{"files\n", "root\n", "all\n", "prove a\n", "prove zz\n", "fly\n", "save x\n"} {
				with := strings.Join(lines[:n], "") + asked + strings.Join(lines[n:], "")
				said := impl.RunScript(with)
				if withoutLine(said, words) != whole || strings.Count(said, "\n") != strings.Count(whole, "\n")+1 {
					t.Errorf("%s, with %q behind %d lines: %q; without: %q", shownScript(text), asked, n, said, whole)
				}
			}
			blanks := strings.Join(lines[:n], "") + "  \n\n" + strings.Join(lines[n:], "")
			wantScript(t, "lines without words", blanks, whole)
			if n < len(lines) && strings.Trim(lines[n], " \n") != "" {
				words++
			}
		}
	}
}

// P17: what other calls do at the same time is not to be seen.
func TestScriptsAtOnce(t *testing.T) {
	list := scriptsToGoOn()
	said := make([][]string, 8)
	var wait sync.WaitGroup
	for i := range said {
		wait.Go(func() {
			for at := range list {
				said[i] = append(said[i], impl.RunScript(list[(at+i)%len(list)]))
			}
		})
	}
	wait.Wait()
	for i := range said {
		for at, text := range said[i] {
			if want := impl.RunScript(list[(at+i)%len(list)]); text != want {
				t.Errorf("%s, at once with others: %q; want %q", shownScript(list[(at+i)%len(list)]), text, want)
			}
		}
	}
}
