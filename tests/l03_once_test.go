package tests

import (
	"math"
	"slices"
	"strconv"
	"strings"
	"testing"

	"loop.example/g00226/impl"
)

// seeds: of SeedSize bytes each.
func seeds() []string {
	return []string{impl.Sum("seed"), impl.Sum("another seed"), strings.Repeat("\x00", 32), strings.Repeat("\xff", 32)}
}

// wrongSizes: texts that are no seeds, the nearest lengths among them.
func wrongSizes() []string {
	return []string{"", "\x00", letters(31), letters(33), letters(64), letters(impl.MaxRlp)}
}

// messages: 11213 has low digits and 17098 high ones.
func messages() []string {
	return []string{"", "\x00", "hello", "hallo", "11213", "17098", letters(200), letters(impl.MaxRlp + 1)}
}

// libraryTagged: Tagged with the digest from the library.
func libraryTagged(t *testing.T, tag string, parts ...string) string {
	t.Helper()
	return librarySum(listOf(t, append([]string{tag}, parts...)...))
}

func oneByte(n int) string { return string([]byte{byte(n)}) }

// withSpare: the same texts in a slice that has room behind them, which no call may write into.
func withSpare(texts []string) (list, room []string) {
	room = append(slices.Clone(texts), "spare", "spare")
	return room[:len(texts):len(room)], room
}

// changedAt: a copy of texts with another text at that place.
func changedAt(texts []string, place int, text string) []string {
	changed := slices.Clone(texts)
	changed[place] = text
	return changed
}

func TestKnownDigits(t *testing.T) {
	for _, c := range [][2]string{
		{"", "0330212303132003112"},
		{"hello", "1031103001120101201"},
		{"\x00", "3202121033122203111"},
		{strings.Repeat("a", 200), "1220332000021212123"},
		{"11213", "0010002001010101221"},
		{"17098", "3313133233333331013"},
	} {
		got := ""
		for _, digit := range impl.Digits(c[0]) {
			got += strconv.FormatInt(digit, 10)
		}
		if got != c[1] {
			t.Errorf("Digits of %.10q: %s, want %s", c[0], got, c[1])
		}
	}
}

func wantDigits(t *testing.T, msg string) []int64 {
	t.Helper()
	digits := impl.Digits(msg)
	if len(digits) != impl.Chains || impl.Chains != 19 {
		t.Fatalf("Digits of %.10q: %v", msg, digits)
	}
	digest := libraryTagged(t, "digits", librarySum(msg))
	sum := int64(0)
	for i, digit := range digits {
		if digit < 0 || digit >= 4 {
			t.Fatalf("Digits of %.10q: %v", msg, digits)
		}
		if i < 16 {
			sum += 3 - digit
			if want := int64(digest[i/4]>>(6-2*(i%4))) & 3; digit != want {
				t.Errorf("digit %d of %.10q: %d, want %d", i, msg, digit, want)
			}
		}
	}
	if told := digits[16]*16 + digits[17]*4 + digits[18]; told != sum {
		t.Errorf("Digits of %.10q: sum %d, want %d", msg, told, sum)
	}
	return digits
}

func TestDigitsWithTheirSum(t *testing.T) {
	for _, msg := range messages() {
		wantDigits(t, msg)
	}
	for n := range 2000 {
		wantDigits(t, strconv.Itoa(n))
	}
	first := impl.Digits("hello")
	kept := slices.Clone(first)
	for i := range first {
		first[i] = 9
	}
	if !slices.Equal(impl.Digits("hello"), kept) {
		t.Error("two answers share memory")
	}
}

func hasGreater(a, b []int64) bool {
	for i := range a {
		if a[i] > b[i] {
			return true
		}
	}
	return false
}

func TestUnlikeDigitsEachHaveAGreaterOne(t *testing.T) {
	var lists [][]int64
	for _, msg := range messages() {
		lists = append(lists, wantDigits(t, msg))
	}
	for n := range 500 {
		lists = append(lists, wantDigits(t, "text "+strconv.Itoa(n)))
	}
	for i, a := range lists {
		for j, b := range lists {
			if i != j && !slices.Equal(a, b) && !hasGreater(a, b) {
				t.Errorf("%v has no digit above %v", a, b)
			}
		}
	}
}

func TestKnownChains(t *testing.T) {
	for _, c := range []struct {
		start              string
		chain, from, steps int64
		end                string
	}{
		{impl.Sum("seed"), 18, 0, 3, "cc780d1993ca048dbf4e383deb7f97a3c748fcf90204dd6fdebd562f5d217b4f"},
		{impl.Sum("seed"), 0, 2, 1, "1c32ae811940a9e697235f8831012940c15f96d4f0c5e19632fca8dcc6739929"},
		{strings.Repeat("\x00", 32), 18, 0, 3, "3b37569a71fab4d813c9c167c3830e31aa8d386fa3bea8cad76d051b96ef5989"},
		{strings.Repeat("\xff", 32), 0, 2, 1, "8f9574b794587a8b3e4d3120a896db1104c9ff69158e0451a69d705a33247721"},
	} {
		end, ok := impl.ChainOf(c.start, c.chain, c.from, c.steps)
		if !ok || impl.Hex(end) != c.end {
			t.Errorf("chain %d from %d, %d steps: %x, %v", c.chain, c.from, c.steps, end, ok)
		}
	}
}

func TestChainsInTwoParts(t *testing.T) {
	for _, start := range seeds() {
		for chain := range int64(impl.Chains) {
			for from := range int64(impl.ChainTop + 1) {
				for steps := range impl.ChainTop - from + 1 {
					wantChain(t, start, chain, from, steps)
				}
			}
		}
	}
}

func wantChain(t *testing.T, start string, chain, from, steps int64) {
	t.Helper()
	want := start
	for height := from; height < from+steps; height++ {
		want = libraryTagged(t, "chain", oneByte(int(chain)), oneByte(int(height)), want)
	}
	if end, ok := impl.ChainOf(start, chain, from, steps); !ok || end != want {
		t.Errorf("chain %d from %d, %d steps: %x, %v", chain, from, steps, end, ok)
	}
	for first := range steps + 1 {
		middle, ok := impl.ChainOf(start, chain, from, first)
		end, fine := impl.ChainOf(middle, chain, from+first, steps-first)
		if !ok || !fine || end != want {
			t.Errorf("chain %d from %d, %d steps and then %d: %x", chain, from, first, steps-first, end)
		}
	}
}

func TestNoChain(t *testing.T) {
	seed := impl.Sum("seed")
	type wrong struct {
		start              string
		chain, from, steps int64
	}
	list := []wrong{
		{seed, -1, 0, 1}, {seed, impl.Chains, 0, 1}, {seed, 256, 0, 1}, {seed, math.MinInt64, 0, 1}, {seed, math.MaxInt64, 0, 1},
		{seed, 0, -1, 1}, {seed, 0, -1, 0}, {seed, 0, impl.ChainTop + 1, 0}, {seed, 0, impl.ChainTop + 1, -1},
		{seed, 0, math.MinInt64, 1}, {seed, 0, math.MaxInt64, 0}, {seed, 0, math.MinInt64, math.MaxInt64}, {seed, 0, math.MaxInt64, math.MinInt64},
		{seed, 0, 0, math.MaxInt64}, {seed, 0, impl.ChainTop, math.MaxInt64}, {seed, 0, 1, math.MinInt64},
	}
	for from := range int64(impl.ChainTop + 1) {
		list = append(list, wrong{seed, 5, from, -1}, wrong{seed, 5, from, impl.ChainTop - from + 1})
	}
	for _, start := range wrongSizes() {
		list = append(list, wrong{start, 0, 0, 1}, wrong{start, 0, 0, 0}, wrong{start, 0, impl.ChainTop, 0})
	}
	for _, c := range list {
		if end, ok := impl.ChainOf(c.start, c.chain, c.from, c.steps); ok || end != "" {
			t.Errorf("a start of %d bytes, chain %d from %d, %d steps: %x, %v", len(c.start), c.chain, c.from, c.steps, end, ok)
		}
	}
}

func TestKnownPublicTexts(t *testing.T) {
	for _, c := range []struct{ seed, public, sig string }{
		{impl.Sum("seed"), "293282e56dfe824328be217071a0f13aaa44ad12a35227ffa66f256bbd378190", "13680b8334ad87cb946246e0f9e4bd4a0dd06c670bbbe07315d2599ef5d3cf19"},
		{strings.Repeat("\x00", 32), "ef0657838d4fe7aa6a2482bd063f5a5a7c9b9c46e88fb4aae8cf56482508a897", "2cf42955e3138a5034aa71c7f05c4fedd067ca9991c25edafbcc81ba292dae1c"},
		{strings.Repeat("\xff", 32), "d92b96d187b59a9deefbe1e71782abbd019cbcc5ce6b76f72141b7f953648af0", "93cff003797f1ac1e94570431ae61c7c1146f2743e6f2b9f69f2d20c35733080"},
	} {
		if public, ok := impl.OncePublic(c.seed); !ok || impl.Hex(public) != c.public {
			t.Errorf("OncePublic of %x: %x, %v", c.seed, public, ok)
		}
		sig, ok := impl.OnceSign(c.seed, "hello")
		if !ok || impl.Hex(librarySum(strings.Join(sig, ""))) != c.sig {
			t.Errorf("OnceSign by %x: %x, %v", c.seed, sig, ok)
		}
	}
}

func TestSignaturesLeadToTheirPublicText(t *testing.T) {
	for _, seed := range seeds() {
		public, ok := impl.OncePublic(seed)
		if !ok || len(public) != 32 {
			t.Fatalf("OncePublic of %x: %x, %v", seed, public, ok)
		}
		for _, msg := range messages() {
			sig, ok := impl.OnceSign(seed, msg)
			if !ok || len(sig) != impl.Chains {
				t.Fatalf("OnceSign by %x of %.10q: %d texts, %v", seed, msg, len(sig), ok)
			}
			wantHeights(t, seed, msg, sig)
			list, room := withSpare(sig)
			kept := slices.Clone(room)
			if back, ok := impl.OncePublicOf(msg, list); !ok || back != public {
				t.Errorf("OncePublicOf of %.10q signed by %x: %x, %v", msg, seed, back, ok)
			}
			if !slices.Equal(room, kept) {
				t.Error("OncePublicOf wrote into its argument")
			}
		}
	}
}

// wantHeights: each chain of a signature stands at the height of its digit.
func wantHeights(t *testing.T, seed, msg string, sig []string) {
	t.Helper()
	for i, digit := range impl.Digits(msg) {
		start := libraryTagged(t, "start", seed, oneByte(i))
		if want, ok := impl.ChainOf(start, int64(i), 0, digit); !ok || sig[i] != want {
			t.Errorf("chain %d of %.10q: %x, want %x", i, msg, sig[i], want)
		}
	}
}

func TestPublicTextsAreTheSeedsOwn(t *testing.T) {
	seen := map[string]string{}
	for _, seed := range seeds() {
		public, _ := impl.OncePublic(seed)
		if other, ok := seen[public]; ok {
			t.Errorf("%x and %x have one public text", seed, other)
		}
		seen[public] = seed
		sig, _ := impl.OnceSign(seed, "hello")
		for _, msg := range messages() {
			if back, ok := impl.OncePublicOf(msg, sig); !ok || (back == public) != (msg == "hello") {
				t.Errorf("a signature of hello under %.10q: %x, %v", msg, back, ok)
			}
		}
		for i := range sig {
			if back, ok := impl.OncePublicOf("hello", changedAt(sig, i, impl.Sum(sig[i]))); !ok || back == public {
				t.Errorf("another text of chain %d: %x, %v", i, back, ok)
			}
		}
	}
}

func TestNoOnceSignature(t *testing.T) {
	for _, seed := range wrongSizes() {
		if public, ok := impl.OncePublic(seed); ok || public != "" {
			t.Errorf("OncePublic of %d bytes: %x, %v", len(seed), public, ok)
		}
		if sig, ok := impl.OnceSign(seed, "hello"); ok || len(sig) != 0 {
			t.Errorf("OnceSign by %d bytes: %d texts, %v", len(seed), len(sig), ok)
		}
	}
	sig, _ := impl.OnceSign(impl.Sum("seed"), "hello")
	wrongs := [][]string{nil, {}, sig[:1], sig[:18], sig[1:], append(slices.Clone(sig), sig[0]), append(slices.Clone(sig), ""), slices.Repeat(sig, 2)}
	for i := range sig {
		for _, text := range wrongSizes() {
			wrongs = append(wrongs, changedAt(sig, i, text))
		}
		wrongs = append(wrongs, changedAt(sig, i, sig[i][:31]), changedAt(sig, i, sig[i]+"\x00"))
	}
	for _, wrong := range wrongs {
		if public, ok := impl.OncePublicOf("hello", wrong); ok || public != "" {
			t.Errorf("OncePublicOf of %d texts: %x, %v", len(wrong), public, ok)
		}
	}
}

func TestOnceSignaturesAreNewMemory(t *testing.T) {
	first, _ := impl.OnceSign(impl.Sum("seed"), "hello")
	kept := slices.Clone(first)
	clear(first)
	if second, ok := impl.OnceSign(impl.Sum("seed"), "hello"); !ok || !slices.Equal(second, kept) {
		t.Error("two answers share memory")
	}
}
