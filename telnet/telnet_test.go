package telnet_test

import (
	"math"
	"strings"
	"testing"

	"inglenook/api"
	"inglenook/telnet"
)

// wild has numbers that no field of a codec and no option may have.
var wild = []int{math.MinInt, math.MinInt32, -256, -2, -1, 257, 259, 287, 511, math.MaxInt32, math.MaxInt}

// places has good codecs, each at another place, to which nothing was said of options.
func places() []api.Telnet {
	return []api.Telnet{
		{At: 0},
		{At: 1},
		{At: 2, Verb: api.WILL},
		{At: 2, Verb: api.WONT},
		{At: 2, Verb: api.DO},
		{At: 2, Verb: api.DONT},
		{At: 3},
		{At: 3, Sub: "\x1f\x00"},
		{At: 3, Sub: strings.Repeat("s", api.MaxSub)},
		{At: 4},
		{At: 4, Sub: "\x1f\x00\x50\x00\x18"},
		{At: 4, Sub: strings.Repeat("s", api.MaxSub)},
	}
}

// bad has codecs that are not good, nearly each for one reason alone.
func bad() map[string]api.Telnet {
	m := map[string]api.Telnet{
		"At -1":                 {At: -1},
		"At 5":                  {At: 5},
		"At 5 with Sub":         {At: 5, Sub: "x"},
		"no Verb at 2":          {At: 2},
		"SB at 2":               {At: 2, Verb: api.SB},
		"IAC at 2":              {At: 2, Verb: api.IAC},
		"Verb below 0 at 2":     {At: 2, Verb: -api.DO},
		"Verb beyond at 2":      {At: 2, Verb: api.DO + 256},
		"Verb 1 at 0":           {Verb: 1},
		"Verb -1 at 0":          {Verb: -1},
		"DO at 0":               {At: 0, Verb: api.DO},
		"WILL at 1":             {At: 1, Verb: api.WILL},
		"DONT at 3":             {At: 3, Verb: api.DONT},
		"WONT at 4":             {At: 4, Verb: api.WONT},
		"Sub at 0":              {At: 0, Sub: "x"},
		"Sub at 1":              {At: 1, Sub: "x"},
		"Sub at 2":              {At: 2, Verb: api.DO, Sub: "x"},
		"Sub too long at 3":     {At: 3, Sub: strings.Repeat("x", api.MaxSub+1)},
		"Sub too long at 4":     {At: 4, Sub: strings.Repeat("x", api.MaxSub+1)},
		"Sub far too long at 3": {At: 3, Sub: strings.Repeat("x", 300)},
		"Height -1":             {Height: -1},
		"Height beyond":         {Height: api.MaxHeight + 1},
		"we do NAWS":            {Us: [3]int{0, 0, api.Yes}},
		"we offered NAWS":       {Us: [3]int{0, 0, api.Asked}},
		"they do ECHO":          {Them: [3]int{api.Yes, 0, 0}},
		"they were asked ECHO":  {Them: [3]int{api.Asked, 0, 0}},
		"all is wrong": {At: 9, Verb: 9, Sub: strings.Repeat("\xff", 99), Us: [3]int{9, 9, 9},
			Them: [3]int{9, 9, 9}, Height: -9},
	}
	return m
}

func TestGoodPlace(t *testing.T) {
	for _, c := range places() {
		if !telnet.Good(c) {
			t.Errorf("not good: %+v", c)
		}
	}
	for name, c := range bad() {
		if telnet.Good(c) {
			t.Errorf("%s: good: %+v", name, c)
		}
	}
	for _, n := range wild {
		for name, c := range map[string]api.Telnet{
			"At":     {At: n},
			"Verb":   {Verb: n},
			"Verb 2": {At: 2, Verb: n},
			"Height": {Height: n},
		} {
			if telnet.Good(c) {
				t.Errorf("%s %d: good", name, n)
			}
		}
	}
}

func TestGoodVerb(t *testing.T) {
	for at := 0; at <= 4; at++ {
		for verb := -2; verb <= 300; verb++ {
			want := verb == 0
			if at == 2 {
				want = verb == 251 || verb == 252 || verb == 253 || verb == 254
			}
			if telnet.Good(api.Telnet{At: at, Verb: verb}) != want {
				t.Errorf("At %d, Verb %d: want %v", at, verb, want)
			}
		}
	}
}

func TestGoodSubAndHeight(t *testing.T) {
	for n := 0; n <= api.MaxSub+2; n++ {
		sub := strings.Repeat("\xff", n)
		for at, want := range [5]bool{n == 0, n == 0, n == 0, n <= 16, n <= 16} {
			c := api.Telnet{At: at, Sub: sub}
			if at == 2 {
				c.Verb = api.DO
			}
			if telnet.Good(c) != want {
				t.Errorf("At %d, Sub of %d: want %v", at, n, want)
			}
		}
	}
	for h := -3; h <= api.MaxHeight+3; h++ {
		if telnet.Good(api.Telnet{Height: h}) != (h >= 0 && h <= 200) {
			t.Errorf("Height %d", h)
		}
	}
}

func TestGoodOptions(t *testing.T) {
	knownUs, knownThem := [3]bool{true, true, false}, [3]bool{false, true, true}
	for i := 0; i < 3; i++ {
		for _, n := range append([]int{-1, 0, 1, 2, 3, 4}, wild...) {
			var us, them api.Telnet
			us.Us[i], them.Them[i] = n, n
			state := n == 1 || n == 2
			if telnet.Good(us) != (n == 0 || state && knownUs[i]) {
				t.Errorf("Us of %d: %d", i, n)
			}
			if telnet.Good(them) != (n == 0 || state && knownThem[i]) {
				t.Errorf("Them of %d: %d", i, n)
			}
		}
	}
	all := api.Telnet{At: 4, Sub: strings.Repeat("x", api.MaxSub), Us: [3]int{2, 1, 0}, Them: [3]int{0, 2, 1}, Height: 200}
	if !telnet.Good(all) {
		t.Errorf("not good: %+v", all)
	}
}

// A codec that is not good is said first, whatever else is wrong, and is answered as it was.
func TestErrRangeFirst(t *testing.T) {
	for name, c := range bad() {
		for _, s := range []string{"", "x", "\xff\xfd\x03", "\xff\xf0"} {
			d, text, answer, e := telnet.Feed(c, s)
			if d != c || text != "" || answer != "" || e != api.ErrRange {
				t.Errorf("%s: Feed %q: %+v, %q, %q, %d", name, s, d, text, answer, e)
			}
		}
		for _, opt := range append([]int{0, 1, 2, 3, 31, 255}, wild...) {
			d, said, e := telnet.Offer(c, opt)
			if d != c || said != "" || e != api.ErrRange {
				t.Errorf("%s: Offer %d: %+v, %q, %d", name, opt, d, said, e)
			}
			d, said, e = telnet.Ask(c, opt)
			if d != c || said != "" || e != api.ErrRange {
				t.Errorf("%s: Ask %d: %+v, %q, %d", name, opt, d, said, e)
			}
		}
	}
}

// checkFeed feeds bytes at once, and cut in two at every place: that must be the same.
func checkFeed(t *testing.T, c api.Telnet, s string, want api.Telnet, text, answer string) {
	t.Helper()
	for i := 0; i <= len(s); i++ {
		c1, text1, answer1, e1 := telnet.Feed(c, s[:i])
		c2, text2, answer2, e2 := telnet.Feed(c1, s[i:])
		if e1 != api.OK || e2 != api.OK || c2 != want || text1+text2 != text || answer1+answer2 != answer {
			t.Errorf("%+v, %q cut at %d:\n got %+v, %q, %q (%d, %d)\nwant %+v, %q, %q",
				c, s, i, c2, text1+text2, answer1+answer2, e1, e2, want, text, answer)
			return
		}
	}
}

// Each byte at each place, by the chapter's words, from a codec that nothing was said to.
func TestFeedEachByte(t *testing.T) {
	full := strings.Repeat("s", api.MaxSub)
	for n := 0; n < 256; n++ {
		s := string([]byte{byte(n)})
		iac := n == 255

		want, text := api.Telnet{}, s
		if iac {
			want, text = api.Telnet{At: 1}, ""
		}
		checkFeed(t, api.Telnet{}, s, want, text, "")

		want, text = api.Telnet{}, ""
		switch {
		case iac:
			text = "\xff"
		case n == 250:
			want.At = 3
		case n >= 251 && n <= 254:
			want.At, want.Verb = 2, n
		}
		checkFeed(t, api.Telnet{At: 1}, s, want, text, "")

		for _, sub := range []string{"", "\x1f\x00", full[1:], full} {
			longer := sub + s
			if len(sub) == 16 {
				longer = sub
			}
			want = api.Telnet{At: 3, Sub: longer}
			if iac {
				want = api.Telnet{At: 4, Sub: sub}
			}
			checkFeed(t, api.Telnet{At: 3, Sub: sub}, s, want, "", "")

			want = api.Telnet{}
			if iac {
				want = api.Telnet{At: 3, Sub: longer}
			}
			checkFeed(t, api.Telnet{At: 4, Sub: sub}, s, want, "", "")
		}
	}
}

// What a byte does not touch stays as it was, at each place.
func TestFeedKeepsTheRest(t *testing.T) {
	us, them := [3]int{api.Asked, api.Yes, api.No}, [3]int{api.No, api.Asked, api.Yes}
	c := api.Telnet{Us: us, Them: them, Height: 77}
	checkFeed(t, c, "", c, "", "")
	checkFeed(t, c, "ab\r\n\x00\x7f\x80\xfe\xff\xffz", c, "ab\r\n\x00\x7f\x80\xfe\xffz", "")
	checkFeed(t, c, "a\xff\xf1b\xff\xf0c\xff\x00d\xff\x1fe", c, "abcde", "")
	checkFeed(t, c, "a\xff\xfa\x18\x00xterm\xff\xf0b", c, "ab", "")
	checkFeed(t, c, "a\xff\xfa\x1f\x00\x50\x00\x18\xff\x00b", c, "ab", "")
	for _, p := range places() {
		d, text, answer, e := telnet.Feed(p, "")
		if d != p || text != "" || answer != "" || e != api.OK {
			t.Errorf("nothing is fed: %+v, %+v, %q, %q, %d", p, d, text, answer, e)
		}
	}
}

func TestFeedSub(t *testing.T) {
	full := strings.Repeat("s", 16)
	for _, c := range []struct {
		s, sub string
		at     int
	}{
		{"\xff\xfa", "", 3},
		{"\xff\xfaab", "ab", 3},
		{"\xff\xfa\xf0\xfa\xfb\xfd", "\xf0\xfa\xfb\xfd", 3},
		{"\xff\xfaa\xff", "a", 4},
		{"\xff\xfaa\xff\xffb", "a\xffb", 3},
		{"\xff\xfa" + full, full, 3},
		{"\xff\xfa" + full + "more", full, 3},
		{"\xff\xfa" + full + "\xff", full, 4},
		{"\xff\xfa" + full + "\xff\xff", full, 3},
		{"\xff\xfa" + full[1:] + "\xff\xff", full[1:] + "\xff", 3},
		{"\xff\xfa" + full[1:] + "\xff\xff\xff\xff", full[1:] + "\xff", 3},
		{"\xff\xfaold\xff\xf0\xff\xfanew", "new", 3},
		{"\xff\xfaold\xff\xfanew", "", 0},
	} {
		text := ""
		if c.at == 0 {
			text = "new"
		}
		checkFeed(t, api.Telnet{}, c.s, api.Telnet{At: c.at, Sub: c.sub}, text, "")
	}
}

func TestFeedHeight(t *testing.T) {
	for _, c := range []struct {
		sub    string
		height int
	}{
		{"\x1f\x00\x50\x00\x18", 24},
		{"\x1f\x00\x00\x00\x00", 0},
		{"\x1f\xfe\xfe\x00\x01", 1},
		{"\x1f\x00\x50\x00\xc7", 199},
		{"\x1f\x00\x50\x00\xc8", 200},
		{"\x1f\x00\x50\x00\xc9", 200},
		{"\x1f\x00\x50\x00\xff\xff", 200},
		{"\x1f\x00\x50\x01\x00", 200},
		{"\x1f\x00\x50\x01\x05", 200},
		{"\x1f\x00\x50\x18\x00", 200},
		{"\x1f\x00\x50\x80\x00", 200},
		{"\x1f\x00\x50\xff\xff\xff\xff", 200},
		{"\x1f\xff\xff\xff\xff\x00\x30", 48},
		// From here on it is not what is told of a window.
		{"", 77},
		{"\x1f", 77},
		{"\x1f\x00\x50\x00", 77},
		{"\x1f\x00\x50\x00\x18\x00", 77},
		{"\x1f\x00\x50\x00\x18\xff\xff", 77},
		{"\x1f\x00\x50\x00\x18" + strings.Repeat("\x00", 40), 77},
		{"\x1e\x00\x50\x00\x18", 77},
		{"\x03\x00\x50\x00\x18", 77},
		{"\x00\x1f\x50\x00\x18", 77},
	} {
		was := api.Telnet{Them: [3]int{0, 0, api.Yes}, Height: 77}
		is := was
		is.Height = c.height
		checkFeed(t, was, "a\xff\xfa"+c.sub+"\xff\xf0b", is, "ab", "")
		for n := 0; n < 255; n++ {
			if n != 240 {
				checkFeed(t, was, "\xff\xfa"+c.sub+"\xff"+string([]byte{byte(n)}), was, "", "")
			}
		}
	}
}

// Height is heeded only as long as the other side does NAWS, and outlasts that.
func TestFeedHeightOfThem(t *testing.T) {
	window := "\xff\xfa\x1f\x00\x50\x00\x18\xff\xf0"
	for _, state := range []int{api.No, api.Asked} {
		c := api.Telnet{Us: [3]int{api.Yes, api.Yes, 0}, Them: [3]int{0, api.Yes, state}, Height: 9}
		checkFeed(t, c, window, c, "", "")
	}
	checkFeed(t, api.Telnet{}, "\xff\xfb\x1f"+window, api.Telnet{Them: [3]int{0, 0, api.Yes}, Height: 24}, "", "\xff\xfd\x1f")
	checkFeed(t, api.Telnet{}, "\xff\xfb\x1f"+window+"\xff\xfc\x1f", api.Telnet{Height: 24}, "", "\xff\xfd\x1f\xff\xfe\x1f")
	checkFeed(t, api.Telnet{}, "\xff\xfa\x1f\x00\x50\x00\xff\xfb\x1f", api.Telnet{}, "\x1f", "")
}

// Of each verb: its number, whether it is of Us, and what is answered by what the state was (0: nothing).
type verbRow struct {
	verb    int
	ofUs    bool
	becomes int
	answers [3]byte // No, Yes, Asked
	unknown byte
}

func verbRows() []verbRow {
	return []verbRow{
		{api.DO, true, api.Yes, [3]byte{251, 0, 0}, 252},
		{api.DONT, true, api.No, [3]byte{0, 252, 0}, 0},
		{api.WILL, false, api.Yes, [3]byte{253, 0, 0}, 254},
		{api.WONT, false, api.No, [3]byte{0, 254, 0}, 0},
	}
}

// sent is three bytes, or none if the verb is 0.
func sent(verb byte, opt int) string {
	if verb == 0 {
		return ""
	}
	return string([]byte{255, verb, byte(opt)})
}

// indexOf is where an option stands for a side; -1: it is not known there.
func indexOf(ofUs bool, opt int) int {
	if ofUs {
		return map[int]int{1: 1, 3: 2}[opt] - 1
	}
	return map[int]int{3: 2, 31: 3}[opt] - 1
}

// codecs are in each state that options may be in, all together.
func codecs() []api.Telnet {
	var l []api.Telnet
	for n := 0; n < 81; n++ {
		us, them := [3]int{n % 3, n / 3 % 3, 0}, [3]int{0, n / 9 % 3, n / 27}
		l = append(l, api.Telnet{Us: us, Them: them, Height: n})
	}
	return l
}

func TestVerbs(t *testing.T) {
	for _, r := range verbRows() {
		for opt := 0; opt < 256; opt++ {
			for _, c := range codecs() {
				want, answer := c, r.unknown
				if i := indexOf(r.ofUs, opt); i >= 0 {
					state := &want.Them[i]
					if r.ofUs {
						state = &want.Us[i]
					}
					answer = r.answers[*state]
					*state = r.becomes
				}
				waits := c
				waits.At, waits.Verb = 2, r.verb
				d, text, said, e := telnet.Feed(waits, string([]byte{byte(opt)}))
				if d != want || text != "" || said != sent(answer, opt) || e != api.OK {
					t.Fatalf("verb %d, option %d, %+v: %+v, %q, %q, %d", r.verb, opt, c, d, text, said, e)
				}
			}
		}
	}
}

func TestVerbsInARow(t *testing.T) {
	checkFeed(t, api.Telnet{}, "a\xff\xfd\x01b\xff\xfd\x03\xff\xfd\x1fc\xff\xfb\x01\xff\xfb\x03\xff\xfb\x1fd",
		api.Telnet{Us: [3]int{1, 1, 0}, Them: [3]int{0, 1, 1}}, "abcd",
		"\xff\xfb\x01\xff\xfb\x03\xff\xfc\x1f\xff\xfe\x01\xff\xfd\x03\xff\xfd\x1f")
	checkFeed(t, api.Telnet{Us: [3]int{1, 1, 0}, Them: [3]int{0, 1, 1}},
		"\xff\xfe\x01\xff\xfe\x03\xff\xfe\x1f\xff\xfc\x01\xff\xfc\x03\xff\xfc\x1f", api.Telnet{}, "",
		"\xff\xfc\x01\xff\xfc\x03\xff\xfe\x03\xff\xfe\x1f")
	// A verb that is said again is not answered again, but of what is not known.
	checkFeed(t, api.Telnet{}, "\xff\xfd\x03\xff\xfd\x03\xff\xfb\x03\xff\xfb\x03",
		api.Telnet{Us: [3]int{0, 1, 0}, Them: [3]int{0, 1, 0}}, "", "\xff\xfb\x03\xff\xfd\x03")
	checkFeed(t, api.Telnet{}, "\xff\xfd\x18\xff\xfd\x18", api.Telnet{}, "", "\xff\xfc\x18\xff\xfc\x18")
	// An option may be of a number that is a byte with a meaning elsewhere.
	checkFeed(t, api.Telnet{}, "\xff\xfd\xff\xff\xfb\xff\xff\xfe\xffx", api.Telnet{}, "x", "\xff\xfc\xff\xff\xfe\xff")
	checkFeed(t, api.Telnet{}, "\xff\xfb\xfa\xff\xfd\xfdx", api.Telnet{}, "x", "\xff\xfe\xfa\xff\xfc\xfd")
}

// propose checks Offer or Ask of every option that there is, and of none, at every place.
func propose(t *testing.T, ofUs bool, verb byte, call func(api.Telnet, int) (api.Telnet, string, api.Errno)) {
	t.Helper()
	opts := append([]int{256, 300}, wild...)
	for opt := 0; opt < 256; opt++ {
		opts = append(opts, opt)
	}
	for _, opt := range opts {
		i := indexOf(ofUs, opt)
		for _, c := range append(codecs(), places()...) {
			want, said, code := c, "", api.ErrNone
			if i >= 0 {
				code = api.OK
				state := &want.Them[i]
				if ofUs {
					state = &want.Us[i]
				}
				if *state == api.No {
					*state, said = api.Asked, sent(verb, opt)
				}
			}
			d, out, e := call(c, opt)
			if d != want || out != said || e != code {
				t.Fatalf("option %d, %+v: %+v, %q, %d", opt, c, d, out, e)
			}
		}
	}
}

func TestOffer(t *testing.T) { propose(t, true, 251, telnet.Offer) }

func TestAsk(t *testing.T) { propose(t, false, 253, telnet.Ask) }

// What was asked for is settled by the answer alone: nobody answers an answer.
func TestAskedAndAnswered(t *testing.T) {
	c, _, _ := telnet.Offer(api.Telnet{}, api.SGA)
	checkFeed(t, c, "\xff\xfd\x03", api.Telnet{Us: [3]int{0, 1, 0}}, "", "")
	checkFeed(t, c, "\xff\xfe\x03", api.Telnet{}, "", "")
	checkFeed(t, c, "\xff\xfb\x03", api.Telnet{Us: [3]int{0, 2, 0}, Them: [3]int{0, 1, 0}}, "", "\xff\xfd\x03")
	c, _, _ = telnet.Ask(api.Telnet{}, api.NAWS)
	checkFeed(t, c, "\xff\xfb\x1f\xff\xfa\x1f\x00\x50\x00\x18\xff\xf0", api.Telnet{Them: [3]int{0, 0, 1}, Height: 24}, "", "")
	checkFeed(t, c, "\xff\xfc\x1f", api.Telnet{}, "", "")
	checkFeed(t, c, "\xff\xfd\x1f", c, "", "\xff\xfc\x1f")
}

func TestEscape(t *testing.T) {
	for n := 0; n < 256; n++ {
		s := string([]byte{byte(n)})
		want := s
		if n == 255 {
			want = "\xff\xff"
		}
		if got := telnet.Escape(s); got != want {
			t.Errorf("%q: %q", s, got)
		}
	}
	for s, want := range map[string]string{
		"":                   "",
		"Who are you?\r\n":   "Who are you?\r\n",
		"\xff\xff":           "\xff\xff\xff\xff",
		"\xffa\xff\xffb\xff": "\xff\xffa\xff\xff\xff\xffb\xff\xff",
		"\xfe\xff\xfb\x01":   "\xfe\xff\xff\xfb\x01",
		"\u00ff\x00":         "\u00ff\x00",
	} {
		if got := telnet.Escape(s); got != want {
			t.Errorf("%q: %q, want %q", s, got, want)
		}
		checkFeed(t, api.Telnet{}, want, api.Telnet{}, s, "")
	}
}

// Whatever bytes come, a good codec stays good, and how they are cut does not matter.
func TestFeedAnyBytes(t *testing.T) {
	bytes := "a\x00\x01\x03\x1f\xf0\xfa\xfb\xfc\xfd\xfe\xff"
	for _, p := range places() {
		for i := 0; i < len(bytes)*len(bytes)*len(bytes); i++ {
			s := string([]byte{bytes[i%12], bytes[i/12%12], bytes[i/144]})
			d, text, answer, e := telnet.Feed(p, s)
			if !telnet.Good(d) || e != api.OK {
				t.Fatalf("%+v, %q: %+v, %d", p, s, d, e)
			}
			checkFeed(t, p, s, d, text, answer)
		}
	}
}

// What is long takes time by its length, not by the square of it.
func TestFeedMuch(t *testing.T) {
	const n = 1 << 20
	long := strings.Repeat("\xff\xff", n)
	if telnet.Escape(strings.Repeat("\xff", n)) != long {
		t.Error("Escape")
	}
	d, text, answer, e := telnet.Feed(api.Telnet{}, long+strings.Repeat("\xff\xfd\x18", n)+"\xff\xfa"+long)
	if e != api.OK || text != long[:n] || answer != strings.Repeat("\xff\xfc\x18", n) {
		t.Errorf("%d, %d, %d", len(text), len(answer), e)
	}
	if want := (api.Telnet{At: 3, Sub: strings.Repeat("\xff", 16)}); d != want {
		t.Errorf("%+v", d)
	}
}
