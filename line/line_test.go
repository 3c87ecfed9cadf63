package line_test

import (
	"slices"
	"strings"
	"testing"

	"inglenook/api"
	"inglenook/line"
)

// full is a line that has no room any more.
var full = strings.Repeat("f", 60)

// same is whether two are alike; a list without elements may be nil or not.
func same(a, b api.Line) bool {
	return a.Now == b.Now && a.Long == b.Long && a.Return == b.Return && slices.Equal(a.Queue, b.Queue)
}

// queue is n lines that wait.
func queue(n int) []string {
	return []string{"one", "", "three", full, " ", "~six", "seven", "eight"}[:n]
}

// good has lines as they may be, in each state that makes a difference.
func good() []api.Line {
	var ls []api.Line
	for n := 0; n <= 6; n++ {
		ls = append(ls, api.Line{Return: true, Queue: queue(n)})
		for _, now := range []string{"", "a", "ab", " ~", full[:59], full} {
			ls = append(ls, api.Line{Now: now, Queue: queue(n)}, api.Line{Now: now, Long: true, Queue: queue(n)})
		}
	}
	return ls
}

// bad has lines that are not good, nearly each for one reason alone.
func bad() map[string]api.Line {
	return map[string]api.Line{
		"Now too long":          {Now: full + "f"},
		"Now far too long":      {Now: strings.Repeat("f", 300)},
		"Now too long, Long":    {Now: full + "f", Long: true},
		"first too long":        {Queue: []string{full + "f", "a"}},
		"last too long":         {Queue: []string{"a", "b", "c", "d", "e", full + "f"}},
		"first byte too small":  {Now: "\x1fab"},
		"last byte too great":   {Now: "ab\x7f"},
		"newline":               {Now: "\n"},
		"last of 60 too small":  {Now: full[:59] + "\x1f"},
		"first waits with 127":  {Queue: []string{"\x7f"}},
		"last waits with 31":    {Queue: []string{"", "", "", "", "", "a\x1f"}},
		"letter of two bytes":   {Queue: []string{"a", "\u00e9"}},
		"seven wait":            {Queue: queue(7)},
		"eight wait":            {Queue: queue(8)},
		"seven empty ones wait": {Queue: make([]string, 7)},
		"many wait":             {Queue: make([]string, 10000)},
		"Return with Now":       {Now: "a", Return: true},
		"Return with Long":      {Long: true, Return: true},
		"Return with both":      {Now: full, Long: true, Return: true, Queue: queue(2)},
		"all is wrong":          {Now: strings.Repeat("\n", 99), Long: true, Return: true, Queue: queue(8)},
	}
}

func TestGood(t *testing.T) {
	for _, l := range good() {
		if !line.Good(l) {
			t.Errorf("not good: %+v", l)
		}
	}
	for name, l := range bad() {
		if line.Good(l) {
			t.Errorf("%s: good", name)
		}
	}
}

func TestGoodBytes(t *testing.T) {
	for b := 0; b < 256; b++ {
		want := b >= 32 && b <= 126
		one := string([]byte{byte(b)})
		for _, s := range []string{one, "a" + one, one + "a", "a" + one + "a", full[:59] + one, one + full[:59]} {
			if line.Good(api.Line{Now: s}) != want {
				t.Errorf("Now %q: want %v", s, want)
			}
			for n := 0; n < 6; n++ {
				q := slices.Clone(queue(6))
				q[n] = s
				if line.Good(api.Line{Queue: q}) != want {
					t.Errorf("%q waits at %d: want %v", s, n, want)
				}
			}
		}
	}
}

func TestGoodLengths(t *testing.T) {
	for n := 0; n <= 70; n++ {
		s := strings.Repeat("x", n)
		if line.Good(api.Line{Now: s}) != (n <= 60) || line.Good(api.Line{Queue: []string{"a", s}}) != (n <= 60) {
			t.Errorf("a line of %d", n)
		}
		if line.Good(api.Line{Queue: make([]string, n)}) != (n <= 6) {
			t.Errorf("%d wait", n)
		}
	}
}

func TestFeedNotGood(t *testing.T) {
	for name, l := range bad() {
		for _, s := range []string{"", "a", "\r", "\n", "\x08", "\x00", "a\nb\nc\nd\ne\nf\ng\n"} {
			got, lost, err := line.Feed(l, s)
			if err != api.ErrRange || lost != 0 || !same(got, l) {
				t.Errorf("%s, %q: %+v, %d, %d", name, s, got, lost, err)
			}
		}
	}
}

// checkFeed feeds text, whole and byte by byte, and holds what is answered against what is wanted.
func checkFeed(t *testing.T, l api.Line, s string, want api.Line, lost int) {
	t.Helper()
	got, n, err := line.Feed(l, s)
	if err != api.OK || n != lost || !same(got, want) {
		t.Errorf("%+v, %q:\n got %+v, %d, %d\nwant %+v, %d", l, s, got, n, err, want, lost)
	}
	sum := 0
	for i := 0; i < len(s); i++ {
		if l, n, err = line.Feed(l, s[i:i+1]); err != api.OK || !line.Good(l) {
			t.Errorf("%q, byte %d: %+v, %d", s, i, l, err)
		}
		sum += n
	}
	if sum != lost || !same(l, want) {
		t.Errorf("%q, byte by byte:\n got %+v, %d\nwant %+v, %d", s, l, sum, want, lost)
	}
}

// ended is what comes of a line that ends, and how many found no room.
func ended(l api.Line, back bool) (api.Line, int) {
	if len(l.Queue) == 6 {
		return api.Line{Return: back, Queue: l.Queue}, 1
	}
	return api.Line{Return: back, Queue: slices.Concat(l.Queue, []string{l.Now})}, 0
}

func TestFeedEachByte(t *testing.T) {
	for _, l := range good() {
		checkFeed(t, l, "", l, 0)
		for b := 0; b < 256; b++ {
			want, lost := l, 0
			want.Return = false
			if b == 13 {
				want, lost = ended(l, true)
			}
			if b == 10 && !l.Return {
				want, lost = ended(l, false)
			}
			if (b == 8 || b == 127) && l.Now != "" {
				want.Now = l.Now[:len(l.Now)-1]
			}
			if b >= 32 && b <= 126 {
				if len(l.Now) < 60 {
					want.Now = l.Now + string([]byte{byte(b)})
				} else {
					want.Long = true
				}
			}
			checkFeed(t, l, string([]byte{byte(b)}), want, lost)
		}
	}
}

func TestFeedEnds(t *testing.T) {
	for s, want := range map[string]api.Line{
		"a\nb":             {Now: "b", Queue: []string{"a"}},
		"a\rb":             {Now: "b", Queue: []string{"a"}},
		"a\r\nb":           {Now: "b", Queue: []string{"a"}},
		"a\r\x00b":         {Now: "b", Queue: []string{"a"}},
		"a\n\rb":           {Now: "b", Queue: []string{"a", ""}},
		"a\n\nb":           {Now: "b", Queue: []string{"a", ""}},
		"a\r\rb":           {Now: "b", Queue: []string{"a", ""}},
		"a\r\n\nb":         {Now: "b", Queue: []string{"a", ""}},
		"a\r\x00\nb":       {Now: "b", Queue: []string{"a", ""}},
		"a\r\n\x00b":       {Now: "b", Queue: []string{"a"}},
		"a\r\x00\x00b":     {Now: "b", Queue: []string{"a"}},
		"a\r\x07\nb":       {Now: "b", Queue: []string{"a", ""}},
		"a\r\xff\nb":       {Now: "b", Queue: []string{"a", ""}},
		"a\r\x08\nb":       {Now: "b", Queue: []string{"a", ""}},
		"a\r \nb":          {Now: "b", Queue: []string{"a", " "}},
		"a\r\r\nb":         {Now: "b", Queue: []string{"a", ""}},
		"a\r\n\r\nb":       {Now: "b", Queue: []string{"a", ""}},
		"a\x00\nb":         {Now: "b", Queue: []string{"a"}},
		"\n":               {Queue: []string{""}},
		"\r":               {Return: true, Queue: []string{""}},
		"\r\n":             {Queue: []string{""}},
		"\x00":             {},
		"\x00\r\x00\r\x00": {Queue: []string{"", ""}},
	} {
		checkFeed(t, api.Line{}, s, want, 0)
	}
}

func TestFeedErases(t *testing.T) {
	for s, want := range map[string]api.Line{
		"\x08":                    {},
		"\x7f\x08a":               {Now: "a"},
		"ab\x08":                  {Now: "a"},
		"ab\x7f":                  {Now: "a"},
		"ab\x08\x7f\x08c":         {Now: "c"},
		"a\n\x08b":                {Now: "b", Queue: []string{"a"}},
		"a\r\x7f\x00b":            {Now: "b", Queue: []string{"a"}},
		full + "\x08g":            {Now: full[:59] + "g"},
		full + "x\x08":            {Now: full[:59], Long: true},
		full + "x\x08y":           {Now: full[:59] + "y", Long: true},
		full + "x\x08yz":          {Now: full[:59] + "y", Long: true},
		full + "\x07\x80\xff\x1f": {Now: full},
		"caf\u00e9\x08\x08t":      {Now: "ct"},
		"\u00e9\tx\x1b[A":         {Now: "x[A"},
	} {
		checkFeed(t, api.Line{}, s, want, 0)
	}
	checkFeed(t, api.Line{Now: full, Long: true}, strings.Repeat("\x7f", 61)+"x", api.Line{Now: "x", Long: true}, 0)
}

func TestFeedLong(t *testing.T) {
	checkFeed(t, api.Line{}, full, api.Line{Now: full}, 0)
	checkFeed(t, api.Line{}, full+"g", api.Line{Now: full, Long: true}, 0)
	checkFeed(t, api.Line{}, full+"ghi\n", api.Line{Queue: []string{full}}, 0)
	checkFeed(t, api.Line{}, full+"g\r", api.Line{Return: true, Queue: []string{full}}, 0)
	checkFeed(t, api.Line{}, full+"g\nh", api.Line{Now: "h", Queue: []string{full}}, 0)
	checkFeed(t, api.Line{Now: full, Long: true, Queue: queue(6)}, "g\nh", api.Line{Now: "h", Queue: queue(6)}, 1)
}

func TestFeedNoRoom(t *testing.T) {
	q := []string{"1", "2", "3", "4", "5", "6"}
	checkFeed(t, api.Line{}, "1\n2\n3\n4\n5\n6\n", api.Line{Queue: q}, 0)
	checkFeed(t, api.Line{}, "1\n2\n3\n4\n5\n6\n7\n", api.Line{Queue: q}, 1)
	checkFeed(t, api.Line{}, "1\n2\n3\n4\n5\n6\n7\r\n8\r\x009", api.Line{Now: "9", Queue: q}, 2)
	checkFeed(t, api.Line{Queue: q[:5]}, "6\r7\r", api.Line{Return: true, Queue: q}, 1)
	checkFeed(t, api.Line{Queue: q}, "\n\n\r\r\n\r", api.Line{Return: true, Queue: q}, 5)
	checkFeed(t, api.Line{Return: true, Queue: q}, "\n", api.Line{Queue: q}, 0)
}

func TestNext(t *testing.T) {
	for _, l := range good() {
		got, first, ok := line.Next(l)
		want := l
		if len(l.Queue) == 0 {
			if ok || first != "" || !same(got, l) {
				t.Errorf("%+v: %+v, %q, %v", l, got, first, ok)
			}
			continue
		}
		want.Queue = l.Queue[1:]
		if !ok || first != l.Queue[0] || !same(got, want) {
			t.Errorf("%+v: %+v, %q, %v", l, got, first, ok)
		}
	}
}

func TestNextOneByOne(t *testing.T) {
	l, _, _ := line.Feed(api.Line{}, "a\n\nc\nd")
	for _, want := range []string{"a", "", "c"} {
		var s string
		var ok bool
		if l, s, ok = line.Next(l); s != want || !ok {
			t.Errorf("%q, %v, want %q", s, ok, want)
		}
	}
	if got, s, ok := line.Next(l); ok || s != "" || got.Now != "d" || len(got.Queue) != 0 {
		t.Errorf("%+v, %q, %v", got, s, ok)
	}
}

// Next has no error: it takes the first, whatever else is wrong.
func TestNextNotGood(t *testing.T) {
	for name, l := range bad() {
		got, first, ok := line.Next(l)
		want := l
		if len(l.Queue) > 0 {
			want.Queue = l.Queue[1:]
			if first != l.Queue[0] {
				t.Errorf("%s: %q", name, first)
			}
		}
		if ok != (len(l.Queue) > 0) || !same(got, want) {
			t.Errorf("%s: %+v, %v", name, got, ok)
		}
	}
}

// What is handed in stays as it was, its spare room too, and is not what is answered.
func TestListsStay(t *testing.T) {
	for n := 0; n <= 6; n++ {
		room := slices.Concat(queue(n), []string{"s", "p", "a", "r", "e", "!", "?"})
		was := slices.Clone(room)
		l := api.Line{Now: "now", Queue: room[:n]}
		fed, _, _ := line.Feed(l, "x\r\ny\nz\n")
		alike, _, _ := line.Feed(l, "")
		wrong, _, _ := line.Feed(api.Line{Now: "\n", Queue: room[:n]}, "x\n")
		rest, _, _ := line.Next(l)
		for _, got := range []api.Line{fed, alike, wrong, rest} {
			for i := range got.Queue {
				got.Queue[i] = "mine"
			}
			_ = append(got.Queue, "mine")
		}
		if !slices.Equal(room, was) {
			t.Errorf("%d wait: %q, was %q", n, room, was)
		}
	}
}

func TestFeedMuch(t *testing.T) {
	s := strings.Repeat("abc\x08\x7f\x00\xff\tde"+full+"\r\n\n\r", 20000)
	l, lost, err := line.Feed(api.Line{}, s)
	if err != api.OK || lost != 3*20000-6 || len(l.Queue) != 6 || !l.Return || !line.Good(l) {
		t.Errorf("%+v, %d, %d", l, lost, err)
	}
	l, lost, err = line.Feed(api.Line{}, strings.Repeat("x", 1<<20))
	if err != api.OK || lost != 0 || len(l.Now) != 60 || !l.Long {
		t.Errorf("%d, %d, %d", len(l.Now), lost, err)
	}
}
