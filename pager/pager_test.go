package pager_test

import (
	"math"
	"slices"
	"strconv"
	"strings"
	"testing"

	"inglenook/api"
	"inglenook/pager"
)

// more is what is sent behind a full page.
const more = "-- more --\r\n"

// same is whether two are alike; a list without elements may be nil or not.
func same(a, b api.Page) bool {
	return slices.Equal(a.Wait, b.Wait) && a.Shown == b.Shown && a.Asking == b.Asking && a.Ring == b.Ring && a.Cut == b.Cut
}

// lines is n lines that wait, each another one.
func lines(n int) []string {
	var l []string
	for i := range n {
		l = append(l, "l"+strconv.Itoa(i))
	}
	return l
}

// bytesOf is a text of n bytes that does not look alike everywhere.
func bytesOf(n int) string {
	return strings.Repeat("0123456789abcdefghijklmnopqrstuvwxyz\xff\r\n\x00", n/40+1)[:n]
}

// good has pages as they may be, in each state that makes a difference.
func good() []api.Page {
	var ps []api.Page
	for _, waits := range []int{0, 1, 2, 59, 60} {
		for _, shown := range []int{0, 1, 5, 199, 200} {
			for _, ring := range []int{0, 1, 687, 688, 689, 699, 700} {
				for mask := range 4 {
					ps = append(ps, api.Page{Wait: lines(waits), Shown: shown, Asking: mask&1 != 0, Ring: bytesOf(ring), Cut: mask&2 != 0})
				}
			}
		}
	}
	return ps
}

// bad has pages that are not good, nearly each for one reason alone.
func bad() map[string]api.Page {
	return map[string]api.Page{
		"61 wait":            {Wait: lines(61)},
		"62 empty ones wait": {Wait: make([]string, 62)},
		"many wait":          {Wait: lines(10000)},
		"61 wait, Asking":    {Wait: lines(61), Asking: true, Shown: 7},
		"61 wait, Cut":       {Wait: lines(61), Cut: true},
		"701 bytes":          {Ring: bytesOf(701)},
		"701 bytes, Cut":     {Ring: bytesOf(701), Cut: true},
		"many bytes":         {Wait: lines(3), Ring: bytesOf(1 << 20)},
		"Shown -1":           {Wait: lines(2), Shown: -1},
		"Shown -1, Cut":      {Shown: -1, Cut: true},
		"Shown 201":          {Wait: lines(2), Shown: 201},
		"Shown 201, Asking":  {Shown: 201, Asking: true},
		"Shown least":        {Shown: math.MinInt64, Wait: lines(1)},
		"Shown greatest":     {Shown: math.MaxInt64, Wait: lines(1)},
		"all is wrong":       {Wait: lines(99), Shown: -5, Asking: true, Ring: bytesOf(999), Cut: true},
	}
}

func TestGood(t *testing.T) {
	for _, p := range good() {
		if !pager.Good(p) {
			t.Errorf("not good: %+v", p)
		}
	}
	for name, p := range bad() {
		if pager.Good(p) {
			t.Errorf("%s: good", name)
		}
	}
}

func TestGoodBounds(t *testing.T) {
	for n := -5; n <= 800; n++ {
		if pager.Good(api.Page{Shown: n}) != (n >= 0 && n <= 200) {
			t.Errorf("Shown %d", n)
		}
		if n < 0 {
			continue
		}
		if pager.Good(api.Page{Wait: make([]string, n)}) != (n <= 60) {
			t.Errorf("%d wait", n)
		}
		if pager.Good(api.Page{Ring: bytesOf(n)}) != (n <= 700) {
			t.Errorf("%d bytes", n)
		}
	}
	if !pager.Good(api.Page{Wait: []string{bytesOf(100000)}}) {
		t.Error("a line that waits may be of any length")
	}
}

func TestNotGood(t *testing.T) {
	for name, p := range bad() {
		for _, s := range []string{"", "a", bytesOf(800)} {
			if got, err := pager.Tell(p, s); err != api.ErrRange || !same(got, p) {
				t.Errorf("%s: Tell %+v, %d", name, got, err)
			}
			if got, err := pager.Send(p, s); err != api.ErrRange || !same(got, p) {
				t.Errorf("%s: Send %+v, %d", name, got, err)
			}
		}
		for _, h := range []int{-1, 0, 1, 5, 200, 201} {
			if got, err := pager.Flow(p, h); err != api.ErrRange || !same(got, p) {
				t.Errorf("%s: Flow by %d %+v, %d", name, h, got, err)
			}
		}
	}
}

func TestTell(t *testing.T) {
	for _, p := range good() {
		for _, s := range []string{"", "x", "\xff\r\n", bytesOf(5000)} {
			want, code := p, api.OK
			switch {
			case p.Cut:
				code = api.ErrCut
			case len(p.Wait) == 60:
				want.Cut = true
			default:
				want.Wait = slices.Concat(p.Wait, []string{s})
			}
			if got, err := pager.Tell(p, s); err != code || !same(got, want) {
				t.Errorf("%+v, %q:\n got %+v, %d\nwant %+v, %d", p, s, got, err, want, code)
			}
		}
	}
}

func TestTellOneByOne(t *testing.T) {
	var p api.Page
	for i, s := range lines(60) {
		var err api.Errno
		if p, err = pager.Tell(p, s); err != api.OK || p.Cut || !slices.Equal(p.Wait, lines(i+1)) {
			t.Fatalf("line %d: %+v, %d", i, p, err)
		}
	}
	p, err := pager.Tell(p, "no room")
	if want := (api.Page{Wait: lines(60), Cut: true}); err != api.OK || !same(p, want) {
		t.Errorf("%+v, %d", p, err)
	}
	for range 2 {
		if got, err := pager.Tell(p, "cut"); err != api.ErrCut || !same(got, p) {
			t.Errorf("%+v, %d", got, err)
		}
	}
}

func TestSend(t *testing.T) {
	for _, p := range good() {
		for _, n := range []int{0, 1, 2, 11, 12, 13, 14, 699, 700, 701, 5000} {
			s := bytesOf(n)
			want, code := p, api.OK
			switch {
			case p.Cut:
				code = api.ErrCut
			case len(p.Ring)+n > 700:
				want.Cut = true
			default:
				want.Ring = p.Ring + s
			}
			if got, err := pager.Send(p, s); err != code || !same(got, want) {
				t.Errorf("%+v, %d bytes:\n got %+v, %d\nwant %+v, %d", p, n, got, err, want, code)
			}
		}
	}
}

// What is sent goes as it is: only lines that are shown are escaped, and end.
func TestSendIsPlain(t *testing.T) {
	p, err := pager.Send(api.Page{Ring: "a\xff"}, "\xff\xfb\x01\n")
	if err != api.OK || p.Ring != "a\xff\xff\xfb\x01\n" {
		t.Errorf("%q, %d", p.Ring, err)
	}
}

// checkFlow holds what comes of a flow against what is wanted; what has flowed does so no further.
func checkFlow(t *testing.T, p api.Page, height int, want api.Page) {
	t.Helper()
	got, err := pager.Flow(p, height)
	if err != api.OK || !same(got, want) {
		t.Errorf("%+v by %d:\n got %+v, %d\nwant %+v", p, height, got, err, want)
	}
	if !pager.Good(got) {
		t.Errorf("%+v by %d: not good: %+v", p, height, got)
	}
	if again, err := pager.Flow(got, height); err != api.OK || !same(again, got) {
		t.Errorf("%+v by %d, again: %+v, %d", p, height, again, err)
	}
}

func TestFlowHeights(t *testing.T) {
	for _, p := range good() {
		for _, h := range []int{math.MinInt64, -200, -1, 201, 202, math.MaxInt64} {
			if got, err := pager.Flow(p, h); err != api.ErrRange || !same(got, p) {
				t.Errorf("%+v by %d: %+v, %d", p, h, got, err)
			}
		}
		for _, h := range []int{0, 1, 100, 199, 200} {
			if _, err := pager.Flow(p, h); err != api.OK {
				t.Errorf("%+v by %d: %d", p, h, err)
			}
		}
	}
}

// Nothing flows where nothing waits, where it is asked for more, and where it is cut: that is no error.
func TestFlowNothing(t *testing.T) {
	for _, p := range good() {
		if len(p.Wait) > 0 && !p.Asking && !p.Cut {
			continue
		}
		for _, h := range []int{0, 1, 5, 200} {
			checkFlow(t, p, h, p)
		}
	}
}

func TestFlowNoEnd(t *testing.T) {
	checkFlow(t, api.Page{}, 0, api.Page{})
	checkFlow(t, api.Page{Wait: []string{""}}, 0, api.Page{Shown: 1, Ring: "\r\n"})
	checkFlow(t, api.Page{Wait: []string{"a", "", "b c"}, Ring: "was "}, 0, api.Page{Shown: 3, Ring: "was a\r\n\r\nb c\r\n"})
	checkFlow(t, api.Page{Wait: []string{"a", "b"}, Shown: 200}, 0, api.Page{Shown: 200, Ring: "a\r\nb\r\n"})
	checkFlow(t, api.Page{Wait: []string{"a", "b"}, Shown: 199}, 0, api.Page{Shown: 200, Ring: "a\r\nb\r\n"})
	checkFlow(t, api.Page{Wait: []string{"a", "b"}, Shown: 198}, 0, api.Page{Shown: 200, Ring: "a\r\nb\r\n"})
	all := strings.Join(lines(60), "\r\n") + "\r\n"
	checkFlow(t, api.Page{Wait: lines(60)}, 0, api.Page{Shown: 60, Ring: all})
}

func TestFlowEscapes(t *testing.T) {
	for s, want := range map[string]string{
		"\xff":            "\xff\xff\r\n",
		"\xff\xff":        "\xff\xff\xff\xff\r\n",
		"a\xffb\xfe\x00c": "a\xff\xffb\xfe\x00c\r\n",
		"\r\n":            "\r\n\r\n",
		"caf\u00e9":       "caf\u00e9\r\n",
	} {
		checkFlow(t, api.Page{Wait: []string{s}}, 1, api.Page{Shown: 1, Ring: want})
	}
	// What is in Ring was sent before: it is not escaped again.
	checkFlow(t, api.Page{Wait: []string{"a"}, Ring: "\xff\xff\xff"}, 0, api.Page{Shown: 1, Ring: "\xff\xff\xffa\r\n"})
}

// At the end of a page it is asked for more, if a line waits.
func TestFlowPages(t *testing.T) {
	for waits := range 8 {
		for shown := range 8 {
			for height := 1; height < 8; height++ {
				fits := max(min(waits, height-shown), 0)
				ring := ""
				for _, s := range lines(fits) {
					ring += s + "\r\n"
				}
				want := api.Page{Wait: lines(waits)[fits:], Shown: shown + fits, Ring: ring}
				if fits < waits {
					want.Asking = true
					want.Ring += more
				}
				checkFlow(t, api.Page{Wait: lines(waits), Shown: shown}, height, want)
			}
		}
	}
}

func TestFlowHighPages(t *testing.T) {
	two := []string{"a", "b"}
	checkFlow(t, api.Page{Wait: two, Shown: 198}, 200, api.Page{Shown: 200, Ring: "a\r\nb\r\n"})
	checkFlow(t, api.Page{Wait: two, Shown: 199}, 200, api.Page{Wait: two[1:], Shown: 200, Asking: true, Ring: "a\r\n" + more})
	checkFlow(t, api.Page{Wait: two, Shown: 200}, 200, api.Page{Wait: two, Shown: 200, Asking: true, Ring: more})
	checkFlow(t, api.Page{Wait: two, Shown: 200}, 1, api.Page{Wait: two, Shown: 200, Asking: true, Ring: more})
	checkFlow(t, api.Page{Wait: two, Shown: 198}, 199, api.Page{Wait: two[1:], Shown: 199, Asking: true, Ring: "a\r\n" + more})
}

// A page of five lines: the sixth is not shown until the page is turned.
func TestFlowAndTurn(t *testing.T) {
	p := api.Page{Wait: lines(12)}
	out := ""
	for page, want := range []string{"l0\r\nl1\r\nl2\r\nl3\r\nl4\r\n" + more, "l5\r\nl6\r\nl7\r\nl8\r\nl9\r\n" + more, "l10\r\nl11\r\n"} {
		var err api.Errno
		if p, err = pager.Flow(p, 5); err != api.OK {
			t.Fatal(err)
		}
		p, out = pager.Take(p, 1000)
		if out != want || p.Asking != (page < 2) {
			t.Errorf("page %d: %q, %+v", page, out, p)
		}
		if p.Asking {
			p = pager.Turn(p)
		}
	}
	// The last page was not turned: two lines of it are shown.
	p.Wait = lines(4)
	checkFlow(t, p, 5, api.Page{Wait: []string{"l3"}, Shown: 5, Asking: true, Ring: "l0\r\nl1\r\nl2\r\n" + more})
}

// A line that has no room cuts: it is gone, and is among those shown; what waits behind it stays.
func TestFlowCutByLine(t *testing.T) {
	for _, h := range []int{0, 5} {
		rest := []string{"b", "c"}
		for ring := 690; ring <= 700; ring++ {
			p := api.Page{Wait: []string{"abcd", "b", "c"}, Ring: bytesOf(ring)}
			want := api.Page{Wait: rest, Shown: 1, Ring: bytesOf(ring), Cut: true}
			if ring <= 694 {
				want = api.Page{Wait: rest[1:], Shown: 2, Ring: bytesOf(ring) + "abcd\r\n", Cut: true}
			}
			if ring <= 691 {
				want = api.Page{Shown: 3, Ring: bytesOf(ring) + "abcd\r\nb\r\n", Cut: true}
			}
			checkFlow(t, p, h, want)
		}
	}
	checkFlow(t, api.Page{Wait: []string{""}, Ring: bytesOf(698)}, 0, api.Page{Shown: 1, Ring: bytesOf(698) + "\r\n"})
	checkFlow(t, api.Page{Wait: []string{""}, Ring: bytesOf(699)}, 0, api.Page{Shown: 1, Ring: bytesOf(699), Cut: true})
	checkFlow(t, api.Page{Wait: []string{"x"}, Ring: bytesOf(700), Shown: 200}, 0, api.Page{Shown: 200, Ring: bytesOf(700), Cut: true})
}

// What counts is what is sent: each IAC is two bytes.
func TestFlowCutByEscape(t *testing.T) {
	iacs := strings.Repeat("\xff", 349)
	checkFlow(t, api.Page{Wait: []string{iacs}}, 0, api.Page{Shown: 1, Ring: iacs + iacs + "\r\n"})
	checkFlow(t, api.Page{Wait: []string{iacs}, Ring: "x"}, 0, api.Page{Shown: 1, Ring: "x", Cut: true})
	checkFlow(t, api.Page{Wait: []string{iacs + "\xff"}}, 9, api.Page{Shown: 1, Cut: true})
	checkFlow(t, api.Page{Wait: []string{bytesOf(1 << 20), "b"}}, 9, api.Page{Wait: []string{"b"}, Shown: 1, Cut: true})
}

// If there is no room to ask for more, it is asked for nonetheless, and the page is cut.
func TestFlowCutByMore(t *testing.T) {
	for ring := 680; ring <= 700; ring++ {
		p := api.Page{Wait: lines(2), Shown: 3, Ring: bytesOf(ring)}
		want := p
		want.Asking = true
		if ring+12 <= 700 {
			want.Ring += more
		} else {
			want.Cut = true
		}
		checkFlow(t, p, 3, want)
	}
	checkFlow(t, api.Page{Wait: []string{"a", "b"}, Ring: bytesOf(686)}, 1, api.Page{Wait: []string{"b"}, Shown: 1, Asking: true, Ring: bytesOf(686) + "a\r\n", Cut: true})
	checkFlow(t, api.Page{Wait: []string{"a", "b"}, Ring: bytesOf(685)}, 1, api.Page{Wait: []string{"b"}, Shown: 1, Asking: true, Ring: bytesOf(685) + "a\r\n" + more})
}

// Turn has no error: it is the same of pages that are not good.
func TestTurn(t *testing.T) {
	pages := good()
	for _, p := range bad() {
		pages = append(pages, p)
	}
	for _, p := range pages {
		want := p
		want.Asking, want.Shown = false, 0
		if got := pager.Turn(p); !same(got, want) {
			t.Errorf("%+v: %+v", p, got)
		}
	}
}

// Take has no error, too.
func TestTake(t *testing.T) {
	pages := good()
	for _, p := range bad() {
		pages = append(pages, p)
	}
	for _, p := range pages {
		for _, n := range []int{math.MinInt64, -700, -1, 0, 1, 2, 688, 699, 700, 701, 5000, 1 << 20, math.MaxInt64} {
			k := 0
			if n > 0 {
				k = min(n, len(p.Ring))
			}
			want := p
			want.Ring = p.Ring[k:]
			if got, out := pager.Take(p, n); out != p.Ring[:k] || !same(got, want) {
				t.Errorf("%d of %d: %q, %+v", n, len(p.Ring), out, got)
			}
		}
	}
}

func TestTakePiecewise(t *testing.T) {
	for step := 1; step <= 9; step++ {
		p := api.Page{Wait: lines(2), Ring: bytesOf(100)}
		out := ""
		for p.Ring != "" {
			var s string
			if p, s = pager.Take(p, step); len(s) > step {
				t.Fatalf("%q", s)
			}
			out += s
		}
		if out != bytesOf(100) || !slices.Equal(p.Wait, lines(2)) {
			t.Errorf("by %d: %q, %+v", step, out, p)
		}
	}
}

// What was taken makes room.
func TestTakeMakesRoom(t *testing.T) {
	p, _ := pager.Take(api.Page{Ring: bytesOf(700)}, 3)
	p, err := pager.Send(p, "xyz")
	if err != api.OK || p.Cut || p.Ring != bytesOf(700)[3:]+"xyz" {
		t.Errorf("%+v, %d", p, err)
	}
}

// What is handed in stays as it was, its spare room too, and is not what is answered.
func TestListsStay(t *testing.T) {
	for _, n := range []int{0, 1, 3, 59, 60, 61} {
		for _, cut := range []bool{false, true} {
			room := slices.Concat(lines(n), []string{"s", "p", "a", "r", "e"})
			was := slices.Clone(room)
			p := api.Page{Wait: room[:n], Cut: cut}
			told, _ := pager.Tell(p, "x")
			sent, _ := pager.Send(p, "x")
			full, _ := pager.Send(p, bytesOf(701))
			flowed, _ := pager.Flow(p, 2)
			wrong, _ := pager.Flow(p, -1)
			rest, _ := pager.Take(p, 1)
			for _, got := range []api.Page{told, sent, full, flowed, wrong, rest, pager.Turn(p)} {
				for i := range got.Wait {
					got.Wait[i] = "mine"
				}
				_ = append(got.Wait, "mine")
			}
			if !slices.Equal(room, was) {
				t.Errorf("%d wait: %q, was %q", n, room, was)
			}
		}
	}
}

// Two pages that come of one are told apart.
func TestTellTwice(t *testing.T) {
	p, _ := pager.Tell(api.Page{Wait: lines(3)}, "a")
	q, _ := pager.Tell(p, "b")
	r, _ := pager.Tell(p, "c")
	if q.Wait[4] != "b" || r.Wait[4] != "c" || len(p.Wait) != 4 {
		t.Errorf("%q, %q, %q", p.Wait, q.Wait, r.Wait)
	}
}
