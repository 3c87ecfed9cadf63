package house_test

import (
	"math"
	"slices"
	"strings"
	"testing"

	"inglenook/api"
	"inglenook/land"
	"inglenook/rules"
)

// P8.5

// Everybody who plays is told what they perceive, each in their own way; who is Naming, or elsewhere, is told nothing.
func TestHappens(t *testing.T) {
	p := open(t)
	p.enters(3, "ann")
	p.enters(0, "bob")
	p.come(1)
	p.enters(2, "dan")
	p.types(2, "north")
	p.told(2, "You go north.", "The yard.", "Ways: south", "Here is coin.")
	p.told(3, "dan goes north.")
	p.told(0, "dan goes north.")
	p.told(1)
	p.types(3, "get mug")
	p.told(3, "You get the mug.")
	p.told(0, "ann gets a mug.")
	p.told(1)
	p.told(2)
	p.types(3, "give mug to bob")
	p.told(3, "You give the mug to bob.")
	p.told(0, "ann gives a mug to you.")
	if l := p.Last(); len(l) != 1 || l[0].Actor != 2 || l[0].Other != 3 || l[0].Thing != "mug" {
		t.Errorf("%+v", l)
	}
}

// What a house tells of its own accord is nothing that happens.
func TestToldIsNoEvent(t *testing.T) {
	p := open(t)
	p.come(0)
	p.kinds()
	p.types(0, "No Name")
	p.told(0, "That is no name.")
	p.kinds()
	p.types(0, "ann", "dance")
	p.told(0, "What?")
	p.kinds()
}

// P8.6

func TestNaming(t *testing.T) {
	p := open(t)
	p.come(0)
	for _, s := range []string{"", "   ", "Ann", "an n", "ann1", "abcdefghi", "someone", "you", "cat", "rat"} {
		p.types(0, s)
		p.told(0, "That is no name.")
		p.state(0, api.Naming, -1)
	}
	if p.Land() != land.New() {
		t.Errorf("%+v", p.Land())
	}
	p.types(0, "   abcdefgh  ")
	p.state(0, api.Playing, 2)
	p.kinds(api.Arrived, api.Told, api.Told, api.Told, api.Told)
	p.told(0, "Be welcome.", "The hearth.", "Ways: north east up down*", "Here is lamp cloak mug box*.", "cat is here.")
	w, _, row, _ := rules.Enter(land.New(), "abcdefgh")
	if p.Land() != w || !slices.Equal(p.Last(), row) {
		t.Errorf("%+v, %+v", p.Land(), p.Last())
	}
	// the name is taken, as long as somebody has it
	p.come(1)
	p.types(1, "abcdefgh")
	p.told(1, "That is no name.")
	p.told(0)
	p.leave(0)
	p.types(1, "abcdefgh")
	p.state(1, api.Playing, 2)
}

// Whose names come in one pulse enter seat by seat.
func TestNamingSeatBySeat(t *testing.T) {
	p := open(t)
	for _, i := range []int{3, 1, 0, 2} {
		p.come(i)
		p.feed(i, string(rune('a'+i))+"\r\n")
	}
	p.pulse(0)
	for i := range api.Seats {
		p.state(i, api.Playing, 2+i)
	}
	p.told(2, "Be welcome.", "The hearth.", "Ways: north east up down*", "Here is lamp cloak mug box*.", "cat is here.", "a is here.", "b is here.", "d arrives.")
	p.told(3, "Be welcome.", "The hearth.", "Ways: north east up down*", "Here is lamp cloak mug box*.", "cat is here.", "a is here.", "b is here.", "c is here.")
}

func TestOrders(t *testing.T) {
	p := open(t)
	p.enters(1, "ann")
	for _, s := range []string{"", "  ", "dance", "get", "quit now", "look cat", "say", "put mug", "3x"} {
		before := p.Land()
		p.types(1, s)
		p.told(1, "What?")
		p.kinds()
		if p.Land() != before {
			t.Errorf("%q: %+v", s, p.Land())
		}
	}
	p.types(1, "GET Mug")
	p.told(1, "You get the mug.")
	p.types(1, "say  So it IS ")
	p.told(1, "You say: So it IS")
	p.types(1, "hit rat")
	p.told(1, "There is nobody of that name.")
	p.kinds(api.Told)
	p.types(1, "d")
	p.told(1, "It is shut.")
}

// In a pulse each seat has one line done, by their order.
func TestSeatBySeat(t *testing.T) {
	p := open(t)
	p.enters(2, "ann")
	p.enters(1, "bob")
	p.feed(2, "get mug\r\nsay second\r\n")
	p.feed(1, "get mug\r\ndrop mug\r\n")
	p.pulse(0)
	p.told(1, "You get the mug.")
	p.told(2, "bob gets a mug.", "There is no such thing.")
	p.kinds(api.Got, api.Told)
	if l := p.Line(2); !slices.Equal(l.Queue, []string{"say second"}) {
		t.Errorf("%+v", l)
	}
	p.pulse(0)
	p.told(1, "You drop the mug.", "ann says: second")
	p.pulse(0)
	p.told(1)
	p.told(2)
}

func TestQuit(t *testing.T) {
	p := open(t)
	p.enters(0, "ann")
	p.enters(1, "bob")
	p.enters(2, "dan")
	p.types(1, "get lamp")
	p.feed(1, " QU \r\nsay more\r\n")
	p.feed(2, "get lamp\r\n")
	p.pulse(0)
	p.gone(1)
	p.told(0, "bob fades.", "dan gets a lamp.")
	p.told(2, "bob fades.", "You get the lamp.")
	p.kinds(api.Faded, api.Got)
	if p.Land().Beings[3].Here {
		t.Error("bob is still about")
	}
	// whose name is free again in the same pulse
	p.come(3)
	p.feed(0, "quit\r\n")
	p.feed(3, "ann\r\n")
	p.pulse(0)
	p.gone(0)
	p.state(3, api.Playing, 2)
	p.told(2, "ann fades.", "ann arrives.")
}

// Behind all seats there is a round of all fights, by the draw.
func TestRound(t *testing.T) {
	for draw, wants := range map[int][2]string{0: {"3", "1"}, 1: {"1", "2"}, 2: {"2", "3"}, -1: {"2", "3"}, math.MaxInt64: {"1", "2"}, math.MinInt64: {"1", "2"}} {
		p := open(t)
		p.enters(0, "ann") // being 2
		p.enters(1, "bob") // being 3
		p.feed(0, "hit bob\r\n")
		p.feed(1, "say no\r\n")
		p.pulse(draw)
		p.told(0, "You fight.", "bob says: no", "You hit bob for "+wants[0]+".", "bob hits you for "+wants[1]+".")
		p.told(1, "You say: no", "ann hits you for "+wants[0]+".", "You hit ann for "+wants[1]+".")
		p.kinds(api.Told, api.Said, api.Struck, api.Struck)
		// a round is fought also where nobody types
		p.pulse(draw)
		p.kinds(api.Struck, api.Struck)
		p.told(0, "You hit bob for "+wants[0]+".", "bob hits you for "+wants[1]+".")
		// nobody fights in other acts
		p.feed(0, "")
		p.kinds()
	}
}

func TestNoRoundOfWhoQuits(t *testing.T) {
	p := open(t)
	p.enters(0, "ann")
	p.enters(1, "bob")
	p.feed(0, "hit bob\r\n")
	p.feed(1, "quit\r\n")
	p.pulse(0)
	p.told(0, "You fight.", "bob fades.")
	p.kinds(api.Told, api.Faded)
}

// Who dies begins again, at the same seat.
func TestDeath(t *testing.T) {
	p := open(t)
	p.enters(0, "ann")
	p.enters(1, "bob")
	p.types(1, "get mug", "hit ann") // 1 of ann, 3 of bob
	for p.Land().Beings[3].Health > 3 {
		p.pulse(0)
	}
	p.pulse(0)
	p.kinds(api.Struck, api.Died, api.Arrived, api.Told, api.Told, api.Told, api.Told, api.Told)
	p.told(0, "You hit bob for 3.", "bob dies.", "bob arrives.")
	p.told(1, "ann hits you for 3.", "You die.", "Be welcome.", "The hearth.", "Ways: north east up down*", "Here is lamp cloak mug box*.", "cat is here.", "ann is here.")
	p.state(1, api.Playing, 3)
	if w := p.Land(); w.Beings[3].Health != api.MaxHealth || w.Beings[2].Foe != 0 {
		t.Errorf("%+v", w.Beings)
	}
}

// A page is turned by a line, whatever it says, and by nothing else; that line does nothing else.
func TestPages(t *testing.T) {
	p := open(t)
	p.enters(0, "ann")
	p.height(0, 2)
	p.types(0, "look") // four lines
	if s := p.takes(0, 999); s != "The hearth.\r\nWays: north east up down*\r\n-- more --\r\n" {
		t.Errorf("%q", s)
	}
	for range 3 {
		p.pulse(0)
		p.feed(0, "qui")
		if g := p.Page(0); !g.Asking || g.Shown != 2 || len(g.Wait) != 2 || g.Ring != "" {
			t.Fatalf("%+v", g)
		}
		p.feed(0, "\b\b\b")
	}
	p.types(0, "quit")
	p.told(0)
	p.kinds()
	p.state(0, api.Playing, 2)
	if s := p.takes(0, 999); s != "Here is lamp cloak mug box*.\r\ncat is here.\r\n" {
		t.Errorf("%q", s)
	}
	if g := p.Page(0); g.Asking || g.Shown != 2 {
		t.Errorf("%+v", g)
	}
	// the page is full, but nobody was asked yet: without a line it stays so
	p.pulse(0)
	if g := p.Page(0); g.Asking || g.Shown != 2 {
		t.Errorf("%+v", g)
	}
	p.types(0, "say boo")
	p.told(0, "You say: boo")
	if g := p.Page(0); g.Asking || g.Shown != 1 || g.Ring != "You say: boo\r\n" {
		t.Errorf("%+v", g)
	}
}

// What others do fills a page, too.
func TestPageFilledByOthers(t *testing.T) {
	p := open(t)
	p.enters(0, "ann")
	p.height(0, 5)
	p.enters(1, "bob")
	p.types(0, "say go") // the first line of a page
	p.takes(0, 999)
	for _, s := range []string{"2", "3", "4", "5"} {
		p.types(1, "say "+s)
		if out := p.takes(0, 999); out != "bob says: "+s+"\r\n" {
			t.Fatalf("%q", out)
		}
	}
	p.types(1, "say 6")
	p.told(0, "bob says: 6")
	if out := p.takes(0, 999); out != "-- more --\r\n" {
		t.Errorf("%q", out)
	}
	p.types(0, "say never")
	if out := p.takes(0, 999); out != "bob says: 6\r\n" {
		t.Errorf("%q", out)
	}
	p.told(1)
}

// Who is asked for more while Naming types a line for that, that is no name.
func TestPageWhileNaming(t *testing.T) {
	p := open(t)
	p.come(0)
	p.height(0, 1)
	p.feed(0, strings.Repeat("x\r\n", api.MaxQueue+1))
	p.told(0, "Not so fast.")
	if g := p.Page(0); !g.Asking || len(g.Wait) != 1 {
		t.Fatalf("%+v", g)
	}
	p.pulse(0)
	p.state(0, api.Naming, -1)
	p.told(0)
	if s := p.takes(0, 999); s != hello+"-- more --\r\nNot so fast.\r\n" {
		t.Errorf("%q", s)
	}
	p.pulse(0)
	p.state(0, api.Playing, 2)
}

// P8.7

// refuse is bytes to which so many times three bytes are answered.
func refuse(n int) string { return strings.Repeat("\xff\xfd\x05", n) }

// Behind each act that goes well all flows, so that lines don't wait where there is a page for them.
func TestFlows(t *testing.T) {
	p := open(t)
	p.enters(0, "ann")
	p.enters(1, "bob")
	p.takes(0, 999)
	p.leave(1)
	if g := p.Page(0); g.Ring != "bob fades.\r\n" || len(g.Wait) != 0 {
		t.Errorf("%+v", g)
	}
	p.height(0, 1)
	p.types(0, "look")
	// a page without an end is not shown ahead of a line that is typed
	p.height(0, 0)
	if g := p.Page(0); !g.Asking || len(g.Wait) != 3 {
		t.Errorf("%+v", g)
	}
	p.types(0, "")
	if g := p.Page(0); g.Asking || len(g.Wait) != 0 {
		t.Errorf("%+v", g)
	}
}

// A ring may be full; a byte more is too much.
func TestFullRing(t *testing.T) {
	p := open(t)
	p.come(0)
	p.takes(0, 1)
	p.feed(0, refuse(227))
	if g := p.Page(0); len(g.Ring) != api.MaxRing {
		t.Fatalf("%d", len(g.Ring))
	}
	p.state(0, api.Naming, -1)
	p.feed(0, "ann\r\n")
	p.state(0, api.Naming, -1)
	p.takes(0, 2)
	p.feed(0, refuse(1))
	p.gone(0)
	// by a line that flows
	p.come(0)
	p.takes(0, 1)
	p.feed(0, refuse(227))
	p.types(0, "Ann")
	p.gone(0)
}

// Who never takes what goes out is cut off; what they have falls, and others hear of it.
func TestCutByRing(t *testing.T) {
	p := open(t)
	p.enters(0, "ann")
	p.enters(3, "bob")
	p.types(3, "get mug")
	p.takes(3, 999)
	long := strings.Repeat("x", 50)
	for len(p.Page(3).Ring) <= api.MaxRing-len("ann says: \r\n")-50 {
		p.types(0, "say "+long)
		p.told(3, "ann says: "+long)
		p.takes(0, 999)
	}
	p.types(0, "say "+long)
	p.gone(3)
	p.told(0, "You say: "+long, "bob fades.")
	p.kinds(api.Said, api.Faded)
	// seat 0 has flowed ahead of seat 3, and flows again
	if g := p.Page(0); len(g.Wait) != 0 || g.Ring != "You say: "+long+"\r\nbob fades.\r\n" {
		t.Errorf("%+v", g)
	}
	if w := p.Land(); w.Beings[3].Here || w.Things[6].Where != api.InRoom {
		t.Errorf("%+v", w)
	}
}

// fill has a seat talk until so many lines wait for another one, who is asked for more.
func (p party) fill(talker, seat, n int) {
	p.Helper()
	p.height(seat, 1)
	for len(p.Page(seat).Wait) < n {
		p.types(talker, "say x")
		p.relieve()
	}
	if g := p.Page(seat); !g.Asking || len(g.Wait) != n || g.Cut {
		p.Fatalf("%+v", g)
	}
}

// relieve takes what goes out of all seats that have little room left.
func (p party) relieve() {
	p.Helper()
	for i := range api.Seats {
		if len(p.Page(i).Ring) > api.MaxRing/2 {
			p.takes(i, 999)
		}
	}
}

// MaxWait lines may wait; one more is too much, even if a line that turns the page is typed ahead of it or behind it in the same pulse.
func TestCutByWait(t *testing.T) {
	for _, seats := range [][2]int{{0, 1}, {1, 0}} {
		for _, typed := range []string{"", "look\r\n"} {
			p := open(t)
			talker, full := seats[0], seats[1]
			p.enters(talker, "ann")
			p.enters(full, "bob")
			p.fill(talker, full, api.MaxWait)
			p.state(full, api.Playing, 3)
			p.feed(full, typed)
			p.types(talker, "say x")
			p.gone(full)
			p.told(talker, "You say: x", "bob fades.")
		}
	}
}

// A line that is typed in time makes room.
func TestTurnMakesRoom(t *testing.T) {
	p := open(t)
	p.enters(0, "ann")
	p.enters(1, "bob")
	p.fill(0, 1, api.MaxWait)
	p.takes(1, 999)
	p.types(1, "")
	if g := p.Page(1); len(g.Wait) != api.MaxWait-1 || !g.Asking {
		t.Fatalf("%+v", g)
	}
	p.types(0, "say x")
	p.told(1, "ann says: x")
	p.state(1, api.Playing, 3)
}

// By somebody who leaves there may be too much for somebody else; all others are told of both, and it flows.
func TestCutByCut(t *testing.T) {
	p := open(t)
	p.enters(0, "ann")
	p.enters(1, "bob")
	p.enters(2, "dan")
	p.fill(0, 1, api.MaxWait)
	p.takes(0, 999)
	p.takes(2, 999)
	p.feed(2, refuse(300))
	p.gone(1)
	p.gone(2)
	p.told(0, "dan fades.", "bob fades.")
	p.kinds(api.Faded, api.Faded)
	if g := p.Page(0); len(g.Wait) != 0 || g.Ring != "dan fades.\r\nbob fades.\r\n" {
		t.Errorf("%+v", g)
	}
	if l := p.Last(); l[0].Who != "dan" || l[1].Who != "bob" {
		t.Errorf("%+v", l)
	}
}

// Of those for whom it is too much at once the first seat leaves first; who is cut off is told nothing of the others.
func TestCutTogether(t *testing.T) {
	p := open(t)
	p.enters(0, "ann")
	p.enters(1, "bob")
	p.enters(2, "dan")
	p.height(2, 1)
	p.fill(0, 1, api.MaxWait)
	if g := p.Page(2); len(g.Wait) != api.MaxWait || !g.Asking {
		t.Fatalf("%+v", g)
	}
	p.types(0, "say x")
	p.gone(1)
	p.gone(2)
	p.told(0, "You say: x", "bob fades.", "dan fades.")
	p.kinds(api.Said, api.Faded, api.Faded)
}

// All seats flow ahead of those again for whom there is too much by who left.
func TestCutRoundByRound(t *testing.T) {
	p := open(t)
	p.enters(0, "ann")
	p.enters(1, "bob")
	p.enters(2, "dan")
	p.enters(3, "eve")
	p.fill(3, 0, api.MaxWait)
	for _, i := range []int{1, 2} {
		p.takes(i, 999)
		p.feed(i, refuse(api.MaxRing/3)+"dance\r\n")
	}
	p.pulse(0)
	for i := range 3 {
		p.gone(i)
	}
	p.told(3, "bob fades.", "dan fades.", "ann fades.")
	p.kinds(api.Faded, api.Faded, api.Faded)
}

// The examples of the document.

func TestExamples(t *testing.T) {
	p := open(t)
	p.enters(0, "ann")
	p.enters(1, "bob")
	p.types(0, "get cloak", "wear cloak")
	p.told(1, "ann puts on a cloak.")
	p.types(0, "say boo")
	p.told(1, "someone says: boo")
	p.types(0, "get mug")
	p.told(0, "You get the mug.")
	p.told(1)
	if l := p.Last(); len(l) != 1 || l[0].By != [api.Beings]int{api.Heard, 0, api.Heard, 0, 0, 0} {
		t.Errorf("the cat sees all of it: %+v", l)
	}
	p.types(1, "get lamp", "east")
	p.told(1, "You go east.", "It is dark.")
	p.types(1, "light lamp")
	p.told(1, "You light the lamp.")
	p.types(1, "look")
	p.told(1, "The pantry.", "Ways: west")
	// who is hidden leaves unseen, and nobody hears of it
	p.types(0, "quit")
	p.gone(0)
	p.told(1)
	p.kinds(api.Faded)
}
