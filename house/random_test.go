package house_test

import (
	"math"
	"math/rand"
	"slices"
	"testing"

	"inglenook/api"
	"inglenook/house"
	"inglenook/land"
	"inglenook/line"
	"inglenook/pager"
	"inglenook/sense"
)

// phrases is what is typed, or comes otherwise.
var phrases = []string{
	"ann\r\n", "bob\n", " dan \r\n", "eve\r\n", "Fay\r\n", "\r\n", "look\r\n", "look\r\n", "n\r\n", "e\r\n", "u\r\n", "s\r\n", "w\r\n", "d\r\n",
	"get all\r\n", "drop all\r\n", "get coin from chest\r\n", "put mug in box\r\n", "give mug ann\r\n", "say boo\r\n", "open down\r\n", "close box\r\n",
	"light lamp\r\n", "douse lamp\r\n", "wear cloak\r\n", "doff cloak\r\n", "hit cat\r\n", "hit ann\r\n", "hit bob\r\n", "i\r\n", "quit\r\n", "dance\r\n",
	"\xff", "\xff\xfd\x05", "\xff\xfb\x1f\xff\xfa\x1f\x00\x50\x00\x03\xff\xf0", "\xff\xfb\x1f\xff\xfa\x1f\x00\x50\xff\xff\x00\xff\xf0", "\xff\xfc\x1f",
	"look\r\nlook\r\nlook\r\nlook\r\nlook\r\nlook\r\nlook\r\nlook\r\n", "\x00\x01\x7f\x08", "say \xff\xff\xe9\r\n",
}

// anyAct is an act, seldom one that is refused.
func anyAct(r *rand.Rand) api.Act {
	a := api.Act{Seat: r.Intn(api.Seats), N: r.Intn(2000)}
	switch n := r.Intn(100); {
	case n < 3:
		a.Kind, a.Seat, a.N = wild[r.Intn(len(wild))], wild[r.Intn(len(wild))], wild[r.Intn(len(wild))]
	case n < 6:
		a.Kind, a.Seat = 1+r.Intn(5), wild[r.Intn(len(wild))]
	case n < 16:
		a.Kind = api.ActCome
	case n < 17:
		a.Kind = api.ActLeave
	case n < 27:
		a.Kind = api.ActTake
	case n < 60:
		a.Kind = api.ActPulse
	default:
		a.Kind, a.Bytes = api.ActBytes, phrases[r.Intn(len(phrases))]
	}
	return a
}

// sane is whether a house is as it may be between two acts.
func sane(p party) {
	p.Helper()
	w := p.Land()
	if !land.Good(w) {
		p.Fatalf("%+v", w)
	}
	var players, played []int
	for b := api.Mobiles; b < api.Beings; b++ {
		if w.Beings[b].Here {
			players = append(players, b)
		}
	}
	for i := range api.Seats {
		state, b := p.State(i)
		if state == api.Free {
			p.gone(i)
			continue
		}
		if state == api.Playing {
			played = append(played, b)
			heard(p, i, b)
		} else if state != api.Naming || b != -1 {
			p.Fatalf("seat %d: %d, %d", i, state, b)
		}
		g, l := p.Page(i), p.Line(i)
		if !pager.Good(g) || g.Cut || len(g.Wait) > 0 && !g.Asking || !line.Good(l) {
			p.Fatalf("seat %d: %+v, %+v", i, g, l)
		}
	}
	slices.Sort(played)
	if !slices.Equal(players, played) {
		p.Fatalf("beings %v are about, %v are played", players, played)
	}
}

// heard is whether a seat was told all that its being perceives of what happened, from when it began to be its own, in that order.
func heard(p party, seat, being int) {
	p.Helper()
	told := p.Told(seat)
	for _, e := range since(p.Last(), being) {
		text, ok := sense.Tell(e, being)
		if !ok {
			continue
		}
		at := slices.Index(told, text)
		if at < 0 {
			p.Fatalf("seat %d was not told %q: %q", seat, text, p.Told(seat))
		}
		told = told[at+1:]
	}
}

// since is a row of events behind the last one by which somebody else stopped being that being.
func since(row []api.Event, being int) []api.Event {
	for i := len(row) - 1; i >= 0; i-- {
		if row[i].Kind == api.Faded && row[i].Actor == being {
			return row[i+1:]
		}
	}
	return row
}

func TestAtRandom(t *testing.T) {
	rounds := 300
	if testing.Short() {
		rounds = 30
	}
	cut := 0
	for seed := range rounds {
		r := rand.New(rand.NewSource(int64(seed)))
		p := open(t)
		var acts []api.Act
		var replies []api.Reply
		for range api.MaxActs {
			a := anyAct(r)
			free, _ := p.State(a.Seat)
			reply := p.Do(a)
			acts, replies = append(acts, a), append(replies, reply)
			sane(p)
			if reply.Out != "" && (a.Kind != api.ActTake || reply.Code != api.OK) {
				t.Fatalf("%+v: %+v", a, reply)
			}
			if now, _ := p.State(a.Seat); a.Kind == api.ActBytes && free != api.Free && now == api.Free {
				cut++
			}
		}
		if l, e := house.Run(acts); e != api.OK || !slices.Equal(l, replies) {
			t.Fatalf("seed %d: Run says otherwise than Do", seed)
		}
		p.want(api.Act{Kind: api.ActPulse, N: math.MaxInt64}, api.ErrFull)
	}
	if cut == 0 {
		t.Error("nobody was ever cut off")
	}
}
