package house

import (
	"testing"

	"inglenook/api"
)

// There are as many seats as players, so that only a land in which others are about has no room.
func TestNoRoom(t *testing.T) {
	h := New()
	for b := api.Mobiles; b < api.Beings; b++ {
		h.land.Beings[b] = api.Being{Name: string(rune('a' + b)), Here: true, Room: 5, Health: 1}
	}
	was := h.land
	h.Do(api.Act{Kind: api.ActCome})
	for typed, want := range map[string]string{"ann": noRoom, " ann ": noRoom, "Ann": noName, "c": noName} {
		h.Do(api.Act{Kind: api.ActBytes, Bytes: typed + "\n"})
		h.Do(api.Act{Kind: api.ActPulse})
		if l := h.Told(0); len(l) != 1 || l[0] != want {
			t.Errorf("%q: told %q; wanted %q", typed, l, want)
		}
		if s, b := h.State(0); s != api.Naming || b != nobody || h.land != was || len(h.Last()) != 0 {
			t.Errorf("%q: %d, %d", typed, s, b)
		}
	}
	// as soon as there is some
	h.land.Beings[4] = api.Being{}
	h.Do(api.Act{Kind: api.ActBytes, Bytes: "ann\n"})
	h.Do(api.Act{Kind: api.ActPulse})
	if s, b := h.State(0); s != api.Playing || b != 4 {
		t.Errorf("%d, %d", s, b)
	}
}

// A line that finds no room, or comes behind a cut, is not among what was told.
func TestCutIsNotTold(t *testing.T) {
	s := newSeat()
	s.page.Wait = make([]string, api.MaxWait-1)
	s.told = nil
	for _, text := range []string{"fits", "one too many", "behind the cut"} {
		s.tell(text)
	}
	if len(s.told) != 1 || s.told[0] != "fits" || len(s.page.Wait) != api.MaxWait || !s.page.Cut {
		t.Errorf("%q, %+v", s.told, s.page)
	}
}
