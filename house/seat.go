package house

import (
	"inglenook/api"
	"inglenook/line"
	"inglenook/pager"
	"inglenook/sense"
	"inglenook/telnet"
)

// nobody is the being of a seat that plays none yet.
const nobody = -1

// What the house itself tells a seat.
const (
	whoAreYou = "Who are you?"
	tooFast   = "Not so fast."
	noRoom    = "There is no room."
	noName    = "That is no name."
	what      = "What?"
)

// seat is a connection: what comes in, what goes out, whom it plays, and what it was told in this act.
type seat struct {
	codec api.Telnet
	lines api.Line
	page  api.Page
	being int
	told  []string
}

// newSeat is a connection as it begins.
func newSeat() *seat {
	s := &seat{being: nobody}
	var offered, asked string
	s.codec, offered, _ = telnet.Offer(s.codec, api.SGA)
	s.codec, asked, _ = telnet.Ask(s.codec, api.NAWS)
	s.send(offered + asked)
	s.tell(whoAreYou)
	return s
}

// plays is whether a seat is Playing, not Naming.
func (s *seat) plays() bool { return s.being != nobody }

// send sends bytes, ahead of all lines that wait.
func (s *seat) send(bytes string) { s.page, _ = pager.Send(s.page, bytes) }

// tell tells a line, as far as the page takes it: behind a cut nothing is told.
func (s *seat) tell(text string) {
	s.page, _ = pager.Tell(s.page, text)
	if !s.page.Cut {
		s.told = append(s.told, text)
	}
}

// hear tells what the seat's being perceives of an event.
func (s *seat) hear(e api.Event) {
	if text, ok := sense.Tell(e, s.being); ok {
		s.tell(text)
	}
}

// feed has bytes come in.
func (s *seat) feed(bytes string) {
	codec, text, answer, _ := telnet.Feed(s.codec, bytes)
	s.codec = codec
	s.send(answer)
	lines, lost, _ := line.Feed(s.lines, text)
	s.lines = lines
	if lost > 0 {
		s.tell(tooFast)
	}
}

// take has bytes go out, at most so many.
func (s *seat) take(n int) string {
	page, out := pager.Take(s.page, n)
	s.page = page
	return out
}

// next turns the page for the first line that waits, and is that line; false: none waits, or it only asked for more.
func (s *seat) next() (string, bool) {
	lines, typed, ok := line.Next(s.lines)
	if !ok {
		return "", false
	}
	asking := s.page.Asking
	s.lines, s.page = lines, pager.Turn(s.page)
	if asking {
		return "", false
	}
	return typed, true
}

// flow shows what waits, up to the end of the page; false: there was too much, and the page is cut.
func (s *seat) flow() bool {
	s.page, _ = pager.Flow(s.page, s.codec.Height)
	return !s.page.Cut
}
