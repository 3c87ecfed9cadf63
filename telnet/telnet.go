// Package telnet: see ../../shared/doc/01-telnet.md.
package telnet

import "inglenook/api"

// Where a codec is (At).
const (
	inText     = 0
	behindIAC  = 1
	behindVerb = 2
	inSub      = 3
	subIAC     = 4 // behind an IAC in what is told of an option
)

// windowBytes is what is told of a window: its option, its width and its height, two bytes each.
const windowBytes = 5

// Good is whether a codec is one.
func Good(t api.Telnet) bool {
	return goodPlace(t) && goodOptions(t) && t.Height >= 0 && t.Height <= api.MaxHeight
}

// goodPlace is whether Verb and Sub are as they may be where the codec is.
func goodPlace(t api.Telnet) bool {
	if t.At < inText || t.At > subIAC || len(t.Sub) > api.MaxSub {
		return false
	}
	if t.At < inSub && t.Sub != "" {
		return false
	}
	if t.At == behindVerb {
		return t.Verb >= api.WILL && t.Verb <= api.DONT
	}
	return t.Verb == 0
}

// goodOptions is whether each side's options are in a state that they may be in.
func goodOptions(t api.Telnet) bool {
	for _, opt := range [3]int{api.ECHO, api.SGA, api.NAWS} {
		i := place(opt)
		if !goodState(t.Us[i], ours(&t, opt) != nil) || !goodState(t.Them[i], theirs(&t, opt) != nil) {
			return false
		}
	}
	return true
}

// goodState is whether an option may be in a state, by whether it is known for its side.
func goodState(state int, known bool) bool {
	switch state {
	case api.No:
		return true
	case api.Yes, api.Asked:
		return known
	}
	return false
}

// place is where an option stands in Us and Them; -1: nowhere.
func place(opt int) int {
	switch opt {
	case api.ECHO:
		return 0
	case api.SGA:
		return 1
	case api.NAWS:
		return 2
	}
	return -1
}

// ours points to the state of an option on this side; nil: it is not known there.
func ours(t *api.Telnet, opt int) *int {
	if opt == api.ECHO || opt == api.SGA {
		return &t.Us[place(opt)]
	}
	return nil
}

// theirs points to the state of an option on the other side; nil: it is not known there.
func theirs(t *api.Telnet, opt int) *int {
	if opt == api.SGA || opt == api.NAWS {
		return &t.Them[place(opt)]
	}
	return nil
}

// Feed is the codec behind bytes: what is text of them, and what is answered.
func Feed(t api.Telnet, s string) (api.Telnet, string, string, api.Errno) {
	if !Good(t) {
		return t, "", "", api.ErrRange
	}
	var text, answer []byte
	for i := 0; i < len(s); i++ {
		b := s[i]
		switch t.At {
		case inText:
			if b == api.IAC {
				t.At = behindIAC
			} else {
				text = append(text, b)
			}
		case behindIAC:
			if b == api.IAC {
				text = append(text, b)
			}
			command(&t, int(b))
		case behindVerb:
			answer = append(answer, settle(&t, int(b))...)
		case inSub:
			if b == api.IAC {
				t.At = subIAC
			} else {
				keep(&t, b)
			}
		case subIAC:
			if b == api.IAC {
				t.At = inSub
				keep(&t, b)
			} else {
				finish(&t, b)
			}
		}
	}
	return t, string(text), string(answer), api.OK
}

// command goes where the byte behind an IAC leads.
func command(t *api.Telnet, b int) {
	switch b {
	case api.SB:
		t.At, t.Sub = inSub, ""
	case api.WILL, api.WONT, api.DO, api.DONT:
		t.At, t.Verb = behindVerb, b
	default:
		t.At = inText
	}
}

// settle does what Verb says of an option, and is what is answered.
func settle(t *api.Telnet, opt int) string {
	verb := t.Verb
	t.At, t.Verb = inText, 0
	switch verb {
	case api.DO:
		return begin(ours(t, opt), api.WILL, api.WONT, opt)
	case api.DONT:
		return end(ours(t, opt), api.WONT, opt)
	case api.WILL:
		return begin(theirs(t, opt), api.DO, api.DONT, opt)
	case api.WONT:
		return end(theirs(t, opt), api.DONT, opt)
	}
	return ""
}

// begin sets a state to Yes. It is answered only where it was No: what was Asked for or is so already would be answered for ever by two sides.
func begin(state *int, agree, refuse, opt int) string {
	if state == nil {
		return say(refuse, opt)
	}
	was := *state
	*state = api.Yes
	if was == api.No {
		return say(agree, opt)
	}
	return ""
}

// end sets a state to No, and is what is answered, if it was Yes.
func end(state *int, agree, opt int) string {
	if state == nil {
		return ""
	}
	was := *state
	*state = api.No
	if was == api.Yes {
		return say(agree, opt)
	}
	return ""
}

// say is the three bytes that tell the other side of an option.
func say(verb, opt int) string {
	return string([]byte{api.IAC, byte(verb), byte(opt)})
}

// keep puts a byte behind Sub, as long as there is room.
func keep(t *api.Telnet, b byte) {
	if len(t.Sub) < api.MaxSub {
		t.Sub += string([]byte{b})
	}
}

// finish ends what is told of an option; only behind SE it is heeded.
func finish(t *api.Telnet, b byte) {
	window := len(t.Sub) == windowBytes && t.Sub[0] == api.NAWS
	if b == api.SE && window && *theirs(t, api.NAWS) == api.Yes {
		t.Height = min(int(t.Sub[3])<<8|int(t.Sub[4]), api.MaxHeight)
	}
	t.At, t.Sub = inText, ""
}

// Offer is the codec that has offered to do an option, and what it says.
func Offer(t api.Telnet, opt int) (api.Telnet, string, api.Errno) {
	if !Good(t) {
		return t, "", api.ErrRange
	}
	said, err := propose(ours(&t, opt), api.WILL, opt)
	return t, said, err
}

// Ask is the codec that has asked for an option, and what it says.
func Ask(t api.Telnet, opt int) (api.Telnet, string, api.Errno) {
	if !Good(t) {
		return t, "", api.ErrRange
	}
	said, err := propose(theirs(&t, opt), api.DO, opt)
	return t, said, err
}

// propose sets a state that is No to Asked, and is what is sent then.
func propose(state *int, verb, opt int) (string, api.Errno) {
	if state == nil {
		return "", api.ErrNone
	}
	if *state != api.No {
		return "", api.OK
	}
	*state = api.Asked
	return say(verb, opt), api.OK
}

// Escape is text as bytes.
func Escape(s string) string {
	var out []byte
	for i := 0; i < len(s); i++ {
		if s[i] == api.IAC {
			out = append(out, api.IAC)
		}
		out = append(out, s[i])
	}
	return string(out)
}
