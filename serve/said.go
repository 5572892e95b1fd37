package serve

import (
	"remuda/api"
	"remuda/back"
)

// said is what was said, and is still to be taken, the oldest ahead.
type said struct {
	messages []api.Msg
}

// say has each of l wait behind all; what may not be said has no message.
func (s *said) say(l ...api.Back) {
	for _, b := range l {
		if m, e := back.Encode(b); e == api.OK {
			s.messages = append(s.messages, m)
		}
	}
}

// take answers the oldest message, and gives it up.
func (s *said) take() (api.Msg, bool) {
	if len(s.messages) == 0 {
		return api.Msg{}, false
	}
	m := s.messages[0]
	// The list's array would keep the body of a message that is only cut off.
	s.messages[0] = api.Msg{}
	s.messages = s.messages[1:]
	return m, true
}
