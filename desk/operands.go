package desk

import (
	"strconv"
	"strings"

	"conduit/api"
	"conduit/caps"
	"conduit/datum"
	"conduit/topic"
)

const blanks = " \t"

// cut takes the first word off: it, and what stands behind it and one byte more. Of no words both are empty.
func cut(s string) (word, rest string) {
	s = strings.TrimLeft(s, blanks)
	end := strings.IndexAny(s, blanks)
	if end < 0 {
		return s, ""
	}
	return s[:end], s[end+1:]
}

// split cuts what stands behind a line's first word into the operands that are taken; false: they are not those.
func split(takes, rest string) (operands []string, ok bool) {
	for _, letter := range takes {
		var x string
		switch letter {
		case aValue, perhapsOne, anything:
			x, rest = rest, ""
		default:
			x, rest = cut(rest)
		}
		if !mayBe(letter, x) {
			return nil, false
		}
		operands = append(operands, x)
	}
	more, _ := cut(rest)
	return operands, more == ""
}

// mayBe tells what can be told of an operand without what lies open.
func mayBe(letter rune, x string) bool {
	switch letter {
	case perhapsOne, anything:
		return true
	case aNumber:
		_, is := number(x)
		return is
	}
	return x != ""
}

// number reads one that the desk takes.
func number(s string) (int64, bool) {
	n, err := strconv.ParseInt(s, 10, 64)
	// Each has one form alone: no zeros ahead, no sign of one that is not below 0.
	if err != nil || strconv.FormatInt(n, 10) != s || n < 0 || n > api.DeskMost {
		return 0, false
	}
	return n, true
}

// said is what a line's operands say; those that were not taken are zero.
type said struct {
	handler int
	which   int // of the capabilities
	topic   string
	reply   string
	number  int64
	value   api.Datum
	rest    string
}

// understand gives operands their meaning on what lies open, or tells the first one that has none.
func (o *opened) understand(takes string, operands []string) (said, api.Errno) {
	var s said
	for i, letter := range takes {
		if fault := s.take(o, letter, operands[i]); fault != api.OK {
			return said{}, fault
		}
	}
	return s, api.OK
}

func (s *said) take(o *opened, letter rune, x string) api.Errno {
	switch letter {
	case aHandler:
		s.handler = o.numberOf(x)
		return unless(s.handler >= 0, api.ErrNobody)
	case aCapability:
		s.which = caps.Number(x)
		return unless(s.which >= 0, api.ErrCaps)
	case aTopic:
		s.topic = x
		return unless(topic.Name(x), api.ErrTopic)
	case aReply:
		s.reply = x
		return unless(topic.Name(x), api.ErrTopic)
	case aNumber:
		s.number, _ = number(x)
	case aValue:
		return s.takeValue(x)
	case perhapsOne:
		if x != "" {
			return s.takeValue(x)
		}
	case anything:
		s.rest = x
	}
	return api.OK
}

func (s *said) takeValue(x string) (fault api.Errno) {
	s.value, fault = datum.Parse(x)
	return fault
}

func unless(holds bool, fault api.Errno) api.Errno {
	if holds {
		return api.OK
	}
	return fault
}
