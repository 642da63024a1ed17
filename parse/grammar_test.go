package parse

import (
	"regexp"
	"slices"
	"strings"

	"conduit/api"
	"conduit/scan"
)

// chapterGrammar is the chapter's, but that a wrap's numbers are at most two, and that a pattern's name is called word.
const chapterGrammar = `
config   = { handler | route }
handler  = "handler" name "=" ( core | "of" name ) { wrap } [ "inbox" number [ "drop" name ] ] [ "after" names ] ";"
core     = name [ [ "-" ] number ] [ "caps" names ]
wrap     = "with" [ "open" ] name [ ":" name ] [ number ] [ number ] [ "caps" names ] [ "when" want ]
route    = "route" text [ "when" want | "else" ] "->" name ";"
names    = name { "," name }
want     = both { "|" both }
both     = one { "&" one }
one      = "!" one | "(" want ")" | word
`

// chapterWords are a pattern's words, in the chapter's order.
const (
	chapterKinds = "nil, int, key, float, text, name, bool, bytes, list, pair, error, pointer, nopointer, unit"
	chapterFaces = "sized, named, failing, opening, ordered, adding, labelled, measured, number, whole"
)

func chapterWords() []string {
	return strings.Split("any, "+chapterKinds+", "+chapterFaces, ", ")
}

// form is a piece of the grammar: one of its forms, of which the parts follow one another. A leaf is a token or the name of a rule.
type form struct {
	sort  string // "leaf", "row", "either", "maybe", "many"
	leaf  string
	parts []*form
}

// chapterRules is read once: very many texts are held against it.
var chapterRules = readRules()

func readRules() map[string]*form {
	rules := map[string]*form{}
	for _, line := range strings.Split(strings.TrimSpace(chapterGrammar), "\n") {
		name, body, _ := strings.Cut(line, "=")
		words := regexp.MustCompile(`"[^"]+"|[a-z]+|[\[\]{}()|]`).FindAllString(body, -1)
		rule, rest := readForm(words)
		if len(rest) != 0 {
			panic(line)
		}
		rules[strings.TrimSpace(name)] = rule
	}
	return rules
}

// readForm reads forms up to what closes them, or the end.
func readForm(words []string) (*form, []string) {
	either := &form{sort: "either", parts: []*form{{sort: "row"}}}
	for len(words) > 0 {
		row := either.parts[len(either.parts)-1]
		word := words[0]
		words = words[1:]
		switch word {
		case "|":
			either.parts = append(either.parts, &form{sort: "row"})
		case "[", "{", "(":
			within, rest := readForm(words)
			words = rest
			if word != "(" {
				within = &form{sort: map[string]string{"[": "maybe", "{": "many"}[word], parts: []*form{within}}
			}
			row.parts = append(row.parts, within)
		case "]", "}", ")":
			return either, words
		default:
			row.parts = append(row.parts, &form{sort: "leaf", leaf: word})
		}
	}
	return either, nil
}

// search tries all that the grammar lets stand at each place, and keeps what it tried at the furthest.
type search struct {
	src    string
	tokens []api.Token
	rules  map[string]*form
	far    int
	tried  []string
}

// ends is the places up to which a form can go from a place on.
func (s *search) ends(f *form, at int) []int {
	switch f.sort {
	case "row":
		now := []int{at}
		for _, p := range f.parts {
			now = s.each(now, p)
		}
		return now
	case "either":
		var l []int
		for _, p := range f.parts {
			l = append(l, s.ends(p, at)...)
		}
		return sorted(l)
	case "maybe":
		return sorted(append(s.ends(f.parts[0], at), at))
	case "many":
		all := []int{at}
		for now := all; len(now) > 0; {
			now = s.each(now, f.parts[0])
			all = append(all, now...)
		}
		return sorted(all)
	}
	if rule := s.rules[f.leaf]; rule != nil {
		return s.ends(rule, at)
	}
	return s.token(f.leaf, at)
}

func (s *search) each(from []int, f *form) []int {
	var l []int
	for _, at := range from {
		l = append(l, s.ends(f, at)...)
	}
	return sorted(l)
}

func (s *search) token(leaf string, at int) []int {
	if at > s.far {
		s.far, s.tried = at, nil
	}
	if at == s.far {
		s.tried = append(s.tried, leaf)
	}
	if at < len(s.tokens) && s.isLeaf(leaf, s.tokens[at]) {
		return []int{at + 1}
	}
	return nil
}

func (s *search) isLeaf(leaf string, t api.Token) bool {
	switch spelt := s.src[t.Pos:t.End]; leaf {
	case "name":
		return t.Kind == api.TokName
	case "number":
		return t.Kind == api.TokNum
	case "text":
		return t.Kind == api.TokText
	case "word":
		return t.Kind == api.TokName && slices.Contains(chapterWords(), spelt)
	default:
		return t.Kind > api.TokText && leaf == `"`+spelt+`"`
	}
}

func sorted(l []int) []int {
	slices.Sort(l)
	return slices.Compact(l)
}

// chapterFault is the fault of a text that is to be of a rule.
func chapterFault(src, rule string) api.Fault {
	tokens, f := scan.Scan([]byte(src))
	if f.Err != api.OK {
		return f
	}
	s := &search{src: src, tokens: tokens, rules: chapterRules}
	whole := slices.Contains(s.ends(s.rules[rule], 0), len(tokens))
	deep := tooDeep(tokens)
	switch {
	case deep < len(tokens) && (whole || deep < s.far):
		return api.Fault{Pos: tokens[deep].Pos, Err: api.ErrDepth}
	case whole:
		return api.Fault{}
	case s.far == len(tokens):
		return api.Fault{Pos: len(src), Err: api.ErrSyntax}
	case tokens[s.far].Kind == api.TokName && slices.Contains(s.tried, "word"):
		return api.Fault{Pos: tokens[s.far].Pos, Err: api.ErrWant}
	}
	return api.Fault{Pos: tokens[s.far].Pos, Err: api.ErrSyntax}
}

// tooDeep is the first token with which more than 32 "(" and "!" are open or wait, as far as the tokens are those of patterns; how many there are, if there is none.
func tooDeep(tokens []api.Token) int {
	var open []int
	operand := func() {
		for len(open) > 0 && open[len(open)-1] == api.TokNot {
			open = open[:len(open)-1]
		}
	}
	for i, t := range tokens {
		switch t.Kind {
		case api.TokNot, api.TokLeft:
			open = append(open, t.Kind)
			if len(open) > 32 {
				return i
			}
		case api.TokRight:
			if len(open) > 0 {
				open = open[:len(open)-1]
			}
			operand()
		case api.TokName:
			operand()
		}
	}
	return len(tokens)
}
