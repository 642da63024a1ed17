package desk

// deed is what a line's first word says.
type deed struct {
	takes string // the operands that stand behind it, a letter each
	open  bool   // it asks for something that lies open
	does  func(said) string
}

// The operands' letters.
const (
	aHandler    = 'H'
	aCapability = 'C'
	aTopic      = 'T'
	aReply      = 'R'
	aNumber     = 'N'
	aValue      = 'V' // the whole rest
	perhapsOne  = 'v' // likewise; KNil, if it is empty
	anything    = '.' // the whole rest, whatever it is
)

// byWords is what each word does.
func (d *Desk) byWords() map[string]deed {
	return map[string]deed{
		"new":   {"", false, d.clear},
		"add":   {".", false, d.add},
		"text":  {"", false, d.text},
		"check": {"", false, d.check},
		"print": {"", false, d.print},
		"open":  {"", false, d.open},

		"lint":    {"", true, d.lint},
		"shown":   {"H", true, d.shown},
		"who":     {"HC", true, d.who},
		"explain": {"TV", true, d.explain},
		"publish": {"TV", true, d.publish},
		"ask":     {"TRNV", true, d.ask},
		"work":    {"N", true, d.work},
		"tick":    {"N", true, d.tick},
		"call":    {"HCv", true, d.call},
		"deep":    {"HCv", true, d.deep},
		"close":   {"", true, d.close},
		"stats":   {"", true, d.stats},
		"save":    {"", true, d.save},
		"load":    {"", true, d.load},
	}
}
