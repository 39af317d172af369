package record

import (
	"octroi/api"
	"octroi/blob"
)

// write writes a command that may be.
func write(w *blob.Writer, c api.Command) {
	w.Num(c.Kind)
	switch c.Kind {
	case api.CmdSetup:
		w.Text(c.Country).Num(c.Index).Num(c.Day)
	case api.CmdRate:
		w.Text(c.Country).Num(c.Category).Num(c.Day).Num(c.Until).Num(c.Bp)
	case api.CmdStatus:
		w.Text(c.Country).Text(c.Text)
		fallthrough
	case api.CmdOpt:
		w.Num(c.Day).Num(c.Until)
	case api.CmdFx:
		w.Text(c.Text).Num(c.Period.Year).Num(c.Period.Index).Num(c.Num).Num(c.Den)
	case api.CmdProgram:
		w.Text(c.Text)
	case api.CmdShare:
		w.Num(c.Period.Year).Num(c.Num)
	case api.CmdDoc:
		writeDoc(w, c.Doc)
	case api.CmdClose, api.CmdFile:
		w.Num(c.Period.Kind).Num(c.Period.Year).Num(c.Period.Index)
	case api.CmdYear:
		w.Num(c.Period.Year)
	}
}

// writeDoc writes a document.
func writeDoc(w *blob.Writer, d api.Doc) {
	w.Text(d.ID).Flag(d.Sale).Flag(d.Credit).Text(d.Refers)
	w.Num(d.Day).Text(d.Country).Text(d.Number).Text(d.Currency)
	w.Num(len(d.Lines))
	for _, l := range d.Lines {
		w.Num(l.Supply).Num(l.Category).Text(l.From).Text(l.To).Text(l.Place)
		w.Num(l.Amount).Flag(l.Gross).Num(l.Cost).Flag(l.Mixed)
	}
}

// read tells the command that stands next, which may be or not; of a reader that is bad then, anything.
func read(r *blob.Reader) api.Command {
	num, text := r.Num, r.Text
	c := api.Command{Kind: num()}
	switch c.Kind {
	case api.CmdSetup:
		c.Country, c.Index, c.Day = text(), num(), num()
	case api.CmdRate:
		c.Country, c.Category, c.Day, c.Until, c.Bp = text(), num(), num(), num(), num()
	case api.CmdStatus:
		c.Country, c.Text = text(), text()
		fallthrough
	case api.CmdOpt:
		c.Day, c.Until = num(), num()
	case api.CmdFx:
		c.Text = text()
		c.Period = api.Period{Kind: api.Quarter, Year: num(), Index: num()}
		c.Num, c.Den = num(), num()
	case api.CmdProgram:
		c.Text = text()
	case api.CmdShare:
		c.Period, c.Num = year(num()), num()
	case api.CmdDoc:
		c.Doc = readDoc(r)
	case api.CmdClose, api.CmdFile:
		c.Period = api.Period{Kind: num(), Year: num(), Index: num()}
	case api.CmdYear:
		c.Period = year(num())
	}
	return c
}

// readDoc tells the document that stands next.
func readDoc(r *blob.Reader) api.Doc {
	num, text, flag := r.Num, r.Text, r.Flag
	d := api.Doc{
		ID: text(), Sale: flag(), Credit: flag(), Refers: text(),
		Day: num(), Country: text(), Number: text(), Currency: text(),
	}
	many := num()
	if many > api.MaxLines { // no such document may be, and nobody reads that far
		return api.Doc{}
	}
	for range many {
		d.Lines = append(d.Lines, api.Line{
			Supply: num(), Category: num(), From: text(), To: text(), Place: text(),
			Amount: num(), Gross: flag(), Cost: num(), Mixed: flag(),
		})
	}
	return d
}

// year tells a year as a period.
func year(n int) api.Period { return api.Period{Kind: api.Year, Year: n, Index: 1} }
