package tests

import (
	"fmt"
	"strconv"
	"strings"
	"testing"

	"loop.example/formatplans/impl"
)

func TestReadRealExamples(t *testing.T) {
	for _, c := range []struct {
		text string
		want impl.Dec
	}{
		{"0", dec(0, 0)},
		{"5", dec(5, 0)},
		{"+5", dec(5, 0)},
		{" 5", dec(5, 0)},
		{"-5", dec(-5, 0)},
		{"+007", dec(7, 0)},
		{"-0", dec(0, 0)},
		{"-0.0", dec(0, 0)},
		{"-0e5%", dec(0, 0)},
		{"0e99", dec(0, 0)},
		{"0e-99", dec(0, 0)},
		{".5", dec(5, -1)},
		{"-.5", dec(-5, -1)},
		{"5.", dec(5, 0)},
		{"5.0", dec(5, 0)},
		{"0.50", dec(5, -1)},
		{"00.050", dec(5, -2)},
		{"1200", dec(12, 2)},
		{"1e5", dec(1, 5)},
		{"1E5", dec(1, 5)},
		{"1e+5", dec(1, 5)},
		{"1e-5", dec(1, -5)},
		{"1E-05", dec(1, -5)},
		{"1e00", dec(1, 0)},
		{"1e-0", dec(1, 0)},
		{"1e0000000000000000000000000005", dec(1, 5)},
		{"5.e1", dec(5, 1)},
		{".5e1", dec(5, 0)},
		{"1.50e2", dec(15, 1)},
		{"50%", dec(5, -1)},
		{"5.%", dec(5, -2)},
		{"-.5%", dec(-5, -3)},
		{"1e2%", dec(1, 0)},
		{" 1.5E+01%", dec(15, -2)},
		{"999999999", dec(999999999, 0)},
		{"999999999e12", dec(999999999, 12)},
		{"-999999999e-12", dec(-999999999, -12)},
		{"9999999990e11", dec(999999999, 12)},
		{"9.99999999e20", dec(999999999, 12)},
		{"999999999e14%", dec(999999999, 12)},
		{"1e20", dec(100000000, 12)},
		{"1e13", dec(10, 12)},
		{"1e12", dec(1, 12)},
		{"1e-12", dec(1, -12)},
		{"1e-10%", dec(1, -12)},
		{"10e-13", dec(1, -12)},
		{"0.000000000001", dec(1, -12)},
		{"0.0000000000010", dec(1, -12)},
		{"100000000000000000000", dec(100000000, 12)},
		{"." + strings.Repeat("0", 75) + "1e76", dec(1, 0)},
		{"1" + strings.Repeat("0", 75) + "e-75", dec(1, 0)},
		{"1" + strings.Repeat("0", 75) + "e-87", dec(1, -12)},
	} {
		if got, ok := impl.ReadReal(c.text); got != c.want || !ok {
			t.Errorf("ReadReal(%q) = %v, %v, want %v", c.text, got, ok, c.want)
		}
	}
}

func TestReadRealRejects(t *testing.T) {
	for _, s := range []string{
		"", ".", "-", "+", " ", "%", "e", "E", "-.", ".%", "e5", ".e5", "-e5", "e5%", "-%", ".e5%",
		"1e", "1E", "1e+", "1e-", "1e%", "1e.", "1e ", "1e 5", "1e+ 5", "1e++5", "1e+-5", "1e5.", "1e.5", "1e5e5", "1e5E5", "1ee5", "1e5 ", "1e5_0", "1e0x5",
		"--1", "+-1", "- 1", "  1", "1 ", "1-", "1+", "\t1", "1\n", "1\x00", "\xff", "\xff1", "１", "٣", "1٣", "é",
		"1.2.3", "1..", "..1", "1.-2", "1. 2", "1 .2", "1,000", "1_000", "1,5", "0x1", "0b1", "1a", "a", "f", "1f", "inf", "Inf", "NaN", "nan", "infinity",
		"ae99", "1,0e99", "1.2.3e99", "--1e99", "- e99", "/e99", ":e99",
		"1%%", "%1", "1%e5", "1%.", "1.%5", "50 %", "1e%5",
		"1e100", "1e-100", "0e100", "0e-100", "1e+0100", "0e9999999999999999999999", "0e-18446744073709551616", "1e18446744073709551617",
		"1e21", "1e99", "1e-13", "1e-99", "1e-11%", "1e-12%", "999999999e13", "1000000001e12", "1e23%",
		"1000000001", "1.000000001", "1234567890.5", "12345678901", "9999999999", "9999999999e-1", "0.0000000000001", "0.0000000000011",
		"18446744073709551617", "340282366920938463463374607431768211457", "100000000000000000001", "1000000000000000000000",
	} {
		if got, ok := impl.ReadReal(s); got != dec(0, 0) || ok {
			t.Errorf("ReadReal(%q) = %v, %v", s, got, ok)
		}
	}
}

func TestReadRealLongestTexts(t *testing.T) {
	for _, c := range []struct {
		start, zeros, end string
		want              impl.Dec
	}{
		{"", "0", "7", dec(7, 0)},
		{"-", "0", "7", dec(-7, 0)},
		{"0.", "0", "", dec(0, 0)},
		{"12.5", "0", "", dec(125, -1)},
		{" 12.5", "0", "%", dec(125, -3)},
		{"+2.5e", "0", "3", dec(25, 2)},
		{"-2.5E-", "0", "03%", dec(-25, -6)},
		{"1", "0", "e-70", dec(1, 5)},
		{"0.", "0", "9e75", dec(9, 0)},
	} {
		fit := c.start + strings.Repeat(c.zeros, impl.MaxText-len(c.start)-len(c.end)) + c.end
		want, wantOK := realOf(fit)
		if got, ok := impl.ReadReal(fit); got != want || ok != wantOK || got != c.want || !ok {
			t.Errorf("ReadReal(%q) = %v, %v, want %v", fit, got, ok, c.want)
		}
		if got, ok := impl.ReadReal(strings.Replace(fit, "00", "000", 1)); got != dec(0, 0) || ok {
			t.Errorf("ReadReal of one byte more than %q = %v, %v", fit, got, ok)
		}
	}
	if got, ok := impl.ReadReal(strings.Repeat("0", 1000)); ok {
		t.Errorf("ReadReal of 1000 zeros = %v", got)
	}
}

// checkRead checks ReadReal, and that what is read can be written.
func checkRead(t *testing.T, text string) {
	t.Helper()
	want, wantOK := realOf(text)
	d, ok := impl.ReadReal(text)
	if d != want || ok != wantOK {
		t.Fatalf("ReadReal(%q) = %v, %v, want %v, %v", text, d, ok, want, wantOK)
	}
	if !ok {
		return
	}
	written := impl.PlainText(d)
	if d.Neg {
		written = "-" + written
	}
	if back, ok := impl.ReadReal(written); back != d || !ok {
		t.Fatalf("ReadReal(%q) = %v, %v, want %v of %q", written, back, ok, d, text)
	}
}

func TestPromise39WhatIsReadCanBeWritten(t *testing.T) {
	check := func(text string) { checkRead(t, text) }
	eachText("", "09.eE-+ %", 5, check)
	for _, start := range []string{
		"1e1", "1e-1", "-1e+", "1e2", "9e-", "999999999", "99999999.", "-0.00000000000", "1.5", ".5e", "1e00", "100000000000000000000", "1e9", "50%", "5e1.",
	} {
		eachText(start, "0129.eE-%", 3, check)
	}
	for b := range 256 {
		for _, text := range []string{"5", "-5", "1.5", "-12.5e+07%", "2E3", ".5%"} {
			for at := range len(text) + 1 {
				check(text[:at] + string([]byte{byte(b)}) + text[at:])
			}
		}
	}
}

func TestReadRealOfAllPowers(t *testing.T) {
	for _, digits := range []string{"0", "1", "-999999999", "1000000001", "0.000000005", "100000000000000000000000000", ".00000000000000000000000012"} {
		for power := -101; power <= 101; power++ {
			for _, end := range []string{"", "%"} {
				checkRead(t, digits+"e"+strconv.Itoa(power)+end)
				checkRead(t, digits+"E"+fmt.Sprintf("%+04d", power)+end)
			}
		}
	}
}
